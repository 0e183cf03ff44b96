/-
  The iterator over a wheel's slots: a loop over it comes to each slot that is near, each that is far, and the rest.
-/
import Derived.Test.YtanpmbjjppfkeaaIter1
import Derived.Test.YtanpmbjjppfkeaaAWheel
import Derived.Lib.SmallJoins
namespace Go.Proofs.Ytanpmbjjppfkeaa
open Go.RowKit Go.Shelf
set_option linter.unusedVariables false
set_option maxRecDepth 100000
attribute [local go_sem] Oper.semAt_some

/-- A slot: the value that is handed on, and what lies there. -/
def Slot (w0 : World) (S : Nat → Prop) : Type := { q : Value × List TimerD // LAt 3 timerR w0 S q.1 q.2 ∧ q.2.length ≤ 1048576 }
def slotE {w0 : World} {S : Nat → Prop} (x : Int × Int × Slot w0 S) : Array Value := #[.agg #[.int .i64 x.1, .int .i64 x.2.1], x.2.2.1.1]
theorem slots_of {w0 : World} {S : Nat → Prop} {a : Option Addr} {m cap : Nat} {ls : List (List TimerD)} (h : LAt 1 timerSR w0 S (.slice a m cap) ls) (hb : ∀ x ∈ ls, x.length ≤ 1048576) : ∃ ys : List (Slot w0 S), ys.length = ls.length ∧ ys.map (fun y => y.1.2) = ls ∧ ∀ (k : Nat) (hk : k < ys.length), ∃ b o, a = some ⟨b, o, none⟩ ∧ b < w0.heap.size ∧ w0.cell? ⟨b, o + k, none⟩ = some ys[k].1.1 := by
  have hat : ∀ i (hi : i < ls.length), ∃ y : Slot w0 S, y.1.2 = ls[i] ∧ ∃ b o, a = some ⟨b, o, none⟩ ∧ b < w0.heap.size ∧ w0.cell? ⟨b, o + i, none⟩ = some y.1.1 := by
    intro i hi
    obtain ⟨b, o, cs, e, hbk, _, hcs, hin⟩ := h.at i hi
    obtain ⟨s0, rfl, y0⟩ := hcs
    exact ⟨⟨(s0, ls[i]), y0, hb _ (List.getElem_mem hi)⟩, rfl, b, o, e, hbk, by have := hin 0 _ rfl; simpa using this⟩
  refine ⟨(List.finRange ls.length).map (fun i => Classical.choose (hat i.1 i.2)), by simp, ?_, ?_⟩
  · apply List.ext_getElem
    · simp
    · intro i h1 h2
      simp only [List.map_map, List.getElem_map, List.getElem_finRange, Function.comp]
      exact (Classical.choose_spec (hat i h2)).1
  · intro k hk
    have hk' : k < ls.length := by simpa using hk
    simp only [List.getElem_map, List.getElem_finRange]
    exact (Classical.choose_spec (hat k hk')).2
/-- What lay below n is as it was, and so is one block more. -/
def KpB (n B : Nat) (W W' : World) : Prop := Below n W W' ∧ W'.heap[B]? = W.heap[B]?
theorem KpB.refl (n B : Nat) (W : World) : KpB n B W W := ⟨Below.refl _ _, rfl⟩
theorem KpB.trans {n B : Nat} {X Y Z : World} (h : KpB n B X Y) (k : KpB n B Y Z) : KpB n B X Z := ⟨h.1.trans k.1, k.2.trans h.2⟩
theorem KpB.cell {n B : Nat} {W W' : World} (h : KpB n B W W') (i : Nat) : W'.cell? ⟨B, i, none⟩ = W.cell? ⟨B, i, none⟩ := World.cell?_of_block (w := W) h.2
def places {w0 : World} {S : Nat → Prop} (p : Int) (ys : List (Slot w0 S)) : List (Int × Int × Slot w0 S) := ys.mapIdx (fun i y => (p, (i : Int), y))
theorem places_len {w0 : World} {S : Nat → Prop} (p : Int) (ys : List (Slot w0 S)) : (places p ys).length = ys.length := by simp [places]
theorem places_take {w0 : World} {S : Nat → Prop} (p : Int) (ys : List (Slot w0 S)) (k : Nat) (hk : k < ys.length) : (places p ys).take (k + 1) = (places p ys).take k ++ [(p, (k : Int), ys[k])] := by
  rw [List.take_succ_eq_append_getElem (by rw [places_len]; exact hk)]
  simp [places]
set_option maxRecDepth 100000 in
set_option maxHeartbeats 4000000 in
theorem slots1_in (F : Fence) (n : Nat) (hf : F.fn 84) (hro : F.round = none) (hn : 1 ≤ n) (l Bn B0 : Nat) (w0 : World) (S : Nat → Prop) (now : Int) (aN aF : Option Addr) (mN cN mF cF : Nat) (nS fS : List (Slot w0 S)) (rS : Slot w0 S)
    (hmN : mN = nS.length) (hmF : mF = fS.length) (hlN : mN ≤ 1048576) (hlF : mF ≤ 1048576)
    (hN : ∀ (k : Nat) (hk : k < nS.length), ∃ b o, aN = some ⟨b, o, none⟩ ∧ b < w0.heap.size ∧ w0.cell? ⟨b, o + k, none⟩ = some nS[k].1.1)
    (hF : ∀ (k : Nat) (hk : k < fS.length), ∃ b o, aF = some ⟨b, o, none⟩ ∧ b < w0.heap.size ∧ w0.cell? ⟨b, o + k, none⟩ = some fS[k].1.1)
    (J Jx : List (Int × Int × Slot w0 S) → World → Prop)
    (hY : ∀ pre x W, J pre W → pre.length < nS.length + fS.length + 1 → YieldAt F (n - 1) Try.prog l (slotE x) W fun e W' =>
      (e = .returned (.bool true) ∧ J (pre ++ [x]) W' ∧ KpB w0.heap.size Bn W W') ∨ (e = .returned (.bool false) ∧ Jx (pre ++ [x]) W'))
    (W : World) (hW : Below w0.heap.size w0 W) (hc0 : Held W Bn [.int .i64 now, .slice aN mN cN, .slice aF mF cF, rS.1.1]) (h0 : J [] W) :
    CallsIn F n Try.prog 84 #[.func (.yield l) #[] #[], .pointer (some ⟨Bn, 0, none⟩)] W fun e W' => (∃ v, e = .returned v) ∧
      ((∃ ys, ys = places 0 nS ++ places 1 fS ++ [(2, 0, rS)] ∧ J ys W') ∨ (∃ pre, Jx pre W')) := by
  obtain ⟨aR, kR, eR⟩ := rS.2.1.form
  refine callsIn_of_wp Try.func84 rfl hf ?_ hro
  simp only [Try.ntmps84, List.size_toArray, List.length_cons, List.length_nil, Nat.reduceAdd, Nat.reduceSub, Array.replicate_succ, Array.replicate_zero, List.push_toArray, List.append_toArray, List.nil_append, List.cons_append]
  have p1 := hc0.2 1 _ rfl
  gi_wp2
  clear p1
  gi_loopw [10] (fun i wr => ∃ k : Nat, k ≤ mN ∧ i = .int .i64 k ∧ J ((places 0 nS).take k) wr ∧ KpB w0.heap.size Bn W wr) (fun i _ => mN - (intOf i).toNat)
  case atStart => exact ⟨0, Nat.zero_le _, rfl, by simpa using h0, KpB.refl _ _ _⟩
  case round =>
    obtain ⟨k, hk, rfl, hJs, hnx⟩ := hrel
    by_cases hlt : k < mN
    · have hki : (k : Int) < (mN : Int) := by omega
      have hkN : k < nS.length := by omega
      obtain ⟨b, o, rfl, hb, hcell⟩ := hN k hkN
      have c0 : wr.cell? ⟨b, o + k, none⟩ = some nS[k].1.1 := by rw [hnx.1.cell (p := ⟨b, o + k, none⟩) hb, hW.cell (p := ⟨b, o + k, none⟩) hb]; exact hcell
      have HT := hide (places_take 0 nS k hkN)
      obtain ⟨aK, kK, eK⟩ := nS[k].2.1.form
      obtain ⟨fn, tmps, assign, body, hy, hR⟩ := hY _ (0, (k : Int), nS[k]) wr hJs (by rw [List.length_take, places_len]; omega)
      dsimp only [slotE] at hy
      rw [eK] at c0 hy
      clear hcell eK
      gi_wp2
      refine hR.mono ?_
      rintro e W3 (⟨rfl, hJ3, hk3⟩ | ⟨rfl, hJx3⟩)
      · gi_wp2
        go_roundw
        case rel => exact ⟨k + 1, by omega, by simp, by rw [unhide HT]; exact hJ3, hnx.trans hk3⟩
        case measure => simp [intOf]; omega
      · gi_wp2
        refine bodyPost_ret (results_none rfl _ _ _) rfl ?_
        exact ⟨⟨_, rfl⟩, .inr ⟨_, hJx3⟩⟩
    · have hki : ¬ (k : Int) < (mN : Int) := by omega
      obtain rfl : k = mN := by omega
      have hJ1 : J (places 0 nS) wr := by rw [List.take_of_length_le (by rw [places_len]; omega)] at hJs; exact hJs
      have hc1 : Held wr Bn _ := ⟨Nat.lt_of_lt_of_le hc0.1 hnx.1.size, fun i v hv => by rw [hnx.cell i]; exact hc0.2 i v hv⟩
      have p2 := hc1.2 2 _ rfl
      have HJ1 := hide hJ1
      clear hJs hJ1
      gi_wp2
      clear p2
      gi_loopw [25] (fun i wr => ∃ k : Nat, k ≤ mF ∧ i = .int .i64 k ∧ J (places 0 nS ++ (places 1 fS).take k) wr ∧ KpB w0.heap.size Bn W wr) (fun i _ => mF - (intOf i).toNat)
      case atStart => exact ⟨0, Nat.zero_le _, rfl, by simpa using unhide HJ1, hnx⟩
      case round =>
        obtain ⟨k, hk, rfl, hJs, hnx⟩ := hrel
        clear HJ1
        by_cases hlt : k < mF
        · have hki : (k : Int) < (mF : Int) := by omega
          have hkF : k < fS.length := by omega
          obtain ⟨b, o, rfl, hb, hcell⟩ := hF k hkF
          have c0 : wr.cell? ⟨b, o + k, none⟩ = some fS[k].1.1 := by rw [hnx.1.cell (p := ⟨b, o + k, none⟩) hb, hW.cell (p := ⟨b, o + k, none⟩) hb]; exact hcell
          have HT := hide (places_take 1 fS k hkF)
          obtain ⟨aK, kK, eK⟩ := fS[k].2.1.form
          obtain ⟨fn, tmps, assign, body, hy, hR⟩ := hY _ (1, (k : Int), fS[k]) wr hJs (by rw [List.length_append, List.length_take, places_len, places_len]; omega)
          dsimp only [slotE] at hy
          rw [eK] at c0 hy
          clear hcell eK
          gi_wp2
          refine hR.mono ?_
          rintro e W3 (⟨rfl, hJ3, hk3⟩ | ⟨rfl, hJx3⟩)
          · gi_wp2
            go_roundw
            case rel => exact ⟨k + 1, by omega, by simp, by rw [unhide HT, ← List.append_assoc]; exact hJ3, hnx.trans hk3⟩
            case measure => simp [intOf]; omega
          · gi_wp2
            refine bodyPost_ret (results_none rfl _ _ _) rfl ?_
            exact ⟨⟨_, rfl⟩, .inr ⟨_, hJx3⟩⟩
        · have hki : ¬ (k : Int) < (mF : Int) := by omega
          obtain rfl : k = mF := by omega
          have hJ1 : J (places 0 nS ++ places 1 fS) wr := by rw [List.take_of_length_le (by rw [places_len]; omega)] at hJs; exact hJs
          have hc1 : Held wr Bn _ := ⟨Nat.lt_of_lt_of_le hc0.1 hnx.1.size, fun i v hv => by rw [hnx.cell i]; exact hc0.2 i v hv⟩
          have p3 := hc1.2 3 _ rfl
          obtain ⟨fn, tmps, assign, body, hy, hR⟩ := hY _ (2, 0, rS) wr hJ1 (by rw [List.length_append, places_len, places_len]; omega)
          dsimp only [slotE] at hy
          rw [eR] at p3 hy
          clear hJs hJ1
          gi_wp2
          refine hR.mono ?_
          rintro e W3 (⟨rfl, hJ3, hk3⟩ | ⟨rfl, hJx3⟩)
          · gi_wp2
            go_end0
            exact ⟨⟨_, rfl⟩, .inl (by first | exact hJ3 | exact ⟨_, rfl, hJ3⟩)⟩
          · gi_wp2
            go_end0
            exact ⟨⟨_, rfl⟩, .inr ⟨_, hJx3⟩⟩
set_option maxHeartbeats 1000000 in
theorem slotsOf_in (F : Fence) (n : Nat) (hf : F.fn 66) (hro : F.round = none) (now : Int) (aN aF aR : Option Addr) (mN cN mF cF mR cR : Nat) (w : World) :
    CallsIn F n Try.prog 66 #[.agg #[.int .i64 now, .slice aN mN cN, .slice aF mF cF, .slice aR mR cR]] w fun e w' => e = .returned (.func (.func 84) #[] #[.pointer (some ⟨w.heap.size, 0, none⟩)]) ∧ w' = w.alloc (.cells #[.int .i64 now, .slice aN mN cN, .slice aF mF cF, .slice aR mR cR] 32) := by
  refine callsIn_of_wp Try.func66 rfl hf ?_ hro
  simp only [Try.ntmps66, List.size_toArray, List.length_cons, List.length_nil, Nat.reduceAdd, Nat.reduceSub, Array.replicate_succ, Array.replicate_zero, List.push_toArray, List.append_toArray, List.nil_append, List.cons_append]
  gi_wp2
  go_ret
  exact ⟨rfl, rfl⟩
theorem slots_stops (F : Fence) (n : Nat) (hf : F.fn 84) (hro : F.round = none) (hn : 1 ≤ n) (Bn : Nat) (w0 : World) (S : Nat → Prop) (now : Int) (aN aF : Option Addr) (mN cN mF cF : Nat) (nS fS : List (Slot w0 S)) (rS : Slot w0 S)
    (hmN : mN = nS.length) (hmF : mF = fS.length) (hlN : mN ≤ 1048576) (hlF : mF ≤ 1048576)
    (hN : ∀ (k : Nat) (hk : k < nS.length), ∃ b o, aN = some ⟨b, o, none⟩ ∧ b < w0.heap.size ∧ w0.cell? ⟨b, o + k, none⟩ = some nS[k].1.1)
    (hF : ∀ (k : Nat) (hk : k < fS.length), ∃ b o, aF = some ⟨b, o, none⟩ ∧ b < w0.heap.size ∧ w0.cell? ⟨b, o + k, none⟩ = some fS[k].1.1)
    (w : World) (hw0 : Below w0.heap.size w0 w) (hc : Held w Bn [.int .i64 now, .slice aN mN cN, .slice aF mF cF, rS.1.1]) :
    SeqStopsK F n Try.prog 84 #[.pointer (some ⟨Bn, 0, none⟩)] slotE (KpB w0.heap.size Bn) (fun ys => ys = places 0 nS ++ places 1 fS ++ [(2, 0, rS)]) (fun _ => True) (nS.length + fS.length + 1) w := fun l J Jx W hW hJ _ hY h0 =>
  (slots1_in F n hf hro hn l Bn 0 w0 S now aN aF mN cN mF cF nS fS rS hmN hmF hlN hlF hN hF J Jx hY W (hw0.trans (hW.mono hw0.size)) (hc.keep hW) h0).mono (fun e W' h => ⟨h.1, h.2.imp id (fun ⟨pre, hp⟩ => ⟨pre, trivial, hp⟩)⟩)
end Go.Proofs.Ytanpmbjjppfkeaa
