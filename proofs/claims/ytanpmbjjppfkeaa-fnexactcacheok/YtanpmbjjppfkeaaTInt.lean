/-
  Lists of ints: what lies in memory, and the contracts of the law's comparison, marks and look at them.
-/
import Derived.Test.YtanpmbjjppfkeaaMark
import Derived.Test.YtanpmbjjppfkeaaInts
namespace Go.Proofs.Ytanpmbjjppfkeaa
open Go.ChangeShapes Go.WideShapes Go.ChangeAt Go.RowKit
set_option linter.unusedVariables false
set_option maxRecDepth 100000

def intR (w : World) (S : Nat → Prop) (cs : List Value) (x : Int) : Prop := cs = [.int .i64 x]
def intO (w : World) (S : Nat → Prop) (cs : List Value) (x : Int) : Prop := cs = [.int .i64 x]
theorem intR_keeps : Keeps intR := fun _ _ _ _ _ _ _ _ h => h
theorem intR_widens : Widens intR := fun _ _ _ _ _ _ h => h
theorem intO_keeps : Keeps intO := fun _ _ _ _ _ _ _ _ h => h
theorem intO_widens : Widens intO := fun _ _ _ _ _ _ h => h
theorem intO_read (w : World) (S : Nat → Prop) (cs : List Value) (x : Int) (h : intO w S cs x) : intR w S cs x := h
theorem ints_at {w : World} {S : Nat → Prop} {v : Value} {l : List Int} (h : LAt 1 intR w S v l) : IntsAt w v l := by
  obtain ⟨a, cap, rfl, hl, h⟩ := h
  refine ⟨a, cap, rfl, hl, ?_⟩
  rcases h with h | ⟨b, o, h1, h2, h3, h4⟩
  · exact .inl h
  · refine .inr ⟨b, o, h1, h2, fun i hi => ?_⟩
    obtain ⟨cs, rfl, hin⟩ := h4 i l[i] (List.getElem?_eq_getElem hi)
    have := hin 0 _ rfl
    rw [Nat.mul_one, Nat.add_zero] at this
    rw [this]
    simp [List.getD, hi]
def mkIntS (n : Nat) (k : Int) : List Int := byPlace (fun i => k + (i : Int)) n
theorem mEqIntS (l : List Int) (S S' : Nat → Prop) (v v' : Value) (w : World) (ha : LAt 1 intR w S v l) (hb : LAt 1 intR w S' v' l) :
    Calls Try.prog 14 #[v, v'] w fun e w' => e = .returned (.bool true) ∧ Below w.heap.size w w' := lawEqIntS l v v' w (ints_at ha) (ints_at hb)
set_option maxHeartbeats 2000000 in
theorem mMarkIntS (l : List Int) (S : Nat → Prop) (v : Value) (k : Int) (w : World) (h0 : 0 ≤ k) (h1 : k + l.length ≤ 1099511627776) (ha : LOw 1 intO w S v l) :
    Calls Try.prog 17 #[v, .int .i64 k] w fun e w' => e = .returned (.int .i64 (k + l.length)) ∧ Turn S w w' ∧ LOw 1 intO w' S v (mkIntS l.length k) := by
  obtain ⟨a, cap, rfl, hl, h⟩ := ha
  rcases h with rfl | ⟨b, o, T, rfl, hS, hw, _, _, _⟩
  · go_enter Try.func17, Try.ntmps17
    go_wp2
    go_loopw [1, 5] (fun kk i wk => kk = .int .i64 k ∧ i = .int .i64 0 ∧ wk = w) (fun _ _ _ => 0)
    case atStart => exact ⟨rfl, rfl, rfl⟩
    case round =>
      obtain ⟨rfl, rfl, rfl⟩ := hrel
      go_wp2
      go_ret
      exact ⟨by simp, Turn.refl _ _, LOw.nil _ _ _ _ _ _⟩
  have HS := hide hS
  have hm0 := hide (MarkedTo.start (N := 1) (f := fun i => [.int .i64 (k + (i : Int))]) hw)
  clear hS hw
  go_enter Try.func17, Try.ntmps17
  go_wp2
  go_loopw [1, 5] (fun kk i wk => ∃ j : Nat, j ≤ l.length ∧ i = .int .i64 j ∧ kk = .int .i64 (k + j) ∧ Hid (MarkedTo 1 (fun i => [.int .i64 (k + (i : Int))]) w wk b o l.length j)) (fun _ i _ => l.length - (intOf i).toNat)
  case atStart => exact ⟨0, Nat.zero_le _, rfl, by simp, hm0⟩
  case round =>
    obtain ⟨j, hj, rfl, rfl, hm⟩ := hrel
    clear hm0
    by_cases hlt : j < l.length
    · have hji : (j : Int) < (l.length : Int) := by omega
      have hbd : k + (j : Int) + 1 ≤ 1099511627776 := by omega
      have hwr := (unhide hm).2.1
      have hbs := hwr.1
      obtain ⟨u0, hu0⟩ := hwr.cell j (by omega)
      have f0 := hwr.free j (by omega)
      clear hwr
      have hq : 0 ≤ k + (j : Int) := by omega
      generalize hQ : k + (j : Int) = Q at *
      have HQ := hide hQ
      clear hQ
      go_wp2
      go_roundw
      case rel =>
        have st := (unhide hm).step hlt (fun _ => rfl)
        have e := unhide HQ
        simp only [e, putL, Nat.add_zero, Nat.mul_one] at st
        refine ⟨j + 1, by omega, by go_num, ?_, hide st⟩
        congr 1
        omega
      case measure => simp [intOf]; omega
    · have hji : ¬ (j : Int) < (l.length : Int) := by omega
      obtain rfl : j = l.length := by omega
      go_wp2
      go_ret
      have hm1 := unhide hm
      exact ⟨rfl, hm1.1.mono (fun q e => by rw [e]; exact unhide HS), hm1.done (unhide HS) hl (fun i => rfl)⟩
set_option maxHeartbeats 2000000 in
theorem mHeldIntS (n : Nat) (S : Nat → Prop) (v : Value) (k : Int) (w : World) (h0 : 0 ≤ k) (h1 : k + n ≤ 1099511627776) (ha : LAt 1 intR w S v (mkIntS n k)) :
    Calls Try.prog 18 #[v, .int .i64 k] w fun e w' => e = .returned (.int .i64 (k + n)) ∧ Below w.heap.size w w' := by
  have hlen : (mkIntS n k).length = n := byPlace_len _ _
  obtain ⟨a, cap, rfl⟩ := ha.form
  have hl := ha.len
  rw [hlen] at hl
  have HA := hide ha
  clear ha
  have HL := hide hlen
  rw [hlen]
  clear hlen
  go_enter Try.func18, Try.ntmps18
  go_wp2
  go_loopw [1, 5] (fun kk i wk => ∃ j : Nat, j ≤ n ∧ i = .int .i64 j ∧ kk = .int .i64 (k + j) ∧ Below w.heap.size w wk) (fun _ i _ => n - (intOf i).toNat)
  case atStart => exact ⟨0, Nat.zero_le _, rfl, by simp, Below.refl _ _⟩
  case round =>
    obtain ⟨j, hj, rfl, rfl, hbl⟩ := hrel
    by_cases hlt : j < n
    · have hji : (j : Int) < (n : Int) := by omega
      have hbd : k + (j : Int) + 1 ≤ 1099511627776 := by omega
      obtain ⟨b, o, cs, rfl, hbk, hSb, hcs, hin⟩ := (unhide HA).at j (by rw [unhide HL]; exact hlt)
      have hin := hin.turn hbk (Below.turn hbl) (fun e => e)
      have he : (mkIntS n k)[j]'(by rw [unhide HL]; exact hlt) = k + (j : Int) := (byPlace_at (List.getElem?_eq_getElem _)).2
      rw [he] at hcs
      obtain rfl : cs = _ := hcs
      have hq : 0 ≤ k + (j : Int) := by omega
      generalize hQ : k + (j : Int) = Q at *
      have HQ := hide hQ
      clear hQ he
      have c0 : wr.cell? ⟨b, o + j, none⟩ = some (.int .i64 Q) := by have h := hin 0 _ rfl; simpa using h
      clear hin
      go_wp2
      go_roundw
      case rel =>
        have e := unhide HQ
        refine ⟨j + 1, by omega, by go_num, ?_, hbl⟩
        congr 1
        omega
      case measure => simp [intOf]; omega
    · have hji : ¬ (j : Int) < (n : Int) := by omega
      obtain rfl : j = n := by omega
      go_wp2
      go_ret
      exact ⟨rfl, hbl⟩
end Go.Proofs.Ytanpmbjjppfkeaa
