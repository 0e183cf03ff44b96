/-
  A memory made of a list, and read as a list again, of the program.
-/
import Derived.Test.YtjhlammjnggghaaRem1
namespace Go.Proofs.Ytjhlammjnggghaa
open Go.ChangeShapes Go.WideShapes Go.ChangeAt Go.RowKit Go.Maps
set_option linter.unusedVariables false
set_option maxRecDepth 100000

theorem isKeyN (k : Nat) (h : k ≤ 1048577) : WideAt.IsKeyLit (.int .i64 (k : Int)) := (int_keyed (P := Try.prog) Try.underlying3).key (keyOf_int_mk Try.underlying3 (by
  have h1 : IntKind.i64.min = -9223372036854775808 := by rfl
  have h2 : IntKind.i64.max = 9223372036854775807 := by rfl
  simp only [Lit.wf, h1, h2, Bool.and_eq_true, decide_eq_true_eq]
  omega))
theorem keyN (k : Nat) (h : k ≤ 1048577) : keyOf Try.prog 3 (.int .i64 (k : Int)) = some (.int .i64 (k : Int)) := keyOf_int_mk Try.underlying3 (by
  have h1 : IntKind.i64.min = -9223372036854775808 := by rfl
  have h2 : IntKind.i64.max = 9223372036854775807 := by rfl
  simp only [Lit.wf, h1, h2, Bool.and_eq_true, decide_eq_true_eq]
  omega)
theorem ownsMap_below {H : Type} {P : Program} {k : TypeId} {R : Value → Option (DataW H × List MemPlace)} {b n : Nat} {D : DataW H} {w w' : World} (h : w.ownsMap P k R b n D) (hb : Below w.heap.size w w') : w'.ownsMap P k R b n D := by
  have hlt := h.lt
  obtain ⟨es, clock, h1, F, hs, hD⟩ := h
  exact ⟨es, clock, (hb.block b hlt).trans h1, F, hs, hD⟩
def cellsW (l : List VerdictD) : List Value := l.flatMap verC
theorem cellsW_snoc (l : List VerdictD) (x : VerdictD) : cellsW (l ++ [x]) = cellsW l ++ [.int .i64 x.trace, .int .i64 x.stamp, .bool x.keep] := by simp [cellsW, verC]
theorem vers_done {t : TypeId} {base : Nat} {w : World} {v : Value} {l : List VerdictD} (h : w.ownsRow base t 3 v l.length (cellsW l)) (hl : l.length ≤ 9223372036854775807) : LOw 3 verdictO w (Within base w.heap.size) v l :=
  own_flat (f := verC) h (fun _ => rfl) (fun x _ => rfl) hl
theorem somes_take {p : List (Option VerdictD)} {k : Nat} (h : k < p.length) : somes (p.take (k + 1)) = somes (p.take k) ++ (getO p k).toList := by
  rw [List.take_succ_eq_append_getElem h, somes_app]
  unfold getO
  rw [List.getElem?_eq_getElem h]
  cases hp : p[k] <;> simp [somes]
theorem somes_len (p : List (Option VerdictD)) (k : Nat) : (somes (p.take k)).length ≤ k := by
  have h1 : (somes (p.take k)).length ≤ (p.take k).length := List.length_filterMap_le _ _
  rw [List.length_take] at h1
  omega
theorem zeroV (w : World) : (zeroValue 59).run Try.prog w = .ok (.agg #[.int .i64 0, .int .i64 0, .bool false]) w := by kernel_rfl
theorem look_yes (w : World) {ops : Array Oper} {rest : List Oper} {o : Oper} {a : Act} {Q : Exit → Act → World → Prop} (hg : o.guard = none) (m x : Operand) (hop : o.op = Op.lookup 160 m x true) (b n : Nat) (D : DataW Value) (p : List (Option VerdictD)) (k : Nat) (X : VerdictD)
    (hm : a.eval m = .map (some b)) (hown : w.ownsMap Try.prog 3 rV b n D) (ht : TellsV D p) (hx : a.eval x = .int .i64 (k : Int)) (hk : k ≤ 1048577) (hgo : getO p k = some X)
    (hK : wpList Try.prog ops Q rest (a.put o.dst (.tuple #[.agg #[.int .i64 X.trace, .int .i64 X.stamp, .bool X.keep], .bool true])) w) : wpList Try.prog ops Q (o :: rest) a w :=
  wpList_lookup_own_ok w hg m x 160 hop 3 59 (int_keyed Try.underlying3) Try.underlying160 rV (zeroV w) (.held (.agg #[.int .i64 0, .int .i64 0, .bool false])) [] rfl b n D hm hown _ _ hx (keyN k hk) (fun v ps hv => by
    rw [ht.val k X hgo] at hv
    rw [ht.has k, hgo]
    injection hv with hv
    injection hv with hv _
    injection hv with hv
    subst hv
    exact hK)
theorem look_no (w : World) {ops : Array Oper} {rest : List Oper} {o : Oper} {a : Act} {Q : Exit → Act → World → Prop} (hg : o.guard = none) (m x : Operand) (hop : o.op = Op.lookup 160 m x true) (b n : Nat) (D : DataW Value) (p : List (Option VerdictD)) (k : Nat)
    (hm : a.eval m = .map (some b)) (hown : w.ownsMap Try.prog 3 rV b n D) (ht : TellsV D p) (hx : a.eval x = .int .i64 (k : Int)) (hk : k ≤ 1048577) (hgo : getO p k = none)
    (hK : wpList Try.prog ops Q rest (a.put o.dst (.tuple #[.agg #[.int .i64 0, .int .i64 0, .bool false], .bool false])) w) : wpList Try.prog ops Q (o :: rest) a w :=
  wpList_lookup_own_ok w hg m x 160 hop 3 59 (int_keyed Try.underlying3) Try.underlying160 rV (zeroV w) (.held (.agg #[.int .i64 0, .int .i64 0, .bool false])) [] rfl b n D hm hown _ _ hx (keyN k hk) (fun v ps hv => by
    have hh : Maps.has D (.int .i64 (k : Int)) = false := by rw [ht.has k, hgo]; rfl
    rw [atKey_of_not_has hh] at hv
    rw [hh]
    injection hv with hv
    injection hv with hv _
    injection hv with hv
    subst hv
    exact hK)
def MemV (w wk : World) (b : Nat) (p : List (Option VerdictD)) (n : Nat) : Prop := ∃ D, wk.ownsMap Try.prog 3 rV b n D ∧ TellsV D p ∧ w.heap.size ≤ b ∧ Below w.heap.size w wk
set_option maxHeartbeats 2000000 in
theorem implMemoryOf (l : List VerdictD) (S : Nat → Prop) (v : Value) (w : World) (h0 : LAt 3 verdictR w S v l) (hlen : l.length ≤ 1048577) :
    Calls Try.prog 126 #[v] w fun e w' => ∃ b, e = .returned (.map (some b)) ∧ MemV w w' b (l.map some) l.length := by
  obtain ⟨a, cap, rfl⟩ := h0.form
  have HA := hide h0
  clear h0
  have hk0 : Hid (MemV w (w.alloc (.map #[] 0)) w.heap.size ((l.take 0).map some) 0) := hide ⟨_, World.ownsMap_made w _ _ _, TellsV.start, Nat.le_refl _, bnew _ _⟩
  have hml : (1048577 : Nat) < maxLen := by unfold maxLen; omega
  have hmm := @run_makeMap Try.prog
  go_enter Try.func126, Try.ntmps126
  go_wp2
  clear hmm
  go_loopw [9] (fun i wk => ∃ k : Nat, k ≤ l.length ∧ i = .int .i64 k ∧ Hid (MemV w wk w.heap.size ((l.take k).map some) k)) (fun i _ => l.length - (intOf i).toNat)
  case atStart => exact ⟨0, Nat.zero_le _, rfl, hk0⟩
  case round =>
    obtain ⟨k, hk, rfl, hkn⟩ := hrel
    clear hk0
    obtain ⟨D, hown, htl, hge, hbl⟩ := unhide hkn
    have hbs := hbl.size
    have hmb := hown.lt
    by_cases hlt : k < l.length
    · have hki : (k : Int) < (l.length : Int) := by omega
      obtain ⟨b, o, cs, rfl, hbk, hSb, hcs, hin⟩ := (unhide HA).at k hlt
      have hin := hin.turn hbk (Below.turn hbl) (fun e => e)
      have HS : Hid ((l.take (k + 1)).map some = (l.take k).map some ++ [some l[k]]) := hide (by rw [List.take_succ_eq_append_getElem hlt, List.map_append, List.map_cons, List.map_nil])
      have hpl : k = ((l.take k).map some).length := by rw [List.length_map, List.length_take]; omega
      generalize l[k] = X at *
      obtain rfl : cs = _ := hcs
      have c0 : wr.cell? ⟨b, o + k * 3, none⟩ = some (.int .i64 X.trace) := hin 0 _ rfl
      have c1 : wr.cell? ⟨b, o + k * 3 + 1, none⟩ = some (.int .i64 X.stamp) := hin 1 _ rfl
      have c2 : wr.cell? ⟨b, o + k * 3 + 2, none⟩ = some (.bool X.keep) := hin 2 _ rfl
      have hown1 := hown.kept (World.grownBy_alloc wr (.cells #[.int .i64 X.trace, .int .i64 X.stamp, .bool X.keep] 59) none) (by simp)
      have bl1 := bthen hbl (bnew wr (.cells #[.int .i64 X.trace, .int .i64 X.stamp, .bool X.keep] 59))
      have hkey := keyN k (by omega)
      have HST := hide (htl.push X hpl (isKeyN k (by omega)))
      have HB1 := hide bl1
      clear hin bl1 hown htl hbl hkn hpl
      go_wp2_with (first | (at_mapUpdate; refine wpList_mapUpdate_own (H := Value) _ rfl (.tmp 14) (.tmp 15) (.tmp 16) 160 rfl 3 59 (int_keyed Try.underlying3) Try.underlying160 rV w.heap.size k _ rfl hown1 (by omega) _ _ _ rfl rfl hkey _ [] rfl ?_; intro w1 hown2 hgr2))
      have bl2 := grown_below (unhide HB1) hgr2 (fun q e => by rw [Option.some.injEq] at e; omega) (by simp; omega)
      have HK := hide (show MemV w w1 w.heap.size ((l.take (k + 1)).map some) (k + 1) from ⟨_, hown2, by rw [unhide HS]; exact unhide HST, Nat.le_refl _, bl2⟩)
      clear hown1 hown2 hgr2 bl2
      go_roundw
      case rel => exact ⟨k + 1, by omega, by go_num, HK⟩
      case measure => simp [intOf]; omega
    · have hki : ¬ (k : Int) < (l.length : Int) := by omega
      obtain rfl : k = l.length := by omega
      rw [List.take_length] at hkn
      clear hown htl hge hbl
      go_wp2
      go_ret
      exact ⟨_, rfl, unhide hkn⟩
set_option maxHeartbeats 2000000 in
theorem implMemList (b n : Nat) (p : List (Option VerdictD)) (D : DataW Value) (w : World) (hown : w.ownsMap Try.prog 3 rV b n D) (ht : TellsV D p) (hlen : p.length ≤ 1048577) :
    Calls Try.prog 127 #[.map (some b), .int .i64 p.length] w fun e w' => ∃ v', e = .returned v' ∧ LOw 3 verdictO w' (Within w.heap.size w'.heap.size) v' (somes p) ∧ Below w.heap.size w w' := by
  have HM := hide (And.intro hown ht)
  clear hown ht
  have hml : (1048578 : Nat) < maxLen := by unfold maxLen; omega
  have how0 : Hid ((w.alloc (.cells #[] 59)).ownsRow w.heap.size 59 3 (.slice (some ⟨w.heap.size, 0, none⟩) 0 0) (somes (p.take 0)).length (cellsW (somes (p.take 0)))) := hide (World.ownsRow_made (base := w.heap.size) (e := 59) (size := 3) w #[] 0 (Nat.le_refl _) (by omega) rfl)
  have hb0 := hide (bnew w (.cells #[] 59))
  go_enter Try.func127, Try.ntmps127
  go_wp2
  go_loopw [5, 11] (fun o i wk => ∃ k : Nat, k ≤ p.length ∧ i = .int .i64 k ∧ Hid (wk.ownsRow w.heap.size 59 3 o (somes (p.take k)).length (cellsW (somes (p.take k)))) ∧ Hid (Below w.heap.size w wk)) (fun _ i _ => p.length - (intOf i).toNat)
  case atStart => exact ⟨0, Nat.zero_le _, rfl, how0, hb0⟩
  case round =>
    clear how0 hb0
    obtain ⟨k, hk, rfl, hgr, hbl⟩ := hrel
    have hbs := (unhide hbl).size
    have hpre := somes_len p k
    by_cases hlt : k < p.length
    · have hki : (k : Int) < (p.length : Int) := by omega
      have HS := hide (somes_take hlt)
      have hmp := ownsMap_below (unhide HM).1 (unhide hbl)
      cases hG : getO p k with
      | none =>
        have HST : Hid (somes (p.take (k + 1)) = somes (p.take k)) := hide (by rw [unhide HS, hG]; simp)
        have hb1 := hide (bthen (unhide hbl) (bnew wr (.cells #[.int .i64 0, .int .i64 0, .bool false] 59)))
        have hr1 := hide (owns_below (unhide hgr) (bnew wr (.cells #[.int .i64 0, .int .i64 0, .bool false] 59)))
        have HTL := hide (unhide HM).2
        have HG := hide hG
        clear hG
        go_wp2_with (first | (at_lookup; refine look_no _ rfl (.tmp 15) (.tmp 16) rfl b n D p k rfl hmp (unhide HTL) rfl (by omega) (unhide HG) ?_))
        go_roundw
        case rel => exact ⟨k + 1, by omega, by go_num, hide (by rw [unhide HST]; exact unhide hr1), hb1⟩
        case measure => simp [intOf]; omega
      | some X =>
        have HST : Hid (somes (p.take (k + 1)) = somes (p.take k) ++ [X]) := hide (by rw [unhide HS, hG]; rfl)
        have hb1 := bnew wr (.cells #[.int .i64 X.trace, .int .i64 X.stamp, .bool X.keep] 59)
        have hb2 := bnew (wr.alloc (.cells #[.int .i64 X.trace, .int .i64 X.stamp, .bool X.keep] 59)) (.cells #[.int .i64 X.trace, .int .i64 X.stamp, .bool X.keep] 59)
        have hs1 := hb1.size
        have hs2 := hb2.size
        have hs3 : w.heap.size ≤ ((wr.alloc (.cells #[.int .i64 X.trace, .int .i64 X.stamp, .bool X.keep] 59)).alloc (.cells #[.int .i64 X.trace, .int .i64 X.stamp, .bool X.keep] 59)).heap.size := by omega
        have hrow2 := owns_below (owns_below (unhide hgr) hb1) hb2
        have HB := hide (bthen (bthen (unhide hbl) hb1) hb2)
        have HTL := hide (unhide HM).2
        have HG := hide hG
        have hLC := lit_cells4 (wr.alloc (.cells #[.int .i64 X.trace, .int .i64 X.stamp, .bool X.keep] 59)) [.int .i64 X.trace, .int .i64 X.stamp, .bool X.keep] 59
        rw [show (wr.alloc (.cells #[.int .i64 X.trace, .int .i64 X.stamp, .bool X.keep] 59)).heap.size = wr.heap.size + 1 by simp] at hLC
        clear hG hb1 hb2 hs1 hs2
        go_wp2_with (first | (at_lookup; refine look_yes _ rfl (.tmp 15) (.tmp 16) rfl b n D p k X rfl hmp (unhide HTL) rfl (by omega) (unhide HG) ?_) | (at_builtin; refine wpl_append2 rfl (.tmp 21) (.tmp 23) 57 rfl w.heap.size 59 _ 3 24 Try.underlying57 mInfoVerdict rfl (by decide) _ _ _ rfl hrow2 ⟨_, 0, none⟩ 1 1 [.int .i64 X.trace, .int .i64 X.stamp, .bool X.keep] rfl rfl hLC (by intro v hv; simp at hv; rcases hv with rfl | rfl | rfl <;> rfl) (by omega) (by omega) hs3 ?_))
        intro v' w' how hg hv
        have bl1 := hide (grown_below (unhide HB) hg (fun q hq => (hrow2.lt q hq).1) hs3)
        have HOW := hide how
        clear how hg hv hrow2 HB hmp
        go_wp2
        go_roundw
        case rel => exact ⟨k + 1, by omega, by go_num, hide (by rw [unhide HST, cellsW_snoc]; simpa using unhide HOW), bl1⟩
        case measure => simp [intOf]; omega
    · have hki : ¬ (k : Int) < (p.length : Int) := by omega
      obtain rfl : k = p.length := by omega
      have h := unhide hgr
      rw [List.take_length] at h hpre
      have hA := hide (vers_done h (by omega))
      clear h hgr
      go_wp2
      go_ret
      exact ⟨_, rfl, unhide hA, unhide hbl⟩
end Go.Proofs.Ytjhlammjnggghaa
