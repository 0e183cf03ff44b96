/-
  SameCache of the program and of the specification.
-/
import Derived.Test.YtigkhilgnaecjaaTVerdict
import Derived.Test.YtigkhilgnaecjaaAbs2
namespace Go.Proofs.Ytigkhilgnaecjaa
open Go.ChangeShapes Go.WideShapes Go.ChangeAt Go.RowKit
set_option linter.unusedVariables false
set_option maxRecDepth 100000

def eqM {α : Type} (p : α → α → Bool) (l m : List α) : Bool := decide (l.length = m.length) && (l.zip m).all (fun q => p q.1 q.2)
theorem eqM_len {α : Type} {p : α → α → Bool} {l m : List α} (h : l.length ≠ m.length) : eqM p l m = false := by simp [eqM, h]
theorem eqM_miss {α : Type} {p : α → α → Bool} {l m : List α} {k : Nat} (h1 : k < l.length) (h2 : k < m.length) (h : p l[k] m[k] = false) : eqM p l m = false := by
  unfold eqM
  rw [Bool.and_eq_false_iff]
  refine .inr ?_
  rw [List.all_eq_false]
  refine ⟨(l[k], m[k]), ?_, by rw [h]; simp⟩
  have hk : k < (l.zip m).length := by rw [List.length_zip]; omega
  have : (l.zip m)[k] = (l[k], m[k]) := by rw [List.getElem_zip]
  rw [← this]
  exact List.getElem_mem hk
theorem eqM_all {α : Type} {p : α → α → Bool} {l m : List α} (hl : l.length = m.length) (h : ∀ j (h1 : j < l.length) (h2 : j < m.length), p l[j] m[j] = true) : eqM p l m = true := by
  unfold eqM
  rw [decide_eq_true hl, Bool.true_and, List.all_eq_true]
  intro q hq
  obtain ⟨j, hj, rfl⟩ := List.mem_iff_getElem.1 hq
  rw [List.length_zip] at hj
  rw [List.getElem_zip]
  exact h j (by omega) (by omega)
def sameVB (x y : VerdictD) : Bool := decide (x.trace = y.trace) && (decide (x.stamp = y.stamp) && (x.keep == y.keep))
set_option maxHeartbeats 4000000 in
theorem implEqualV (l m : List VerdictD) (S0 : Nat → Prop) (v0 : Value) (S1 : Nat → Prop) (v1 : Value) (w : World) (h0 : LAt 3 verdictR w S0 v0 l) (b0 : bulkL verdictBulk l ≤ 1048576) (h1 : LAt 3 verdictR w S1 v1 m) (b1 : bulkL verdictBulk m ≤ 1048576) :
    Calls Try.prog 47 #[v0, v1] w fun e w' => e = .returned (.bool (eqM sameVB l m)) ∧ Below w.heap.size w w' := by
  obtain ⟨a, cap, rfl⟩ := h0.form
  obtain ⟨a', cap', rfl⟩ := h1.form
  have hl := h0.len
  have hl' := h1.len
  have HA := hide h0
  have HB := hide h1
  clear h0 h1
  by_cases hne : l.length = m.length
  case neg =>
    have hnn : ((l.length : Int) != (m.length : Int)) = true := by simp; omega
    have HF := hide (eqM_len (p := sameVB) hne)
    clear hne
    go_enter Try.func47, Try.ntmps47
    go_wp2
    go_ret
    exact ⟨ret_bool (unhide HF).symm, Below.refl _ _⟩
  have hnn : ((l.length : Int) != (m.length : Int)) = false := by simp; omega
  have HN := hide hne
  clear hne
  go_enter Try.func47, Try.ntmps47
  go_wp2
  go_loopw [13] (fun i wk => ∃ k : Nat, k ≤ l.length ∧ i = .int .i64 k ∧ Hid (∀ j (h1 : j < l.length) (h2 : j < m.length), j < k → sameVB l[j] m[j] = true) ∧ Below w.heap.size w wk) (fun i _ => l.length - (intOf i).toNat)
  case atStart => exact ⟨0, Nat.zero_le _, rfl, hide (fun j h h2 hj => absurd hj (Nat.not_lt_zero _)), Below.refl _ _⟩
  case round =>
    obtain ⟨k, hk, rfl, hall, hbl⟩ := hrel
    have hbs := hbl.size
    by_cases hlt : k < l.length
    · have hlt' : k < m.length := by have := unhide HN; omega
      have hki : (k : Int) < (l.length : Int) := by omega
      have hki' : (k : Int) < (m.length : Int) := by omega
      obtain ⟨b, o, cs, rfl, hbk, hSb, hcs, hin⟩ := (unhide HA).at k hlt
      obtain ⟨b', o', cs2, rfl, hbk', hSb', hcs2, hin2⟩ := (unhide HB).at k hlt'
      have hin := hin.turn hbk (Below.turn hbl) (fun e => e)
      have hin2 := hin2.turn hbk' (Below.turn hbl) (fun e => e)
      generalize hX : l[k] = x at *
      generalize hY : m[k] = y at *
      have HX := hide hX
      have HY := hide hY
      clear hX hY
      obtain rfl : cs = _ := hcs
      obtain rfl : cs2 = _ := hcs2
      have c0 : wr.cell? ⟨b, o + k * 3, none⟩ = some (.int .i64 x.trace) := hin 0 _ rfl
      have c1 : wr.cell? ⟨b, o + k * 3 + 1, none⟩ = some (.int .i64 x.stamp) := hin 1 _ rfl
      have c2 : wr.cell? ⟨b, o + k * 3 + 2, none⟩ = some (.bool x.keep) := hin 2 _ rfl
      have d0 : wr.cell? ⟨b', o' + k * 3, none⟩ = some (.int .i64 y.trace) := hin2 0 _ rfl
      have d1 : wr.cell? ⟨b', o' + k * 3 + 1, none⟩ = some (.int .i64 y.stamp) := hin2 1 _ rfl
      have d2 : wr.cell? ⟨b', o' + k * 3 + 2, none⟩ = some (.bool y.keep) := hin2 2 _ rfl
      clear hin hin2
      go_upto_region 6 with fail
      by_cases e : x.trace = y.trace
      case neg =>
        have q : (x.trace == y.trace) = false := by simpa using e
        have HP := hide (show sameVB x y = false by simp [sameVB, e])
        clear e
        have HF := hide (eqM_miss (p := sameVB) hlt hlt' (by rw [unhide HX, unhide HY]; exact unhide HP))
        go_region
        all_goals go_wp2
        all_goals go_ret
        all_goals exact ⟨ret_bool (unhide HF).symm, (by (repeat (first | with_reducible assumption | with_reducible exact Below.refl _ _ | with_reducible refine Below.drew ?_ | with_reducible refine bdrewN ?_ _ | (with_reducible refine Below.alloc ?_ ?side _; case side => (first | omega | (simp [go_sem]; done) | (simp [go_sem]; omega))) | (with_reducible refine Below.setCell ?_ ?side _; case side => (first | omega | (simp [go_sem]; done) | (simp [go_sem]; omega))))))⟩
      have q : (x.trace == y.trace) = true := by simpa using e
      by_cases e1 : x.stamp = y.stamp
      case neg =>
        have q1 : (x.stamp == y.stamp) = false := by simpa using e1
        have HP := hide (show sameVB x y = false by simp [sameVB, e1])
        clear e e1
        have HF := hide (eqM_miss (p := sameVB) hlt hlt' (by rw [unhide HX, unhide HY]; exact unhide HP))
        go_region
        all_goals go_wp2
        all_goals go_ret
        all_goals exact ⟨ret_bool (unhide HF).symm, (by (repeat (first | with_reducible assumption | with_reducible exact Below.refl _ _ | with_reducible refine Below.drew ?_ | with_reducible refine bdrewN ?_ _ | (with_reducible refine Below.alloc ?_ ?side _; case side => (first | omega | (simp [go_sem]; done) | (simp [go_sem]; omega))) | (with_reducible refine Below.setCell ?_ ?side _; case side => (first | omega | (simp [go_sem]; done) | (simp [go_sem]; omega))))))⟩
      have q1 : (x.stamp == y.stamp) = true := by simpa using e1
      cases e2 : x.keep == y.keep
      case false =>
        have HP := hide (show sameVB x y = false by simp [sameVB, e2])
        clear e e1
        have HF := hide (eqM_miss (p := sameVB) hlt hlt' (by rw [unhide HX, unhide HY]; exact unhide HP))
        go_region
        all_goals go_wp2
        all_goals go_ret
        all_goals exact ⟨ret_bool (unhide HF).symm, (by (repeat (first | with_reducible assumption | with_reducible exact Below.refl _ _ | with_reducible refine Below.drew ?_ | with_reducible refine bdrewN ?_ _ | (with_reducible refine Below.alloc ?_ ?side _; case side => (first | omega | (simp [go_sem]; done) | (simp [go_sem]; omega))) | (with_reducible refine Below.setCell ?_ ?side _; case side => (first | omega | (simp [go_sem]; done) | (simp [go_sem]; omega))))))⟩
      have HP := hide (show sameVB x y = true by simp [sameVB, e, e1, e2])
      clear e e1
      go_region
      all_goals go_wp2
      all_goals go_roundw
      case rel =>
        refine ⟨k + 1, by omega, by go_num, hide (fun j h h2 hj => ?_), (by (repeat (first | with_reducible assumption | with_reducible exact Below.refl _ _ | with_reducible refine Below.drew ?_ | with_reducible refine bdrewN ?_ _ | (with_reducible refine Below.alloc ?_ ?side _; case side => (first | omega | (simp [go_sem]; done) | (simp [go_sem]; omega))) | (with_reducible refine Below.setCell ?_ ?side _; case side => (first | omega | (simp [go_sem]; done) | (simp [go_sem]; omega))))))⟩
        by_cases hjk : j = k
        · subst hjk; rw [unhide HX, unhide HY]; exact unhide HP
        · exact unhide hall j h h2 (by omega)
      case measure => simp [intOf]; omega
    · have hki : ¬ (k : Int) < (l.length : Int) := by omega
      obtain rfl : k = l.length := by omega
      have HF := hide (eqM_all (p := sameVB) (unhide HN) (fun j h1 h2 => unhide hall j h1 h2 h1))
      go_wp2
      go_ret
      exact ⟨ret_bool (unhide HF).symm, hbl⟩
set_option maxHeartbeats 4000000 in
theorem specSameCache (l m : List VerdictD) (S0 : Nat → Prop) (v0 : Value) (S1 : Nat → Prop) (v1 : Value) (w : World) (h0 : LAt 3 verdictR w S0 v0 l) (b0 : bulkL verdictBulk l ≤ 1048576) (h1 : LAt 3 verdictR w S1 v1 m) (b1 : bulkL verdictBulk m ≤ 1048576) :
    Calls Try.prog 24 #[v0, v1] w fun e w' => e = .returned (.bool (eqM sameVB l m)) ∧ Below w.heap.size w w' := by
  obtain ⟨a, cap, rfl⟩ := h0.form
  obtain ⟨a', cap', rfl⟩ := h1.form
  have hl := h0.len
  have hl' := h1.len
  have HA := hide h0
  have HB := hide h1
  clear h0 h1
  by_cases hne : l.length = m.length
  case neg =>
    have hnn : ((l.length : Int) != (m.length : Int)) = true := by simp; omega
    have HF := hide (eqM_len (p := sameVB) hne)
    clear hne
    go_enter Try.func24, Try.ntmps24
    go_wp2
    go_ret
    exact ⟨ret_bool (unhide HF).symm, Below.refl _ _⟩
  have hnn : ((l.length : Int) != (m.length : Int)) = false := by simp; omega
  have HN := hide hne
  clear hne
  go_enter Try.func24, Try.ntmps24
  go_wp2
  go_loopw [5] (fun i wk => ∃ k : Nat, k ≤ l.length ∧ i = .int .i64 k ∧ Hid (∀ j (h1 : j < l.length) (h2 : j < m.length), j < k → sameVB l[j] m[j] = true) ∧ Below w.heap.size w wk) (fun i _ => l.length - (intOf i).toNat)
  case atStart => exact ⟨0, Nat.zero_le _, rfl, hide (fun j h h2 hj => absurd hj (Nat.not_lt_zero _)), Below.refl _ _⟩
  case round =>
    obtain ⟨k, hk, rfl, hall, hbl⟩ := hrel
    have hbs := hbl.size
    by_cases hlt : k < l.length
    · have hlt' : k < m.length := by have := unhide HN; omega
      have hki : (k : Int) < (l.length : Int) := by omega
      have hki' : (k : Int) < (m.length : Int) := by omega
      obtain ⟨b, o, cs, rfl, hbk, hSb, hcs, hin⟩ := (unhide HA).at k hlt
      obtain ⟨b', o', cs2, rfl, hbk', hSb', hcs2, hin2⟩ := (unhide HB).at k hlt'
      have hin := hin.turn hbk (Below.turn hbl) (fun e => e)
      have hin2 := hin2.turn hbk' (Below.turn hbl) (fun e => e)
      generalize hX : l[k] = x at *
      generalize hY : m[k] = y at *
      have HX := hide hX
      have HY := hide hY
      clear hX hY
      obtain rfl : cs = _ := hcs
      obtain rfl : cs2 = _ := hcs2
      have c0 : wr.cell? ⟨b, o + k * 3, none⟩ = some (.int .i64 x.trace) := hin 0 _ rfl
      have c1 : wr.cell? ⟨b, o + k * 3 + 1, none⟩ = some (.int .i64 x.stamp) := hin 1 _ rfl
      have c2 : wr.cell? ⟨b, o + k * 3 + 2, none⟩ = some (.bool x.keep) := hin 2 _ rfl
      have d0 : wr.cell? ⟨b', o' + k * 3, none⟩ = some (.int .i64 y.trace) := hin2 0 _ rfl
      have d1 : wr.cell? ⟨b', o' + k * 3 + 1, none⟩ = some (.int .i64 y.stamp) := hin2 1 _ rfl
      have d2 : wr.cell? ⟨b', o' + k * 3 + 2, none⟩ = some (.bool y.keep) := hin2 2 _ rfl
      clear hin hin2
      go_upto_region 6 with fail
      by_cases e : x.trace = y.trace
      case neg =>
        have q : (x.trace == y.trace) = false := by simpa using e
        have HP := hide (show sameVB x y = false by simp [sameVB, e])
        clear e
        have HF := hide (eqM_miss (p := sameVB) hlt hlt' (by rw [unhide HX, unhide HY]; exact unhide HP))
        go_region
        all_goals go_wp2
        all_goals go_ret
        all_goals exact ⟨ret_bool (unhide HF).symm, (by (repeat (first | with_reducible assumption | with_reducible exact Below.refl _ _ | with_reducible refine Below.drew ?_ | with_reducible refine bdrewN ?_ _ | (with_reducible refine Below.alloc ?_ ?side _; case side => (first | omega | (simp [go_sem]; done) | (simp [go_sem]; omega))) | (with_reducible refine Below.setCell ?_ ?side _; case side => (first | omega | (simp [go_sem]; done) | (simp [go_sem]; omega))))))⟩
      have q : (x.trace == y.trace) = true := by simpa using e
      by_cases e1 : x.stamp = y.stamp
      case neg =>
        have q1 : (x.stamp == y.stamp) = false := by simpa using e1
        have HP := hide (show sameVB x y = false by simp [sameVB, e1])
        clear e e1
        have HF := hide (eqM_miss (p := sameVB) hlt hlt' (by rw [unhide HX, unhide HY]; exact unhide HP))
        go_region
        all_goals go_wp2
        all_goals go_ret
        all_goals exact ⟨ret_bool (unhide HF).symm, (by (repeat (first | with_reducible assumption | with_reducible exact Below.refl _ _ | with_reducible refine Below.drew ?_ | with_reducible refine bdrewN ?_ _ | (with_reducible refine Below.alloc ?_ ?side _; case side => (first | omega | (simp [go_sem]; done) | (simp [go_sem]; omega))) | (with_reducible refine Below.setCell ?_ ?side _; case side => (first | omega | (simp [go_sem]; done) | (simp [go_sem]; omega))))))⟩
      have q1 : (x.stamp == y.stamp) = true := by simpa using e1
      cases e2 : x.keep == y.keep
      case false =>
        have HP := hide (show sameVB x y = false by simp [sameVB, e2])
        clear e e1
        have HF := hide (eqM_miss (p := sameVB) hlt hlt' (by rw [unhide HX, unhide HY]; exact unhide HP))
        go_region
        all_goals go_wp2
        all_goals go_ret
        all_goals exact ⟨ret_bool (unhide HF).symm, (by (repeat (first | with_reducible assumption | with_reducible exact Below.refl _ _ | with_reducible refine Below.drew ?_ | with_reducible refine bdrewN ?_ _ | (with_reducible refine Below.alloc ?_ ?side _; case side => (first | omega | (simp [go_sem]; done) | (simp [go_sem]; omega))) | (with_reducible refine Below.setCell ?_ ?side _; case side => (first | omega | (simp [go_sem]; done) | (simp [go_sem]; omega))))))⟩
      have HP := hide (show sameVB x y = true by simp [sameVB, e, e1, e2])
      clear e e1
      go_region
      all_goals go_wp2
      all_goals go_roundw
      case rel =>
        refine ⟨k + 1, by omega, by go_num, hide (fun j h h2 hj => ?_), (by (repeat (first | with_reducible assumption | with_reducible exact Below.refl _ _ | with_reducible refine Below.drew ?_ | with_reducible refine bdrewN ?_ _ | (with_reducible refine Below.alloc ?_ ?side _; case side => (first | omega | (simp [go_sem]; done) | (simp [go_sem]; omega))) | (with_reducible refine Below.setCell ?_ ?side _; case side => (first | omega | (simp [go_sem]; done) | (simp [go_sem]; omega))))))⟩
        by_cases hjk : j = k
        · subst hjk; rw [unhide HX, unhide HY]; exact unhide HP
        · exact unhide hall j h h2 (by omega)
      case measure => simp [intOf]; omega
    · have hki : ¬ (k : Int) < (l.length : Int) := by omega
      obtain rfl : k = l.length := by omega
      have HF := hide (eqM_all (p := sameVB) (unhide HN) (fun j h1 h2 => unhide hall j h1 h2 h1))
      go_wp2
      go_ret
      exact ⟨ret_bool (unhide HF).symm, hbl⟩
theorem implSameCache (l m : List VerdictD) (S0 : Nat → Prop) (v0 : Value) (S1 : Nat → Prop) (v1 : Value) (w : World) (h0 : LAt 3 verdictR w S0 v0 l) (b0 : bulkL verdictBulk l ≤ 1048576) (h1 : LAt 3 verdictR w S1 v1 m) (b1 : bulkL verdictBulk m ≤ 1048576) :
    Calls Try.prog 26 #[v0, v1] w fun e w' => e = .returned (.bool (eqM sameVB l m)) ∧ Below w.heap.size w w' := by
  obtain ⟨a, cap, rfl⟩ := h0.form
  obtain ⟨a', cap', rfl⟩ := h1.form
  go_enter Try.func26, Try.ntmps26
  go_wp2_with fail
  refine (implEqualV l m S0 _ S1 _ w h0 b0 h1 b1).mono ?_
  rintro e w1 ⟨rfl, hb1⟩
  go_wp2
  go_ret
  exact ⟨rfl, hb1⟩
end Go.Proofs.Ytigkhilgnaecjaa
