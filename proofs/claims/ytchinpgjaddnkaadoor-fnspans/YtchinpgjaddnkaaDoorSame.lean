/-
  Contracts of chapter 3's SameSpan, of the program (with slices.Equal) and of the specification.
-/
import Derived.Test.YtchinpgjaddnkaaDoorSpan
import Derived.BigQuiet
import Derived.Deep.QuietTactic
namespace Go.Proofs.YtchinpgjaddnkaaDoor
open Go.ChangeShapes Go.WideShapes Go.ChangeAt Go.RowKit
set_option linter.unusedVariables false
set_option maxRecDepth 100000

theorem take_ne {l l' : List AttrD} {k : Nat} (h1 : k < l.length) (h2 : k < l'.length) (h : l.getD k dA ≠ l'.getD k dA) : l ≠ l' := by
  intro e; subst e; exact h rfl
theorem take_eq {l l' : List AttrD} (hl : l.length = l'.length) (h : ∀ j, j < l.length → l.getD j dA = l'.getD j dA) : l = l' := by
  apply List.ext_getElem hl
  intro j h1 h2
  have := h j h1
  simpa [List.getD, h1, h2] using this
def sameD (tr id st en : Int) (er : Bool) (l : List AttrD) (tr' id' st' en' : Int) (er' : Bool) (l' : List AttrD) : Bool :=
  decide (tr = tr') && (decide (id = id') && (decide (st = st') && (decide (en = en') && (decide (er = er') && decide (l = l')))))

set_option maxHeartbeats 4000000 in
theorem implEqual (l l' : List AttrD) (v v' : Value) (w : World) (ha : AttrsAt w v l) (hb : AttrsAt w v' l') :
    Calls Tryd.prog 35 #[v, v'] w fun e w' => e = .returned (.bool (decide (l = l'))) ∧ Below w.heap.size w w' := by
  obtain ⟨a, cap, rfl⟩ := ha.form
  obtain ⟨a', cap', rfl⟩ := hb.form
  have hl := ha.len
  have hl' := hb.len
  have HA := hide ha
  have HB := hide hb
  clear ha hb
  by_cases hne : l.length = l'.length
  case neg =>
    have hne' : ((l.length : Int) == (l'.length : Int)) = false := beq_eq_false_iff_ne.2 (by omega)
    go_enter Tryd.func35, Tryd.ntmps35
    go_wp2
    go_ret
    exact ⟨ret_bool (by symm; exact decide_eq_false (fun e => hne (by rw [e]))), Below.refl _ _⟩
  go_enter Tryd.func35, Tryd.ntmps35
  go_wp2
  go_loopw [13] (fun i wk => ∃ k : Nat, k ≤ l.length ∧ i = .int .i64 k ∧ Hid (∀ j, j < k → l.getD j dA = l'.getD j dA) ∧ Below w.heap.size w wk) (fun i _ => l.length - (intOf i).toNat)
  case atStart => exact ⟨0, Nat.zero_le _, rfl, hide (fun j hj => absurd hj (Nat.not_lt_zero _)), Below.refl _ _⟩
  case round =>
    obtain ⟨k, hk, rfl, hsame, hbl⟩ := hrel
    have hbs := hbl.size
    by_cases hlt : k < l.length
    · have hlt' : k < l'.length := by omega
      obtain ⟨b, o, rfl, hbk, c0, c1, c2, c3⟩ := (unhide HA).at k hlt
      obtain ⟨b', o', rfl, hbk', d0, d1, d2, d3⟩ := (unhide HB).at k hlt'
      generalize hX : l.getD k dA = x at *
      generalize hY : l'.getD k dA = y at *
      obtain ⟨kk, bb, nn, tt⟩ := x
      obtain ⟨kk', bb', nn', tt'⟩ := y
      simp only at c0 c1 c2 c3 d0 d1 d2 d3
      have HX := hide hX
      have HY := hide hY
      clear hX hY
      rw [← hbl.cell hbk] at c0 c1 c2 c3
      rw [← hbl.cell hbk'] at d0 d1 d2 d3
      have hki : (k : Int) < (l.length : Int) := by omega
      have hki' : (k : Int) < (l'.length : Int) := by omega
      by_cases e0 : kk = kk'
      case neg =>
        have q := toList_ne e0
        go_wp2_with fail
        go_quiet (fail)
        go_wp2
        go_ret
        exact ⟨ret_bool (by symm; exact decide_eq_false (take_ne (k := k) hlt hlt' (by rw [unhide HX, unhide HY]; simp [*]))), by (repeat (first | with_reducible assumption | with_reducible exact Below.refl _ _ | with_reducible refine Below.drew ?_ | with_reducible refine bdrewN ?_ _ | (with_reducible refine Below.alloc ?_ ?side _; case side => (first | omega | (simp [go_sem]; done) | (simp [go_sem]; omega))) | (with_reducible refine Below.setCell ?_ ?side _; case side => (first | omega | (simp [go_sem]; done) | (simp [go_sem]; omega)))))⟩
      subst e0
      by_cases e1 : bb = bb'
      case neg =>
        have q : (bb == bb') = false := by simpa using e1
        go_wp2_with fail
        go_quiet (fail)
        go_wp2
        go_ret
        exact ⟨ret_bool (by symm; exact decide_eq_false (take_ne (k := k) hlt hlt' (by rw [unhide HX, unhide HY]; simp [*]))), by (repeat (first | with_reducible assumption | with_reducible exact Below.refl _ _ | with_reducible refine Below.drew ?_ | with_reducible refine bdrewN ?_ _ | (with_reducible refine Below.alloc ?_ ?side _; case side => (first | omega | (simp [go_sem]; done) | (simp [go_sem]; omega))) | (with_reducible refine Below.setCell ?_ ?side _; case side => (first | omega | (simp [go_sem]; done) | (simp [go_sem]; omega)))))⟩
      subst e1
      by_cases e2 : nn = nn'
      case neg =>
        have q : (nn == nn') = false := by simpa using e2
        go_wp2_with fail
        go_quiet (fail)
        go_wp2
        go_ret
        exact ⟨ret_bool (by symm; exact decide_eq_false (take_ne (k := k) hlt hlt' (by rw [unhide HX, unhide HY]; simp [*]))), by (repeat (first | with_reducible assumption | with_reducible exact Below.refl _ _ | with_reducible refine Below.drew ?_ | with_reducible refine bdrewN ?_ _ | (with_reducible refine Below.alloc ?_ ?side _; case side => (first | omega | (simp [go_sem]; done) | (simp [go_sem]; omega))) | (with_reducible refine Below.setCell ?_ ?side _; case side => (first | omega | (simp [go_sem]; done) | (simp [go_sem]; omega)))))⟩
      subst e2
      by_cases e3 : tt = tt'
      case neg =>
        have q := toList_ne e3
        go_wp2_with fail
        go_quiet (fail)
        go_wp2
        go_ret
        exact ⟨ret_bool (by symm; exact decide_eq_false (take_ne (k := k) hlt hlt' (by rw [unhide HX, unhide HY]; simp [*]))), by (repeat (first | with_reducible assumption | with_reducible exact Below.refl _ _ | with_reducible refine Below.drew ?_ | with_reducible refine bdrewN ?_ _ | (with_reducible refine Below.alloc ?_ ?side _; case side => (first | omega | (simp [go_sem]; done) | (simp [go_sem]; omega))) | (with_reducible refine Below.setCell ?_ ?side _; case side => (first | omega | (simp [go_sem]; done) | (simp [go_sem]; omega)))))⟩
      subst e3
      go_wp2_with fail
      go_quiet (fail)
      go_wp2
      refine ⟨⟨k + 1, by omega, by go_num, hide (fun j hj => ?_), by (repeat (first | with_reducible assumption | with_reducible exact Below.refl _ _ | with_reducible refine Below.drew ?_ | with_reducible refine bdrewN ?_ _ | (with_reducible refine Below.alloc ?_ ?side _; case side => (first | omega | (simp [go_sem]; done) | (simp [go_sem]; omega))) | (with_reducible refine Below.setCell ?_ ?side _; case side => (first | omega | (simp [go_sem]; done) | (simp [go_sem]; omega)))))⟩, by simp [intOf]; omega⟩
      by_cases hjk : j = k
      · subst hjk; rw [unhide HX, unhide HY]
      · exact unhide hsame j (by omega)
    · have hki : ¬ (k : Int) < (l.length : Int) := by omega
      obtain rfl : k = l.length := by omega
      go_wp2
      go_ret
      exact ⟨ret_bool (by symm; exact decide_eq_true (take_eq hne (unhide hsame))), hbl⟩

set_option maxHeartbeats 4000000 in
theorem implSameSpan (tr id st en : Int) (er : Bool) (tr' id' st' en' : Int) (er' : Bool) (l l' : List AttrD) (v v' : Value) (w : World) (ha : AttrsAt w v l) (hb : AttrsAt w v' l') :
    Calls Tryd.prog 15 #[.agg #[.int .i64 tr, .int .i64 id, .int .i64 st, .int .i64 en, .bool er, v], .agg #[.int .i64 tr', .int .i64 id', .int .i64 st', .int .i64 en', .bool er', v']] w fun e w' => e = .returned (.bool (sameD tr id st en er l tr' id' st' en' er' l')) ∧ Below w.heap.size w w' := by
  obtain ⟨a, cap, rfl⟩ := ha.form
  obtain ⟨a', cap', rfl⟩ := hb.form
  by_cases e0 : tr = tr'
  case neg =>
    have q : (tr == tr') = false := by simpa using e0
    go_enter Tryd.func15, Tryd.ntmps15
    go_wp2
    go_ret
    exact ⟨ret_bool (by simp [sameD, *]), by (repeat (first | with_reducible assumption | with_reducible exact Below.refl _ _ | with_reducible refine Below.drew ?_ | with_reducible refine bdrewN ?_ _ | (with_reducible refine Below.alloc ?_ ?side _; case side => (first | omega | (simp [go_sem]; done) | (simp [go_sem]; omega))) | (with_reducible refine Below.setCell ?_ ?side _; case side => (first | omega | (simp [go_sem]; done) | (simp [go_sem]; omega)))))⟩
  subst e0
  by_cases e1 : id = id'
  case neg =>
    have q : (id == id') = false := by simpa using e1
    go_enter Tryd.func15, Tryd.ntmps15
    go_wp2
    go_ret
    exact ⟨ret_bool (by simp [sameD, *]), by (repeat (first | with_reducible assumption | with_reducible exact Below.refl _ _ | with_reducible refine Below.drew ?_ | with_reducible refine bdrewN ?_ _ | (with_reducible refine Below.alloc ?_ ?side _; case side => (first | omega | (simp [go_sem]; done) | (simp [go_sem]; omega))) | (with_reducible refine Below.setCell ?_ ?side _; case side => (first | omega | (simp [go_sem]; done) | (simp [go_sem]; omega)))))⟩
  subst e1
  by_cases e2 : st = st'
  case neg =>
    have q : (st == st') = false := by simpa using e2
    go_enter Tryd.func15, Tryd.ntmps15
    go_wp2
    go_ret
    exact ⟨ret_bool (by simp [sameD, *]), by (repeat (first | with_reducible assumption | with_reducible exact Below.refl _ _ | with_reducible refine Below.drew ?_ | with_reducible refine bdrewN ?_ _ | (with_reducible refine Below.alloc ?_ ?side _; case side => (first | omega | (simp [go_sem]; done) | (simp [go_sem]; omega))) | (with_reducible refine Below.setCell ?_ ?side _; case side => (first | omega | (simp [go_sem]; done) | (simp [go_sem]; omega)))))⟩
  subst e2
  by_cases e3 : en = en'
  case neg =>
    have q : (en == en') = false := by simpa using e3
    go_enter Tryd.func15, Tryd.ntmps15
    go_wp2
    go_ret
    exact ⟨ret_bool (by simp [sameD, *]), by (repeat (first | with_reducible assumption | with_reducible exact Below.refl _ _ | with_reducible refine Below.drew ?_ | with_reducible refine bdrewN ?_ _ | (with_reducible refine Below.alloc ?_ ?side _; case side => (first | omega | (simp [go_sem]; done) | (simp [go_sem]; omega))) | (with_reducible refine Below.setCell ?_ ?side _; case side => (first | omega | (simp [go_sem]; done) | (simp [go_sem]; omega)))))⟩
  subst e3
  by_cases e4 : er = er'
  case neg =>
    have q : (er == er') = false := by simpa using e4
    go_enter Tryd.func15, Tryd.ntmps15
    go_wp2
    go_ret
    exact ⟨ret_bool (by simp [sameD, *]), by (repeat (first | with_reducible assumption | with_reducible exact Below.refl _ _ | with_reducible refine Below.drew ?_ | with_reducible refine bdrewN ?_ _ | (with_reducible refine Below.alloc ?_ ?side _; case side => (first | omega | (simp [go_sem]; done) | (simp [go_sem]; omega))) | (with_reducible refine Below.setCell ?_ ?side _; case side => (first | omega | (simp [go_sem]; done) | (simp [go_sem]; omega)))))⟩
  subst e4
  go_enter Tryd.func15, Tryd.ntmps15
  go_wp2_with fail
  refine (implEqual l l' _ _ _ ((ha.keep (bnew _ _)).keep (bnew _ _)) ((hb.keep (bnew _ _)).keep (bnew _ _))).mono ?_
  rintro e w1 ⟨rfl, hb1⟩
  go_wp2
  go_ret
  exact ⟨ret_bool (by simp [sameD]), bthen (by (repeat (first | with_reducible assumption | with_reducible exact Below.refl _ _ | with_reducible refine Below.drew ?_ | with_reducible refine bdrewN ?_ _ | (with_reducible refine Below.alloc ?_ ?side _; case side => (first | omega | (simp [go_sem]; done) | (simp [go_sem]; omega))) | (with_reducible refine Below.setCell ?_ ?side _; case side => (first | omega | (simp [go_sem]; done) | (simp [go_sem]; omega)))))) hb1⟩

set_option maxHeartbeats 4000000 in
theorem specSameSpan (tr id st en : Int) (er : Bool) (tr' id' st' en' : Int) (er' : Bool) (l l' : List AttrD) (v v' : Value) (w : World) (ha : AttrsAt w v l) (hb : AttrsAt w v' l') :
    Calls Tryd.prog 16 #[.agg #[.int .i64 tr, .int .i64 id, .int .i64 st, .int .i64 en, .bool er, v], .agg #[.int .i64 tr', .int .i64 id', .int .i64 st', .int .i64 en', .bool er', v']] w fun e w' => e = .returned (.bool (sameD tr id st en er l tr' id' st' en' er' l')) ∧ Below w.heap.size w w' := by
  obtain ⟨a, cap, rfl⟩ := ha.form
  obtain ⟨a', cap', rfl⟩ := hb.form
  have hl := ha.len
  have hl' := hb.len
  have HA := hide ha
  have HB := hide hb
  clear ha hb
  by_cases e0 : tr = tr'
  case neg =>
    have q : (tr == tr') = false := by simpa using e0
    go_enter Tryd.func16, Tryd.ntmps16
    go_wp2
    go_ret
    exact ⟨ret_bool (by simp [sameD, *]), by (repeat (first | with_reducible assumption | with_reducible exact Below.refl _ _ | with_reducible refine Below.drew ?_ | with_reducible refine bdrewN ?_ _ | (with_reducible refine Below.alloc ?_ ?side _; case side => (first | omega | (simp [go_sem]; done) | (simp [go_sem]; omega))) | (with_reducible refine Below.setCell ?_ ?side _; case side => (first | omega | (simp [go_sem]; done) | (simp [go_sem]; omega)))))⟩
  subst e0
  by_cases e1 : id = id'
  case neg =>
    have q : (id == id') = false := by simpa using e1
    go_enter Tryd.func16, Tryd.ntmps16
    go_wp2
    go_ret
    exact ⟨ret_bool (by simp [sameD, *]), by (repeat (first | with_reducible assumption | with_reducible exact Below.refl _ _ | with_reducible refine Below.drew ?_ | with_reducible refine bdrewN ?_ _ | (with_reducible refine Below.alloc ?_ ?side _; case side => (first | omega | (simp [go_sem]; done) | (simp [go_sem]; omega))) | (with_reducible refine Below.setCell ?_ ?side _; case side => (first | omega | (simp [go_sem]; done) | (simp [go_sem]; omega)))))⟩
  subst e1
  by_cases e2 : st = st'
  case neg =>
    have q : (st == st') = false := by simpa using e2
    go_enter Tryd.func16, Tryd.ntmps16
    go_wp2
    go_ret
    exact ⟨ret_bool (by simp [sameD, *]), by (repeat (first | with_reducible assumption | with_reducible exact Below.refl _ _ | with_reducible refine Below.drew ?_ | with_reducible refine bdrewN ?_ _ | (with_reducible refine Below.alloc ?_ ?side _; case side => (first | omega | (simp [go_sem]; done) | (simp [go_sem]; omega))) | (with_reducible refine Below.setCell ?_ ?side _; case side => (first | omega | (simp [go_sem]; done) | (simp [go_sem]; omega)))))⟩
  subst e2
  by_cases e3 : en = en'
  case neg =>
    have q : (en == en') = false := by simpa using e3
    go_enter Tryd.func16, Tryd.ntmps16
    go_wp2
    go_ret
    exact ⟨ret_bool (by simp [sameD, *]), by (repeat (first | with_reducible assumption | with_reducible exact Below.refl _ _ | with_reducible refine Below.drew ?_ | with_reducible refine bdrewN ?_ _ | (with_reducible refine Below.alloc ?_ ?side _; case side => (first | omega | (simp [go_sem]; done) | (simp [go_sem]; omega))) | (with_reducible refine Below.setCell ?_ ?side _; case side => (first | omega | (simp [go_sem]; done) | (simp [go_sem]; omega)))))⟩
  subst e3
  by_cases e4 : er = er'
  case neg =>
    have q : (er == er') = false := by simpa using e4
    go_enter Tryd.func16, Tryd.ntmps16
    go_wp2
    go_ret
    exact ⟨ret_bool (by simp [sameD, *]), by (repeat (first | with_reducible assumption | with_reducible exact Below.refl _ _ | with_reducible refine Below.drew ?_ | with_reducible refine bdrewN ?_ _ | (with_reducible refine Below.alloc ?_ ?side _; case side => (first | omega | (simp [go_sem]; done) | (simp [go_sem]; omega))) | (with_reducible refine Below.setCell ?_ ?side _; case side => (first | omega | (simp [go_sem]; done) | (simp [go_sem]; omega)))))⟩
  subst e4
  by_cases hne : l.length = l'.length
  case neg =>
    have hne' : ((l.length : Int) == (l'.length : Int)) = false := beq_eq_false_iff_ne.2 (by omega)
    have hll : l ≠ l' := fun e => hne (by rw [e])
    go_enter Tryd.func16, Tryd.ntmps16
    go_wp2
    go_ret
    exact ⟨ret_bool (by simp [sameD, *]), by (repeat (first | with_reducible assumption | with_reducible exact Below.refl _ _ | with_reducible refine Below.drew ?_ | with_reducible refine bdrewN ?_ _ | (with_reducible refine Below.alloc ?_ ?side _; case side => (first | omega | (simp [go_sem]; done) | (simp [go_sem]; omega))) | (with_reducible refine Below.setCell ?_ ?side _; case side => (first | omega | (simp [go_sem]; done) | (simp [go_sem]; omega)))))⟩
  go_enter Tryd.func16, Tryd.ntmps16
  go_wp2
  generalize hW : World.alloc (World.alloc w _) _ = w1
  have B1 : Below w.heap.size w w1 := by rw [← hW]; (repeat (first | with_reducible assumption | with_reducible exact Below.refl _ _ | with_reducible refine Below.drew ?_ | with_reducible refine bdrewN ?_ _ | (with_reducible refine Below.alloc ?_ ?side _; case side => (first | omega | (simp [go_sem]; done) | (simp [go_sem]; omega))) | (with_reducible refine Below.setCell ?_ ?side _; case side => (first | omega | (simp [go_sem]; done) | (simp [go_sem]; omega)))))
  have q1 : Held6 w1 w.heap.size (.int .i64 tr) (.int .i64 id) (.int .i64 st) (.int .i64 en) (.bool er) (.slice a l'.length cap) := by
    rw [← hW]; exact (Held6.new w _ _ _ _ _ _ _).keep (bnew _ _)
  have q2 : Held6 w1 (w.heap.size + 1) (.int .i64 tr) (.int .i64 id) (.int .i64 st) (.int .i64 en) (.bool er) (.slice a' l'.length cap') := by
    rw [← hW]; have := Held6.new (w.alloc (.cells #[.int .i64 tr, .int .i64 id, .int .i64 st, .int .i64 en, .bool er, .slice a l'.length cap] 26)) (.int .i64 tr) (.int .i64 id) (.int .i64 st) (.int .i64 en) (.bool er) (.slice a' l'.length cap') 26; simpa using this
  have HA1 := hide ((unhide HA).keep B1)
  have HB1 := hide ((unhide HB).keep B1)
  clear hW
  go_loopw [5] (fun i wk => ∃ k : Nat, k ≤ l.length ∧ i = .int .i64 k ∧ Hid (∀ j, j < k → l.getD j dA = l'.getD j dA) ∧ Below w1.heap.size w1 wk) (fun i _ => l.length - (intOf i).toNat)
  case atStart => exact ⟨0, Nat.zero_le _, rfl, hide (fun j hj => absurd hj (Nat.not_lt_zero _)), Below.refl _ _⟩
  case round =>
    obtain ⟨k, hk, rfl, hsame, hbl⟩ := hrel
    have hbs := hbl.size
    obtain ⟨_, _, _, _, _, _, s5⟩ := q1.keep hbl
    obtain ⟨_, _, _, _, _, _, t5⟩ := q2.keep hbl
    by_cases hlt : k < l.length
    · have hlt' : k < l'.length := by omega
      obtain ⟨b, o, rfl, hbk, c0, c1, c2, c3⟩ := (unhide HA1).at k hlt
      obtain ⟨b', o', rfl, hbk', d0, d1, d2, d3⟩ := (unhide HB1).at k hlt'
      generalize hX : l.getD k dA = x at *
      generalize hY : l'.getD k dA = y at *
      obtain ⟨kk, bb, nn, tt⟩ := x
      obtain ⟨kk', bb', nn', tt'⟩ := y
      simp only at c0 c1 c2 c3 d0 d1 d2 d3
      have HX := hide hX
      have HY := hide hY
      clear hX hY
      rw [← hbl.cell hbk] at c0 c1 c2 c3
      rw [← hbl.cell hbk'] at d0 d1 d2 d3
      have hki : (k : Int) < (l.length : Int) := by omega
      have hki' : (k : Int) < (l'.length : Int) := by omega
      by_cases e0 : kk = kk'
      case neg =>
        have q := toList_ne e0
        go_wp2_with fail
        go_quiet (fail)
        go_wp2
        go_ret
        exact ⟨ret_bool (by symm; have := take_ne (k := k) hlt hlt' (by rw [unhide HX, unhide HY]; simp [*]); simp [sameD, this]), by have hbb := bthen B1 hbl; (repeat (first | with_reducible assumption | with_reducible exact Below.refl _ _ | with_reducible refine Below.drew ?_ | with_reducible refine bdrewN ?_ _ | (with_reducible refine Below.alloc ?_ ?side _; case side => (first | omega | (simp [go_sem]; done) | (simp [go_sem]; omega))) | (with_reducible refine Below.setCell ?_ ?side _; case side => (first | omega | (simp [go_sem]; done) | (simp [go_sem]; omega)))))⟩
      subst e0
      by_cases e1 : bb = bb'
      case neg =>
        have q : (bb == bb') = false := by simpa using e1
        go_wp2_with fail
        go_quiet (fail)
        go_wp2
        go_ret
        exact ⟨ret_bool (by symm; have := take_ne (k := k) hlt hlt' (by rw [unhide HX, unhide HY]; simp [*]); simp [sameD, this]), by have hbb := bthen B1 hbl; (repeat (first | with_reducible assumption | with_reducible exact Below.refl _ _ | with_reducible refine Below.drew ?_ | with_reducible refine bdrewN ?_ _ | (with_reducible refine Below.alloc ?_ ?side _; case side => (first | omega | (simp [go_sem]; done) | (simp [go_sem]; omega))) | (with_reducible refine Below.setCell ?_ ?side _; case side => (first | omega | (simp [go_sem]; done) | (simp [go_sem]; omega)))))⟩
      subst e1
      by_cases e2 : nn = nn'
      case neg =>
        have q : (nn == nn') = false := by simpa using e2
        go_wp2_with fail
        go_quiet (fail)
        go_wp2
        go_ret
        exact ⟨ret_bool (by symm; have := take_ne (k := k) hlt hlt' (by rw [unhide HX, unhide HY]; simp [*]); simp [sameD, this]), by have hbb := bthen B1 hbl; (repeat (first | with_reducible assumption | with_reducible exact Below.refl _ _ | with_reducible refine Below.drew ?_ | with_reducible refine bdrewN ?_ _ | (with_reducible refine Below.alloc ?_ ?side _; case side => (first | omega | (simp [go_sem]; done) | (simp [go_sem]; omega))) | (with_reducible refine Below.setCell ?_ ?side _; case side => (first | omega | (simp [go_sem]; done) | (simp [go_sem]; omega)))))⟩
      subst e2
      by_cases e3 : tt = tt'
      case neg =>
        have q := toList_ne e3
        go_wp2_with fail
        go_quiet (fail)
        go_wp2
        go_ret
        exact ⟨ret_bool (by symm; have := take_ne (k := k) hlt hlt' (by rw [unhide HX, unhide HY]; simp [*]); simp [sameD, this]), by have hbb := bthen B1 hbl; (repeat (first | with_reducible assumption | with_reducible exact Below.refl _ _ | with_reducible refine Below.drew ?_ | with_reducible refine bdrewN ?_ _ | (with_reducible refine Below.alloc ?_ ?side _; case side => (first | omega | (simp [go_sem]; done) | (simp [go_sem]; omega))) | (with_reducible refine Below.setCell ?_ ?side _; case side => (first | omega | (simp [go_sem]; done) | (simp [go_sem]; omega)))))⟩
      subst e3
      go_wp2_with fail
      go_quiet (fail)
      go_wp2
      refine ⟨⟨k + 1, by omega, by go_num, hide (fun j hj => ?_), by (repeat (first | with_reducible assumption | with_reducible exact Below.refl _ _ | with_reducible refine Below.drew ?_ | with_reducible refine bdrewN ?_ _ | (with_reducible refine Below.alloc ?_ ?side _; case side => (first | omega | (simp [go_sem]; done) | (simp [go_sem]; omega))) | (with_reducible refine Below.setCell ?_ ?side _; case side => (first | omega | (simp [go_sem]; done) | (simp [go_sem]; omega)))))⟩, by simp [intOf]; omega⟩
      by_cases hjk : j = k
      · subst hjk; rw [unhide HX, unhide HY]
      · exact unhide hsame j (by omega)
    · have hki : ¬ (k : Int) < (l.length : Int) := by omega
      obtain rfl : k = l.length := by omega
      go_wp2
      go_ret
      exact ⟨ret_bool (by symm; have := take_eq hne (unhide hsame); simp [sameD, this]), bthen B1 hbl⟩

end Go.Proofs.YtchinpgjaddnkaaDoor
