/-
  Contracts of chapter 3's SpanOk, of the program and of the specification.
-/
import Derived.Test.YtjhlammjnggghaaSizeOf
import Derived.Test.YtjhlammjnggghaaAttrsOk
namespace Go.Proofs.Ytjhlammjnggghaa
open Go.ChangeShapes Go.WideShapes Go.ChangeAt Go.RowKit
set_option linter.unusedVariables false
set_option maxRecDepth 100000

def spanB (tr id st en : Int) (l : List AttrD) : Bool := inB tr 1 999 && (inB id 1 999 && (inB st 0 99999 && (inB en st 99999 && (attrsB l && decide (12 + sumA l ≤ 96)))))
def timesB (st en : Int) : Bool := decide (0 ≤ st) && (decide (st ≤ en) && decide (en ≤ 99999))
theorem times_eq (st en : Int) : timesB st en = (inB st 0 99999 && inB en st 99999) := by
  apply Bool.eq_iff_iff.2
  simp only [timesB, inB, Bool.and_eq_true, decide_eq_true_eq]
  omega

set_option maxHeartbeats 2000000 in
theorem specSpanOk (tr id st en : Int) (er : Bool) (l : List AttrD) (v : Value) (w : World) (ha : AttrsAt w v l) (h1 : l.length ≤ 1048576) (h2 : bytesA l ≤ 1048576) :
    Calls Try.prog 145 #[.agg #[.int .i64 tr, .int .i64 id, .int .i64 st, .int .i64 en, .bool er, v]] w fun e w' => e = .returned (.bool (spanB tr id st en l)) ∧ Below w.heap.size w w' := by
  obtain ⟨a, cap, rfl⟩ := ha.form
  cases e0 : inB tr 1 999
  case false =>
    go_enter Try.func145, Try.ntmps145
    go_wp2_with (go_at_call 133; refine (specIn _ _ _ _ (by assumption) _).mono ?_; rintro e w' ⟨rfl, rfl⟩)
    go_ret
    exact ⟨ret_bool (by simp [spanB, *]), by (repeat (first | with_reducible assumption | with_reducible exact Below.refl _ _ | with_reducible refine Below.drew ?_ | with_reducible refine bdrewN ?_ _ | (with_reducible refine Below.alloc ?_ ?side _; case side => (first | omega | (simp [go_sem]; done) | (simp [go_sem]; omega))) | (with_reducible refine Below.setCell ?_ ?side _; case side => (first | omega | (simp [go_sem]; done) | (simp [go_sem]; omega)))))⟩
  cases e1 : inB id 1 999
  case false =>
    go_enter Try.func145, Try.ntmps145
    go_wp2_with (go_at_call 133; refine (specIn _ _ _ _ (by assumption) _).mono ?_; rintro e w' ⟨rfl, rfl⟩)
    go_ret
    exact ⟨ret_bool (by simp [spanB, *]), by (repeat (first | with_reducible assumption | with_reducible exact Below.refl _ _ | with_reducible refine Below.drew ?_ | with_reducible refine bdrewN ?_ _ | (with_reducible refine Below.alloc ?_ ?side _; case side => (first | omega | (simp [go_sem]; done) | (simp [go_sem]; omega))) | (with_reducible refine Below.setCell ?_ ?side _; case side => (first | omega | (simp [go_sem]; done) | (simp [go_sem]; omega)))))⟩
  cases e2 : inB st 0 99999
  case false =>
    go_enter Try.func145, Try.ntmps145
    go_wp2_with (go_at_call 133; refine (specIn _ _ _ _ (by assumption) _).mono ?_; rintro e w' ⟨rfl, rfl⟩)
    go_ret
    exact ⟨ret_bool (by simp [spanB, *]), by (repeat (first | with_reducible assumption | with_reducible exact Below.refl _ _ | with_reducible refine Below.drew ?_ | with_reducible refine bdrewN ?_ _ | (with_reducible refine Below.alloc ?_ ?side _; case side => (first | omega | (simp [go_sem]; done) | (simp [go_sem]; omega))) | (with_reducible refine Below.setCell ?_ ?side _; case side => (first | omega | (simp [go_sem]; done) | (simp [go_sem]; omega)))))⟩
  cases e3 : inB en st 99999
  case false =>
    go_enter Try.func145, Try.ntmps145
    go_wp2_with (go_at_call 133; refine (specIn _ _ _ _ (by assumption) _).mono ?_; rintro e w' ⟨rfl, rfl⟩)
    go_ret
    exact ⟨ret_bool (by simp [spanB, *]), by (repeat (first | with_reducible assumption | with_reducible exact Below.refl _ _ | with_reducible refine Below.drew ?_ | with_reducible refine bdrewN ?_ _ | (with_reducible refine Below.alloc ?_ ?side _; case side => (first | omega | (simp [go_sem]; done) | (simp [go_sem]; omega))) | (with_reducible refine Below.setCell ?_ ?side _; case side => (first | omega | (simp [go_sem]; done) | (simp [go_sem]; omega)))))⟩
  have H0 := Held6.new w (.int .i64 tr) (.int .i64 id) (.int .i64 st) (.int .i64 en) (.bool er) (.slice a l.length cap) 33
  have ha1 := ha.keep (bnew w (.cells #[.int .i64 tr, .int .i64 id, .int .i64 st, .int .i64 en, .bool er, .slice a l.length cap] 33))
  cases e4 : attrsB l
  · go_enter Try.func145, Try.ntmps145
    go_wp2_with (first | (go_at_call 133; refine (specIn _ _ _ _ (by assumption) _).mono ?_; rintro e w' ⟨rfl, rfl⟩) | (go_at_call 204; refine (specAttrsOk l _ _ ha1).mono ?_; rintro e w1 ⟨rfl, hb1⟩; rw [e4]))
    go_ret
    exact ⟨ret_bool (by simp [spanB, *]), bthen (bnew _ _) hb1⟩
  · go_enter Try.func145, Try.ntmps145
    go_wp2_with (first | (go_at_call 133; refine (specIn _ _ _ _ (by assumption) _).mono ?_; rintro e w' ⟨rfl, rfl⟩) | (go_at_call 204; refine (specAttrsOk l _ _ ha1).mono ?_; rintro e w1 ⟨rfl, hb1⟩; rw [e4]; obtain ⟨_, c0, c1, c2, c3, c4, c5⟩ := H0.keep hb1) | (go_at_call 205; refine (specSizeOf tr id st en er l _ _ (ha1.keep hb1) h1 h2).mono ?_; rintro e w2 ⟨rfl, hb2⟩))
    go_ret
    exact ⟨ret_bool (by simp [spanB, *]), bthen (bthen (bnew _ _) hb1) hb2⟩

theorem implIdOk (n : Int) (v : Bool) (h : inB n 1 999 = v) (w : World) :
    Calls Try.prog 191 #[.int .i64 n] w fun e w' => e = .returned (.bool v) ∧ w' = w := by
  subst h
  unfold inB
  by_cases h1 : 1 ≤ n <;> by_cases h2 : n ≤ 999 <;> simp only [h1, h2, decide_true, decide_false, Bool.and_true, Bool.and_false] <;>
  · go_enter Try.func191, Try.ntmps191
    go_wp2
    go_ret
    exact ⟨rfl, rfl⟩

theorem implTimesOk (tr id st en : Int) (er : Bool) (x : Bool) (h : timesB st en = x) (a : Option Addr) (n c : Nat) (w : World) :
    Calls Try.prog 199 #[.agg #[.int .i64 tr, .int .i64 id, .int .i64 st, .int .i64 en, .bool er, .slice a n c]] w fun e w' => e = .returned (.bool x) ∧ Below w.heap.size w w' := by
  subst h
  by_cases q0 : 0 ≤ st
  case neg =>
    go_enter Try.func199, Try.ntmps199
    go_wp2
    go_ret
    exact ⟨ret_bool (by symm; rw [timesB, decide_eq_false (p := 0 ≤ st) (by omega)]; rfl), by (repeat (first | with_reducible assumption | with_reducible exact Below.refl _ _ | with_reducible refine Below.drew ?_ | with_reducible refine bdrewN ?_ _ | (with_reducible refine Below.alloc ?_ ?side _; case side => (first | omega | (simp [go_sem]; done) | (simp [go_sem]; omega))) | (with_reducible refine Below.setCell ?_ ?side _; case side => (first | omega | (simp [go_sem]; done) | (simp [go_sem]; omega)))))⟩
  by_cases q1 : st ≤ en
  case neg =>
    go_enter Try.func199, Try.ntmps199
    go_wp2
    go_ret
    exact ⟨ret_bool (by symm; rw [timesB, decide_eq_false (p := st ≤ en) (by omega)]; simp), by (repeat (first | with_reducible assumption | with_reducible exact Below.refl _ _ | with_reducible refine Below.drew ?_ | with_reducible refine bdrewN ?_ _ | (with_reducible refine Below.alloc ?_ ?side _; case side => (first | omega | (simp [go_sem]; done) | (simp [go_sem]; omega))) | (with_reducible refine Below.setCell ?_ ?side _; case side => (first | omega | (simp [go_sem]; done) | (simp [go_sem]; omega)))))⟩
  by_cases q2 : en ≤ 99999
  · go_enter Try.func199, Try.ntmps199
    go_wp2
    go_ret
    exact ⟨ret_bool (by symm; rw [timesB, decide_eq_true q0, decide_eq_true q1, decide_eq_true q2]; rfl), by (repeat (first | with_reducible assumption | with_reducible exact Below.refl _ _ | with_reducible refine Below.drew ?_ | with_reducible refine bdrewN ?_ _ | (with_reducible refine Below.alloc ?_ ?side _; case side => (first | omega | (simp [go_sem]; done) | (simp [go_sem]; omega))) | (with_reducible refine Below.setCell ?_ ?side _; case side => (first | omega | (simp [go_sem]; done) | (simp [go_sem]; omega)))))⟩
  · go_enter Try.func199, Try.ntmps199
    go_wp2
    go_ret
    exact ⟨ret_bool (by symm; rw [timesB, decide_eq_false (p := en ≤ 99999) (by omega)]; simp), by (repeat (first | with_reducible assumption | with_reducible exact Below.refl _ _ | with_reducible refine Below.drew ?_ | with_reducible refine bdrewN ?_ _ | (with_reducible refine Below.alloc ?_ ?side _; case side => (first | omega | (simp [go_sem]; done) | (simp [go_sem]; omega))) | (with_reducible refine Below.setCell ?_ ?side _; case side => (first | omega | (simp [go_sem]; done) | (simp [go_sem]; omega)))))⟩

set_option maxHeartbeats 2000000 in
theorem implSpanOk (tr id st en : Int) (er : Bool) (l : List AttrD) (v : Value) (w : World) (ha : AttrsAt w v l) (h1 : l.length ≤ 1048576) (h2 : bytesA l ≤ 1048576) :
    Calls Try.prog 140 #[.agg #[.int .i64 tr, .int .i64 id, .int .i64 st, .int .i64 en, .bool er, v]] w fun e w' => e = .returned (.bool (spanB tr id st en l)) ∧ Below w.heap.size w w' := by
  obtain ⟨a, cap, rfl⟩ := ha.form
  cases e0 : inB tr 1 999
  case false =>
    go_enter Try.func140, Try.ntmps140
    go_wp2_with (go_at_call 191; refine (implIdOk _ _ (by assumption) _).mono ?_; rintro e w' ⟨rfl, rfl⟩)
    go_ret
    exact ⟨ret_bool (by simp [spanB, *]), by (repeat (first | with_reducible assumption | with_reducible exact Below.refl _ _ | with_reducible refine Below.drew ?_ | with_reducible refine bdrewN ?_ _ | (with_reducible refine Below.alloc ?_ ?side _; case side => (first | omega | (simp [go_sem]; done) | (simp [go_sem]; omega))) | (with_reducible refine Below.setCell ?_ ?side _; case side => (first | omega | (simp [go_sem]; done) | (simp [go_sem]; omega)))))⟩
  cases e1 : inB id 1 999
  case false =>
    go_enter Try.func140, Try.ntmps140
    go_wp2_with (go_at_call 191; refine (implIdOk _ _ (by assumption) _).mono ?_; rintro e w' ⟨rfl, rfl⟩)
    go_ret
    exact ⟨ret_bool (by simp [spanB, *]), by (repeat (first | with_reducible assumption | with_reducible exact Below.refl _ _ | with_reducible refine Below.drew ?_ | with_reducible refine bdrewN ?_ _ | (with_reducible refine Below.alloc ?_ ?side _; case side => (first | omega | (simp [go_sem]; done) | (simp [go_sem]; omega))) | (with_reducible refine Below.setCell ?_ ?side _; case side => (first | omega | (simp [go_sem]; done) | (simp [go_sem]; omega)))))⟩
  have H0 := Held6.new w (.int .i64 tr) (.int .i64 id) (.int .i64 st) (.int .i64 en) (.bool er) (.slice a l.length cap) 33
  have ha1 := ha.keep (bnew w (.cells #[.int .i64 tr, .int .i64 id, .int .i64 st, .int .i64 en, .bool er, .slice a l.length cap] 33))
  have ht : spanB tr id st en l = (timesB st en && (attrsB l && decide (12 + sumA l ≤ 96))) := by
    rw [times_eq, spanB, e0, e1]; simp [Bool.and_assoc]
  rw [ht]
  clear ht
  cases e2 : timesB st en
  case false =>
    go_enter Try.func140, Try.ntmps140
    go_wp2_with (first | (go_at_call 191; refine (implIdOk _ _ (by assumption) _).mono ?_; rintro e w' ⟨rfl, rfl⟩) | (go_at_call 199; refine (implTimesOk tr id st en er _ e2 _ _ _ _).mono ?_; rintro e w1 ⟨rfl, hb1⟩; obtain ⟨_, c0, c1, c2, c3, c4, c5⟩ := H0.keep hb1))
    go_ret
    exact ⟨rfl, bthen (bnew _ _) hb1⟩
  cases e4 : attrsB l
  · go_enter Try.func140, Try.ntmps140
    go_wp2_with (first | (go_at_call 191; refine (implIdOk _ _ (by assumption) _).mono ?_; rintro e w' ⟨rfl, rfl⟩) | (go_at_call 199; refine (implTimesOk tr id st en er _ e2 _ _ _ _).mono ?_; rintro e w1 ⟨rfl, hb1⟩; obtain ⟨_, c0, c1, c2, c3, c4, c5⟩ := H0.keep hb1) | (go_at_call 200; refine (implAttrsOk l _ _ (ha1.keep hb1)).mono ?_; rintro e w2 ⟨rfl, hb2⟩; rw [e4]))
    go_ret
    exact ⟨rfl, bthen (bthen (bnew _ _) hb1) hb2⟩
  · go_enter Try.func140, Try.ntmps140
    go_wp2_with (first | (go_at_call 191; refine (implIdOk _ _ (by assumption) _).mono ?_; rintro e w' ⟨rfl, rfl⟩) | (go_at_call 199; refine (implTimesOk tr id st en er _ e2 _ _ _ _).mono ?_; rintro e w1 ⟨rfl, hb1⟩; obtain ⟨_, c0, c1, c2, c3, c4, c5⟩ := H0.keep hb1) | (go_at_call 200; refine (implAttrsOk l _ _ (ha1.keep hb1)).mono ?_; rintro e w2 ⟨rfl, hb2⟩; rw [e4]; clear c0 c1 c2 c3 c4 c5; obtain ⟨_, c0, c1, c2, c3, c4, c5⟩ := (H0.keep hb1).keep hb2) | (go_at_call 201; refine (implSizeOf tr id st en er l _ _ ((ha1.keep hb1).keep hb2) h1 h2).mono ?_; rintro e w3 ⟨rfl, hb3⟩))
    go_ret
    exact ⟨ret_bool (by simp), bthen (bthen (bthen (bnew _ _) hb1) hb2) hb3⟩

end Go.Proofs.Ytjhlammjnggghaa
