/-
  Things in memory; contracts of the law's own sizes, copies and comparisons of them, and of LengthOf of the program and of the specification.
-/
import Derived.Test.YtjhlammjnggghaaAttrs2
namespace Go.Proofs.Ytjhlammjnggghaa
open Go.ChangeShapes Go.WideShapes Go.ChangeAt Go.RowKit
set_option linter.unusedVariables false
set_option maxRecDepth 100000

/-- A block holds six values. -/
def Held6 (w : World) (b : Nat) (v0 v1 v2 v3 v4 v5 : Value) : Prop :=
  b < w.heap.size ∧ w.cell? ⟨b, 0, none⟩ = some v0 ∧ w.cell? ⟨b, 1, none⟩ = some v1 ∧ w.cell? ⟨b, 2, none⟩ = some v2 ∧ w.cell? ⟨b, 3, none⟩ = some v3 ∧ w.cell? ⟨b, 4, none⟩ = some v4 ∧ w.cell? ⟨b, 5, none⟩ = some v5
theorem Held6.keep {w w' : World} {b : Nat} {v0 v1 v2 v3 v4 v5 : Value} (h : Held6 w b v0 v1 v2 v3 v4 v5) (hb : Below w.heap.size w w') : Held6 w' b v0 v1 v2 v3 v4 v5 := by
  obtain ⟨h, c0, c1, c2, c3, c4, c5⟩ := h
  refine ⟨Nat.lt_of_lt_of_le h hb.size, ?_, ?_, ?_, ?_, ?_, ?_⟩ <;> rw [hb.cell h] <;> assumption
theorem Held6.new (w : World) (v0 v1 v2 v3 v4 v5 : Value) (t : TypeId) : Held6 (w.alloc (.cells #[v0, v1, v2, v3, v4, v5] t)) w.heap.size v0 v1 v2 v3 v4 v5 := by
  refine ⟨by simp, ?_, ?_, ?_, ?_, ?_, ?_⟩ <;> simp [go_sem]

theorem AttrsAt.set {w : World} {b n c : Nat} {l : List AttrD} (h : AttrsAt w (.slice (some ⟨b, 0, none⟩) n c) l) {p : Addr} (hp : p.block ≠ b) (u : Value) : AttrsAt (w.setCell p u) (.slice (some ⟨b, 0, none⟩) n c) l := by
  obtain ⟨a, cap, e, hl, hwf, h⟩ := h
  refine ⟨a, cap, e, hl, hwf, ?_⟩
  injection e with e1 e2 e3
  rcases h with h | ⟨b', o, h1, h2, h3⟩
  · exact .inl h
  · rw [← e1] at h1
    injection h1 with h1
    injection h1 with h1 h4 h5
    subst h1
    refine .inr ⟨b, o, by rw [← e1, h4], by simpa using h2, fun i hi => ?_⟩
    obtain ⟨c0, c1, c2, c3⟩ := h3 i hi
    have far : ∀ j, (w.setCell p u).cell? ⟨b, j, none⟩ = w.cell? ⟨b, j, none⟩ := fun j => World.cell?_setCell_other _ _ _ _ (fun e => hp (by rw [e]))
    exact ⟨by rw [far]; exact c0, by rw [far]; exact c1, by rw [far]; exact c2, by rw [far]; exact c3⟩

theorem lawSzSpan (tr id st en : Int) (er : Bool) (l : List AttrD) (v : Value) (left : Int) (w : World) (h0 : 0 ≤ left) (h1 : left ≤ 1048576) (ha : AttrsAt w v l) :
    Calls Try.prog 12 #[.agg #[.int .i64 tr, .int .i64 id, .int .i64 st, .int .i64 en, .bool er, v], .int .i64 left] w fun e w' => (∃ z : Int, e = .returned (.int .i64 z) ∧ (z < 0 ∨ (0 ≤ z ∧ z + l.length + bytesA l ≤ left))) ∧ Below w.heap.size w w' := by
  obtain ⟨a, cap, rfl⟩ := ha.form
  go_enter Try.func12, Try.ntmps12
  go_wp2_with fail
  refine (lawSzAttrS l (.slice a l.length cap) left _ h0 h1 (ha.keep (bnew _ _))).mono ?_
  rintro e w1 ⟨⟨z, rfl, hz⟩, hb1⟩
  have HZ := hide hz
  clear hz
  by_cases hneg : z < 0
  · go_wp2
    go_ret
    exact ⟨⟨_, rfl, .inl (by omega)⟩, bthen (bnew _ _) hb1⟩
  · go_wp2
    go_ret
    exact ⟨⟨_, rfl, unhide HZ⟩, bthen (bnew _ _) hb1⟩

set_option maxHeartbeats 2000000 in
theorem lawToSpan (tr id st en : Int) (er : Bool) (l : List AttrD) (v : Value) (w : World) (h1 : l.length ≤ 1048576) (ha : AttrsAt w v l) :
    Calls Try.prog 15 #[.agg #[.int .i64 tr, .int .i64 id, .int .i64 st, .int .i64 en, .bool er, v]] w fun e w' => ∃ b, e = .returned (.agg #[.int .i64 tr, .int .i64 id, .int .i64 st, .int .i64 en, .bool er, .slice (some ⟨b, 0, none⟩) l.length l.length]) ∧ w.heap.size ≤ b ∧ AttrsAt w' (.slice (some ⟨b, 0, none⟩) l.length l.length) l ∧ Below w.heap.size w w' := by
  obtain ⟨a, cap, rfl⟩ := ha.form
  go_enter Try.func15, Try.ntmps15
  go_wp2_with fail
  generalize hW : World.alloc (World.alloc (World.alloc w _) _) _ = w1
  have B1 : Below w.heap.size w w1 := by rw [← hW]; (repeat (first | with_reducible assumption | with_reducible exact Below.refl _ _ | with_reducible refine Below.drew ?_ | with_reducible refine bdrewN ?_ _ | (with_reducible refine Below.alloc ?_ ?side _; case side => (first | omega | (simp [go_sem]; done) | (simp [go_sem]; omega))) | (with_reducible refine Below.setCell ?_ ?side _; case side => (first | omega | (simp [go_sem]; done) | (simp [go_sem]; omega)))))
  have r1 : Row w1 (w.heap.size + 1) 6 := by rw [← hW]; exact Row.keep (by have := Row.new (w := w.alloc (.cells #[.int .i64 tr, .int .i64 id, .int .i64 st, .int .i64 en, .bool er, .slice a l.length cap] 25)) (c := #[.int .i64 0, .int .i64 0, .int .i64 0, .int .i64 0, .bool false, .slice none 0 0]) (t := 33) (n := 6) rfl; simpa using this) (bnew _ _)
  have r2 : Row w1 (w.heap.size + 2) 6 := by rw [← hW]; have := Row.new (w := (w.alloc (.cells #[.int .i64 tr, .int .i64 id, .int .i64 st, .int .i64 en, .bool er, .slice a l.length cap] 25)).alloc (.cells #[.int .i64 0, .int .i64 0, .int .i64 0, .int .i64 0, .bool false, .slice none 0 0] 33)) (c := #[.int .i64 tr, .int .i64 id, .int .i64 st, .int .i64 en, .bool er, .slice none 0 0]) (t := 33) (n := 6) rfl; simpa using this
  have q2 : Held6 w1 (w.heap.size + 2) (.int .i64 tr) (.int .i64 id) (.int .i64 st) (.int .i64 en) (.bool er) (.slice none 0 0) := by rw [← hW]; have := Held6.new ((w.alloc (.cells #[.int .i64 tr, .int .i64 id, .int .i64 st, .int .i64 en, .bool er, .slice a l.length cap] 25)).alloc (.cells #[.int .i64 0, .int .i64 0, .int .i64 0, .int .i64 0, .bool false, .slice none 0 0] 33)) (.int .i64 tr) (.int .i64 id) (.int .i64 st) (.int .i64 en) (.bool er) (.slice none 0 0) 33; simpa using this
  have q1 : Held6 w1 (w.heap.size + 1) (.int .i64 0) (.int .i64 0) (.int .i64 0) (.int .i64 0) (.bool false) (.slice none 0 0) := by rw [← hW]; have := (Held6.new (w.alloc (.cells #[.int .i64 tr, .int .i64 id, .int .i64 st, .int .i64 en, .bool er, .slice a l.length cap] 25)) (.int .i64 0) (.int .i64 0) (.int .i64 0) (.int .i64 0) (.bool false) (.slice none 0 0) 33).keep (bnew _ (.cells #[.int .i64 tr, .int .i64 id, .int .i64 st, .int .i64 en, .bool er, .slice none 0 0] 33)); simpa using this
  clear hW
  refine (lawToAttrS l (.slice a l.length cap) w1 h1 (ha.keep B1)).mono ?_
  rintro e w2 ⟨b, rfl, hbge, ha2, hb2⟩
  obtain ⟨_, p0, p1, p2, p3, p4, p5⟩ := q1.keep hb2
  obtain ⟨_, c0, c1, c2, c3, c4, c5⟩ := q2.keep hb2
  have hr1 := r1.1
  have hr2 := r2.1
  have rr1 := r1.keep hb2
  have rr2 := r2.keep hb2
  have f5 := (rr2.2 5 (by omega)).2
  have g0 := (rr1.2 0 (by omega)).2
  have g1 := (rr1.2 1 (by omega)).2
  have g2 := (rr1.2 2 (by omega)).2
  have g3 := (rr1.2 3 (by omega)).2
  have g4 := (rr1.2 4 (by omega)).2
  have g5 := (rr1.2 5 (by omega)).2
  have HH := hide (And.intro ha2 (And.intro hb2 hbge))
  clear ha2 hb2 hbge q1 q2 r1 r2 rr1 rr2
  have hs1 := B1.size
  go_wp2
  obtain ⟨ha2, hb2, hbge⟩ := unhide HH
  have hbb := bthen B1 hb2
  refine bodyPost_ret (v := .agg #[.int .i64 tr, .int .i64 id, .int .i64 st, .int .i64 en, .bool er, .slice (some ⟨b, 0, none⟩) l.length l.length]) (by simp [results, Try.results15, go_sem, *]) rfl ⟨b, rfl, by omega, ?_, by (repeat (first | with_reducible assumption | with_reducible exact Below.refl _ _ | with_reducible refine Below.drew ?_ | with_reducible refine bdrewN ?_ _ | (with_reducible refine Below.alloc ?_ ?side _; case side => (first | omega | (simp [go_sem]; done) | (simp [go_sem]; omega))) | (with_reducible refine Below.setCell ?_ ?side _; case side => (first | omega | (simp [go_sem]; done) | (simp [go_sem]; omega)))))⟩
  repeat (first | with_reducible exact ha2 | (with_reducible refine AttrsAt.set ?_ ?side _; case side => (simp; omega)))

set_option maxHeartbeats 2000000 in
theorem lawEqSpan (tr id st en : Int) (er : Bool) (l : List AttrD) (v v' : Value) (w : World) (ha : AttrsAt w v l) (hb : AttrsAt w v' l) :
    Calls Try.prog 18 #[.agg #[.int .i64 tr, .int .i64 id, .int .i64 st, .int .i64 en, .bool er, v], .agg #[.int .i64 tr, .int .i64 id, .int .i64 st, .int .i64 en, .bool er, v']] w fun e w' => e = .returned (.bool true) ∧ Below w.heap.size w w' := by
  obtain ⟨a, cap, rfl⟩ := ha.form
  obtain ⟨a', cap', rfl⟩ := hb.form
  go_enter Try.func18, Try.ntmps18
  go_wp2_with fail
  refine (lawEqAttrS l _ _ _ ((ha.keep (bnew _ _)).keep (bnew _ _)) ((hb.keep (bnew _ _)).keep (bnew _ _))).mono ?_
  rintro e w1 ⟨rfl, hb1⟩
  go_wp2
  go_ret
  exact ⟨rfl, bthen (by (repeat (first | with_reducible assumption | with_reducible exact Below.refl _ _ | with_reducible refine Below.drew ?_ | with_reducible refine bdrewN ?_ _ | (with_reducible refine Below.alloc ?_ ?side _; case side => (first | omega | (simp [go_sem]; done) | (simp [go_sem]; omega))) | (with_reducible refine Below.setCell ?_ ?side _; case side => (first | omega | (simp [go_sem]; done) | (simp [go_sem]; omega)))))) hb1⟩

theorem specLengthOf (tr id st en : Int) (er : Bool) (v : Value) (hv : ∃ a n c, v = .slice a n c) (w : World) :
    Calls Try.prog 209 #[.agg #[.int .i64 tr, .int .i64 id, .int .i64 st, .int .i64 en, .bool er, v]] w fun e w' => e = .returned (.int .i64 (subv en st)) ∧ Below w.heap.size w w' := by
  obtain ⟨a, n, c, rfl⟩ := hv
  go_enter Try.func209, Try.ntmps209
  go_wp2_with (go_at_call 239; refine (specSub _ _ _).mono ?_; rintro e w' ⟨rfl, rfl⟩)
  go_ret
  exact ⟨rfl, by (repeat (first | with_reducible assumption | with_reducible exact Below.refl _ _ | with_reducible refine Below.drew ?_ | with_reducible refine bdrewN ?_ _ | (with_reducible refine Below.alloc ?_ ?side _; case side => (first | omega | (simp [go_sem]; done) | (simp [go_sem]; omega))) | (with_reducible refine Below.setCell ?_ ?side _; case side => (first | omega | (simp [go_sem]; done) | (simp [go_sem]; omega)))))⟩
theorem implLengthOf (tr id st en : Int) (er : Bool) (v : Value) (hv : ∃ a n c, v = .slice a n c) (w : World) :
    Calls Try.prog 218 #[.agg #[.int .i64 tr, .int .i64 id, .int .i64 st, .int .i64 en, .bool er, v]] w fun e w' => e = .returned (.int .i64 (subv en st)) ∧ Below w.heap.size w w' := by
  obtain ⟨a, n, c, rfl⟩ := hv
  go_enter Try.func218, Try.ntmps218
  go_wp2_with (go_at_call 243; refine (implSub _ _ _).mono ?_; rintro e w' ⟨rfl, rfl⟩)
  go_ret
  exact ⟨rfl, by (repeat (first | with_reducible assumption | with_reducible exact Below.refl _ _ | with_reducible refine Below.drew ?_ | with_reducible refine bdrewN ?_ _ | (with_reducible refine Below.alloc ?_ ?side _; case side => (first | omega | (simp [go_sem]; done) | (simp [go_sem]; omega))) | (with_reducible refine Below.setCell ?_ ?side _; case side => (first | omega | (simp [go_sem]; done) | (simp [go_sem]; omega)))))⟩

end Go.Proofs.Ytjhlammjnggghaa
