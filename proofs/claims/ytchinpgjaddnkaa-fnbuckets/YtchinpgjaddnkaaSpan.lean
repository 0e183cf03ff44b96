/-
  Things in memory; contracts of the law's own sizes, copies and comparisons of them, and of LengthOf of the program and of the specification.
-/
import Derived.Test.YtchinpgjaddnkaaAttrs2
namespace Go.Proofs.Ytchinpgjaddnkaa
open Go.ChangeShapes Go.WideShapes Go.ChangeAt Go.RowKit
set_option linter.unusedVariables false
set_option maxRecDepth 100000

/-- A block holds six values. -/
def Held6 (w : World) (b : Nat) (v0 v1 v2 v3 v4 v5 : Value) : Prop :=
  b < w.heap.size ∧ w.cell? ⟨b, 0, none⟩ = some v0 ∧ w.cell? ⟨b, 1, none⟩ = some v1 ∧ w.cell? ⟨b, 2, none⟩ = some v2 ∧ w.cell? ⟨b, 3, none⟩ = some v3 ∧ w.cell? ⟨b, 4, none⟩ = some v4 ∧ w.cell? ⟨b, 5, none⟩ = some v5
theorem Held6.keep {w w' : World} {b : Nat} {v0 v1 v2 v3 v4 v5 : Value} (h : Held6 w b v0 v1 v2 v3 v4 v5) (hb : Below w.heap.size w w') : Held6 w' b v0 v1 v2 v3 v4 v5 := by
  obtain ⟨h, c0, c1, c2, c3, c4, c5⟩ := h
  refine ⟨Nat.lt_of_lt_of_le h hb.size, ?_, ?_, ?_, ?_, ?_, ?_⟩ <;> rw [hb.cell h] <;> assumption
theorem Held6.new (w : World) (v0 v1 v2 v3 v4 v5 : Value) (t : TypeId) : Held6 (w.alloc (.cells #[v0, v1, v2, v3, v4, v5] t)) w.heap.size v0 v1 v2 v3 v4 v5 := by
  refine ⟨by simp, ?_, ?_, ?_, ?_, ?_, ?_⟩ <;> simp [go_sem]

theorem AttrsAt.set {w : World} {b n c : Nat} {l : List AttrD} (h : AttrsAt w (.slice (some ⟨b, 0, none⟩) n c) l) {p : Addr} (hp : p.block ≠ b) (u : Value) : AttrsAt (w.setCell p u) (.slice (some ⟨b, 0, none⟩) n c) l := by
  obtain ⟨a, cap, e, hl, hwf, h⟩ := h
  refine ⟨a, cap, e, hl, hwf, ?_⟩
  injection e with e1 e2 e3
  rcases h with h | ⟨b', o, h1, h2, h3⟩
  · exact .inl h
  · rw [← e1] at h1
    injection h1 with h1
    injection h1 with h1 h4 h5
    subst h1
    refine .inr ⟨b, o, by rw [← e1, h4], by simpa using h2, fun i hi => ?_⟩
    obtain ⟨c0, c1, c2, c3⟩ := h3 i hi
    have far : ∀ j, (w.setCell p u).cell? ⟨b, j, none⟩ = w.cell? ⟨b, j, none⟩ := fun j => World.cell?_setCell_other _ _ _ _ (fun e => hp (by rw [e]))
    exact ⟨by rw [far]; exact c0, by rw [far]; exact c1, by rw [far]; exact c2, by rw [far]; exact c3⟩

theorem specLengthOf (tr id st en : Int) (er : Bool) (v : Value) (hv : ∃ a n c, v = .slice a n c) (w : World) :
    Calls Try.prog 33 #[.agg #[.int .i64 tr, .int .i64 id, .int .i64 st, .int .i64 en, .bool er, v]] w fun e w' => e = .returned (.int .i64 (subv en st)) ∧ Below w.heap.size w w' := by
  obtain ⟨a, n, c, rfl⟩ := hv
  go_enter Try.func33, Try.ntmps33
  go_wp2_with (go_at_call 44; refine (specSub _ _ _).mono ?_; rintro e w' ⟨rfl, rfl⟩)
  go_ret
  exact ⟨rfl, by (repeat (first | with_reducible assumption | with_reducible exact Below.refl _ _ | with_reducible refine Below.drew ?_ | with_reducible refine bdrewN ?_ _ | (with_reducible refine Below.alloc ?_ ?side _; case side => (first | omega | (simp [go_sem]; done) | (simp [go_sem]; omega))) | (with_reducible refine Below.setCell ?_ ?side _; case side => (first | omega | (simp [go_sem]; done) | (simp [go_sem]; omega)))))⟩
theorem implLengthOf (tr id st en : Int) (er : Bool) (v : Value) (hv : ∃ a n c, v = .slice a n c) (w : World) :
    Calls Try.prog 32 #[.agg #[.int .i64 tr, .int .i64 id, .int .i64 st, .int .i64 en, .bool er, v]] w fun e w' => e = .returned (.int .i64 (subv en st)) ∧ Below w.heap.size w w' := by
  obtain ⟨a, n, c, rfl⟩ := hv
  go_enter Try.func32, Try.ntmps32
  go_wp2_with (go_at_call 52; refine (implSub _ _ _).mono ?_; rintro e w' ⟨rfl, rfl⟩)
  go_ret
  exact ⟨rfl, by (repeat (first | with_reducible assumption | with_reducible exact Below.refl _ _ | with_reducible refine Below.drew ?_ | with_reducible refine bdrewN ?_ _ | (with_reducible refine Below.alloc ?_ ?side _; case side => (first | omega | (simp [go_sem]; done) | (simp [go_sem]; omega))) | (with_reducible refine Below.setCell ?_ ?side _; case side => (first | omega | (simp [go_sem]; done) | (simp [go_sem]; omega)))))⟩

end Go.Proofs.Ytchinpgjaddnkaa
