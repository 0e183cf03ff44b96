/-
  Wheel: its cells, one by one.
-/
import Derived.Test.YtciipadkdglhmaaAbs
import Derived.Test.YtciipadkdglhmaaTWheel
namespace Go.Proofs.Ytciipadkdglhmaa
open Go.ChangeShapes Go.WideShapes Go.ChangeAt Go.RowKit
set_option linter.unusedVariables false
set_option maxRecDepth 100000

theorem wheelR_len {w : World} {S : Nat → Prop} {cs : List Value} {x : WheelD} (h : wheelR w S cs x) : cs.length = 4 := by
  obtain ⟨s0, s1, s2, rfl, g0, g1, g2⟩ := h
  rfl
theorem wheelR_one {w : World} {S : Nat → Prop} {cs : List Value} {x : WheelD} (h : wheelR w S cs x) : One cs := by
  obtain ⟨s0, s1, s2, rfl, g0, g1, g2⟩ := h
  obtain ⟨a0, k0, rfl⟩ := g0.form
  obtain ⟨a1, k1, rfl⟩ := g1.form
  obtain ⟨a2, k2, rfl⟩ := g2.form
  intro v hv
  simp only [List.mem_cons, List.not_mem_nil, or_false] at hv
  rcases hv with rfl | rfl | rfl | rfl <;> rfl
theorem wheelR_c0 {w : World} {S : Nat → Prop} {cs : List Value} {x : WheelD} (h : wheelR w S cs x) : cs[0]? = some (.int .i64 x.now) := by
  obtain ⟨s0, s1, s2, rfl, g0, g1, g2⟩ := h
  rfl
theorem wheelR_c1 {w : World} {S : Nat → Prop} {cs : List Value} {x : WheelD} (h : wheelR w S cs x) : ∃ a k, cs[1]? = some (.slice a x.near.length k) ∧ LAt 1 timerSR w S (.slice a x.near.length k) x.near := by
  obtain ⟨s0, s1, s2, rfl, g0, g1, g2⟩ := h
  obtain ⟨a, k, rfl⟩ := g0.form
  exact ⟨a, k, rfl, g0⟩
theorem wheelR_c2 {w : World} {S : Nat → Prop} {cs : List Value} {x : WheelD} (h : wheelR w S cs x) : ∃ a k, cs[2]? = some (.slice a x.far.length k) ∧ LAt 1 timerSR w S (.slice a x.far.length k) x.far := by
  obtain ⟨s0, s1, s2, rfl, g0, g1, g2⟩ := h
  obtain ⟨a, k, rfl⟩ := g1.form
  exact ⟨a, k, rfl, g1⟩
theorem wheelR_c3 {w : World} {S : Nat → Prop} {cs : List Value} {x : WheelD} (h : wheelR w S cs x) : ∃ a k, cs[3]? = some (.slice a x.rest.length k) ∧ LAt 3 timerR w S (.slice a x.rest.length k) x.rest := by
  obtain ⟨s0, s1, s2, rfl, g0, g1, g2⟩ := h
  obtain ⟨a, k, rfl⟩ := g2.form
  exact ⟨a, k, rfl, g2⟩
theorem rowLWheel : RowT Try.prog 34 4 := ⟨_, Try.underlying34, rfl, by kernel_rfl⟩
theorem rowIWheel : RowT Try.prog 55 4 := ⟨_, Try.underlying55, rfl, by kernel_rfl⟩
end Go.Proofs.Ytciipadkdglhmaa
