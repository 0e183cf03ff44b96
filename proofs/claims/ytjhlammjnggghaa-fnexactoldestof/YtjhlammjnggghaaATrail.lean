/-
  Trail: its cells, one by one.
-/
import Derived.Test.YtjhlammjnggghaaAbs
import Derived.Test.YtjhlammjnggghaaTTrail
namespace Go.Proofs.Ytjhlammjnggghaa
open Go.ChangeShapes Go.WideShapes Go.ChangeAt Go.RowKit
set_option linter.unusedVariables false
set_option maxRecDepth 100000

theorem trailR_len {w : World} {S : Nat → Prop} {cs : List Value} {x : TrailD} (h : trailR w S cs x) : cs.length = 4 := by
  obtain ⟨s0, rfl, g0⟩ := h
  rfl
theorem trailR_one {w : World} {S : Nat → Prop} {cs : List Value} {x : TrailD} (h : trailR w S cs x) : One cs := by
  obtain ⟨s0, rfl, g0⟩ := h
  obtain ⟨a0, k0, rfl⟩ := g0.form
  intro v hv
  simp only [List.mem_cons, List.not_mem_nil, or_false] at hv
  rcases hv with rfl | rfl | rfl | rfl <;> rfl
theorem trailR_c0 {w : World} {S : Nat → Prop} {cs : List Value} {x : TrailD} (h : trailR w S cs x) : cs[0]? = some (.int .i64 x.id) := by
  obtain ⟨s0, rfl, g0⟩ := h
  rfl
theorem trailR_c1 {w : World} {S : Nat → Prop} {cs : List Value} {x : TrailD} (h : trailR w S cs x) : cs[1]? = some (.int .i64 x.stamp) := by
  obtain ⟨s0, rfl, g0⟩ := h
  rfl
theorem trailR_c2 {w : World} {S : Nat → Prop} {cs : List Value} {x : TrailD} (h : trailR w S cs x) : cs[2]? = some (.int .i64 x.first) := by
  obtain ⟨s0, rfl, g0⟩ := h
  rfl
theorem trailR_c3 {w : World} {S : Nat → Prop} {cs : List Value} {x : TrailD} (h : trailR w S cs x) : ∃ a k, cs[3]? = some (.slice a x.spans.length k) ∧ LAt 6 spanR w S (.slice a x.spans.length k) x.spans := by
  obtain ⟨s0, rfl, g0⟩ := h
  obtain ⟨a, k, rfl⟩ := g0.form
  exact ⟨a, k, rfl, g0⟩
theorem rowLTrail : RowT Try.prog 123 4 := ⟨_, Try.underlying123, rfl, by kernel_rfl⟩
theorem rowITrail : RowT Try.prog 44 4 := ⟨_, Try.underlying44, rfl, by kernel_rfl⟩
end Go.Proofs.Ytjhlammjnggghaa
