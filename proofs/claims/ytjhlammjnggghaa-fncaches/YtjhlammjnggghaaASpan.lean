/-
  Span: its cells, one by one.
-/
import Derived.Test.YtjhlammjnggghaaAbs
import Derived.Test.YtjhlammjnggghaaTSpan
namespace Go.Proofs.Ytjhlammjnggghaa
open Go.ChangeShapes Go.WideShapes Go.ChangeAt Go.RowKit
set_option linter.unusedVariables false
set_option maxRecDepth 100000

theorem spanR_len {w : World} {S : Nat → Prop} {cs : List Value} {x : SpanD} (h : spanR w S cs x) : cs.length = 6 := by
  obtain ⟨s0, rfl, g0⟩ := h
  rfl
theorem spanR_one {w : World} {S : Nat → Prop} {cs : List Value} {x : SpanD} (h : spanR w S cs x) : One cs := by
  obtain ⟨s0, rfl, g0⟩ := h
  obtain ⟨a0, k0, rfl⟩ := g0.form
  intro v hv
  simp only [List.mem_cons, List.not_mem_nil, or_false] at hv
  rcases hv with rfl | rfl | rfl | rfl | rfl | rfl <;> rfl
theorem spanR_c0 {w : World} {S : Nat → Prop} {cs : List Value} {x : SpanD} (h : spanR w S cs x) : cs[0]? = some (.int .i64 x.1) := by
  obtain ⟨s0, rfl, g0⟩ := h
  rfl
theorem spanR_c1 {w : World} {S : Nat → Prop} {cs : List Value} {x : SpanD} (h : spanR w S cs x) : cs[1]? = some (.int .i64 x.2.1) := by
  obtain ⟨s0, rfl, g0⟩ := h
  rfl
theorem spanR_c2 {w : World} {S : Nat → Prop} {cs : List Value} {x : SpanD} (h : spanR w S cs x) : cs[2]? = some (.int .i64 x.2.2.1) := by
  obtain ⟨s0, rfl, g0⟩ := h
  rfl
theorem spanR_c3 {w : World} {S : Nat → Prop} {cs : List Value} {x : SpanD} (h : spanR w S cs x) : cs[3]? = some (.int .i64 x.2.2.2.1) := by
  obtain ⟨s0, rfl, g0⟩ := h
  rfl
theorem spanR_c4 {w : World} {S : Nat → Prop} {cs : List Value} {x : SpanD} (h : spanR w S cs x) : cs[4]? = some (.bool x.2.2.2.2.1) := by
  obtain ⟨s0, rfl, g0⟩ := h
  rfl
theorem spanR_c5 {w : World} {S : Nat → Prop} {cs : List Value} {x : SpanD} (h : spanR w S cs x) : ∃ a k, cs[5]? = some (.slice a x.2.2.2.2.2.length k) ∧ LAt 4 attrR w S (.slice a x.2.2.2.2.2.length k) x.2.2.2.2.2 := by
  obtain ⟨s0, rfl, g0⟩ := h
  obtain ⟨a, k, rfl⟩ := g0.form
  exact ⟨a, k, rfl, g0⟩
theorem rowLSpan : RowT Try.prog 25 6 := ⟨_, Try.underlying25, rfl, by kernel_rfl⟩
theorem rowISpan : RowT Try.prog 33 6 := ⟨_, Try.underlying33, rfl, by kernel_rfl⟩
end Go.Proofs.Ytjhlammjnggghaa
