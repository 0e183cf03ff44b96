/-
  Item: its cells, one by one.
-/
import Derived.Test.YtjhlammjnggghaaAbs
import Derived.Test.YtjhlammjnggghaaTItem
namespace Go.Proofs.Ytjhlammjnggghaa
open Go.ChangeShapes Go.WideShapes Go.ChangeAt Go.RowKit
set_option linter.unusedVariables false
set_option maxRecDepth 100000

theorem itemR_len {w : World} {S : Nat → Prop} {cs : List Value} {x : ItemD} (h : itemR w S cs x) : cs.length = 7 := by
  obtain ⟨s0, rfl, g0⟩ := h
  rfl
theorem itemR_one {w : World} {S : Nat → Prop} {cs : List Value} {x : ItemD} (h : itemR w S cs x) : One cs := by
  obtain ⟨s0, rfl, g0⟩ := h
  obtain ⟨a0, k0, rfl⟩ := g0.form
  intro v hv
  simp only [List.mem_cons, List.not_mem_nil, or_false] at hv
  rcases hv with rfl | rfl | rfl | rfl | rfl | rfl | rfl <;> rfl
theorem itemR_c0 {w : World} {S : Nat → Prop} {cs : List Value} {x : ItemD} (h : itemR w S cs x) : cs[0]? = some (.int .i64 x.stamp) := by
  obtain ⟨s0, rfl, g0⟩ := h
  rfl
theorem itemR_c1 {w : World} {S : Nat → Prop} {cs : List Value} {x : ItemD} (h : itemR w S cs x) : cs[1]? = some (.int .i64 x.s.1) := by
  obtain ⟨s0, rfl, g0⟩ := h
  rfl
theorem itemR_c2 {w : World} {S : Nat → Prop} {cs : List Value} {x : ItemD} (h : itemR w S cs x) : cs[2]? = some (.int .i64 x.s.2.1) := by
  obtain ⟨s0, rfl, g0⟩ := h
  rfl
theorem itemR_c3 {w : World} {S : Nat → Prop} {cs : List Value} {x : ItemD} (h : itemR w S cs x) : cs[3]? = some (.int .i64 x.s.2.2.1) := by
  obtain ⟨s0, rfl, g0⟩ := h
  rfl
theorem itemR_c4 {w : World} {S : Nat → Prop} {cs : List Value} {x : ItemD} (h : itemR w S cs x) : cs[4]? = some (.int .i64 x.s.2.2.2.1) := by
  obtain ⟨s0, rfl, g0⟩ := h
  rfl
theorem itemR_c5 {w : World} {S : Nat → Prop} {cs : List Value} {x : ItemD} (h : itemR w S cs x) : cs[5]? = some (.bool x.s.2.2.2.2.1) := by
  obtain ⟨s0, rfl, g0⟩ := h
  rfl
theorem itemR_c6 {w : World} {S : Nat → Prop} {cs : List Value} {x : ItemD} (h : itemR w S cs x) : ∃ a k, cs[6]? = some (.slice a x.s.2.2.2.2.2.length k) ∧ LAt 4 attrR w S (.slice a x.s.2.2.2.2.2.length k) x.s.2.2.2.2.2 := by
  obtain ⟨s0, rfl, g0⟩ := h
  obtain ⟨a, k, rfl⟩ := g0.form
  exact ⟨a, k, rfl, g0⟩
theorem itemR_sub_s {w : World} {S : Nat → Prop} {cs : List Value} {x : ItemD} (h : itemR w S cs x) : ∃ c', spanR w S c' x.s ∧ (cs.drop 1).take c'.length = c' := by
  obtain ⟨s0, rfl, g0⟩ := h
  exact ⟨_, ⟨s0, rfl, g0⟩, rfl⟩
end Go.Proofs.Ytjhlammjnggghaa
