/-
  Task: its cells, one by one.
-/
import Derived.Test.YtlhjhnjpmafceabAbs
import Derived.Test.YtlhjhnjpmafceabTTask
namespace Go.Proofs.Ytlhjhnjpmafceab
open Go.ChangeShapes Go.WideShapes Go.ChangeAt Go.RowKit
set_option linter.unusedVariables false
set_option maxRecDepth 100000

theorem taskR_len {w : World} {S : Nat → Prop} {cs : List Value} {x : TaskD} (h : taskR w S cs x) : cs.length = 12 := by
  obtain ⟨s0, s1, rfl, g0, g1⟩ := h
  rfl
theorem taskR_one {w : World} {S : Nat → Prop} {cs : List Value} {x : TaskD} (h : taskR w S cs x) : One cs := by
  obtain ⟨s0, s1, rfl, g0, g1⟩ := h
  obtain ⟨a0, k0, rfl⟩ := g0.form
  obtain ⟨a1, k1, rfl⟩ := g1.form
  intro v hv
  simp only [List.mem_cons, List.not_mem_nil, or_false] at hv
  rcases hv with rfl | rfl | rfl | rfl | rfl | rfl | rfl | rfl | rfl | rfl | rfl | rfl <;> rfl
theorem taskR_c0 {w : World} {S : Nat → Prop} {cs : List Value} {x : TaskD} (h : taskR w S cs x) : cs[0]? = some (.int .i64 x.op) := by
  obtain ⟨s0, s1, rfl, g0, g1⟩ := h
  rfl
theorem taskR_c1 {w : World} {S : Nat → Prop} {cs : List Value} {x : TaskD} (h : taskR w S cs x) : cs[1]? = some (.int .i64 x.pc) := by
  obtain ⟨s0, s1, rfl, g0, g1⟩ := h
  rfl
theorem taskR_c2 {w : World} {S : Nat → Prop} {cs : List Value} {x : TaskD} (h : taskR w S cs x) : cs[2]? = some (.int .i64 x.s.1) := by
  obtain ⟨s0, s1, rfl, g0, g1⟩ := h
  rfl
theorem taskR_c3 {w : World} {S : Nat → Prop} {cs : List Value} {x : TaskD} (h : taskR w S cs x) : cs[3]? = some (.int .i64 x.s.2.1) := by
  obtain ⟨s0, s1, rfl, g0, g1⟩ := h
  rfl
theorem taskR_c4 {w : World} {S : Nat → Prop} {cs : List Value} {x : TaskD} (h : taskR w S cs x) : cs[4]? = some (.int .i64 x.s.2.2.1) := by
  obtain ⟨s0, s1, rfl, g0, g1⟩ := h
  rfl
theorem taskR_c5 {w : World} {S : Nat → Prop} {cs : List Value} {x : TaskD} (h : taskR w S cs x) : cs[5]? = some (.int .i64 x.s.2.2.2.1) := by
  obtain ⟨s0, s1, rfl, g0, g1⟩ := h
  rfl
theorem taskR_c6 {w : World} {S : Nat → Prop} {cs : List Value} {x : TaskD} (h : taskR w S cs x) : cs[6]? = some (.bool x.s.2.2.2.2.1) := by
  obtain ⟨s0, s1, rfl, g0, g1⟩ := h
  rfl
theorem taskR_c7 {w : World} {S : Nat → Prop} {cs : List Value} {x : TaskD} (h : taskR w S cs x) : ∃ a k, cs[7]? = some (.slice a x.s.2.2.2.2.2.length k) ∧ LAt 4 attrR w S (.slice a x.s.2.2.2.2.2.length k) x.s.2.2.2.2.2 := by
  obtain ⟨s0, s1, rfl, g0, g1⟩ := h
  obtain ⟨a, k, rfl⟩ := g0.form
  exact ⟨a, k, rfl, g0⟩
theorem taskR_c8 {w : World} {S : Nat → Prop} {cs : List Value} {x : TaskD} (h : taskR w S cs x) : cs[8]? = some (.int .i64 x.trace) := by
  obtain ⟨s0, s1, rfl, g0, g1⟩ := h
  rfl
theorem taskR_c9 {w : World} {S : Nat → Prop} {cs : List Value} {x : TaskD} (h : taskR w S cs x) : cs[9]? = some (.int .i64 x.stamp) := by
  obtain ⟨s0, s1, rfl, g0, g1⟩ := h
  rfl
theorem taskR_c10 {w : World} {S : Nat → Prop} {cs : List Value} {x : TaskD} (h : taskR w S cs x) : ∃ a k, cs[10]? = some (.slice a x.hand.length k) ∧ LAt 7 itemR w S (.slice a x.hand.length k) x.hand := by
  obtain ⟨s0, s1, rfl, g0, g1⟩ := h
  obtain ⟨a, k, rfl⟩ := g1.form
  exact ⟨a, k, rfl, g1⟩
theorem taskR_c11 {w : World} {S : Nat → Prop} {cs : List Value} {x : TaskD} (h : taskR w S cs x) : cs[11]? = some (.int .i64 x.h) := by
  obtain ⟨s0, s1, rfl, g0, g1⟩ := h
  rfl
theorem taskR_sub_s {w : World} {S : Nat → Prop} {cs : List Value} {x : TaskD} (h : taskR w S cs x) : ∃ c', spanR w S c' x.s ∧ (cs.drop 2).take c'.length = c' := by
  obtain ⟨s0, s1, rfl, g0, g1⟩ := h
  exact ⟨_, ⟨s0, rfl, g0⟩, rfl⟩
end Go.Proofs.Ytlhjhnjpmafceab
