/-
  Task: its cells, one by one.
-/
import Derived.Test.YtklhljknkcmecaaAbs
import Derived.Test.YtklhljknkcmecaaTTask
namespace Go.Proofs.Ytklhljknkcmecaa
open Go.ChangeShapes Go.WideShapes Go.ChangeAt Go.RowKit
set_option linter.unusedVariables false
set_option maxRecDepth 100000

theorem taskR_len {w : World} {S : Nat → Prop} {cs : List Value} {x : TaskD} (h : taskR w S cs x) : cs.length = 12 := by
  obtain ⟨s0, s1, rfl, g0, g1⟩ := h
  rfl
theorem taskR_one {w : World} {S : Nat → Prop} {cs : List Value} {x : TaskD} (h : taskR w S cs x) : One cs := by
  obtain ⟨s0, s1, rfl, g0, g1⟩ := h
  obtain ⟨a0, k0, rfl⟩ := g0.form
  obtain ⟨a1, k1, rfl⟩ := g1.form
  intro v hv
  simp only [List.mem_cons, List.not_mem_nil, or_false] at hv
  rcases hv with rfl | rfl | rfl | rfl | rfl | rfl | rfl | rfl | rfl | rfl | rfl | rfl <;> rfl
theorem rowLTask : RowT Try.prog 50 12 := ⟨_, Try.underlying50, rfl, by kernel_rfl⟩
theorem rowITask : RowT Try.prog 55 12 := ⟨_, Try.underlying55, rfl, by kernel_rfl⟩
end Go.Proofs.Ytklhljknkcmecaa
