/-
  Verdict: its cells, one by one.
-/
import Derived.Test.YtjhlammjnggghaaAbs
import Derived.Test.YtjhlammjnggghaaTVerdict
namespace Go.Proofs.Ytjhlammjnggghaa
open Go.ChangeShapes Go.WideShapes Go.ChangeAt Go.RowKit
set_option linter.unusedVariables false
set_option maxRecDepth 100000

theorem verdictR_len {w : World} {S : Nat → Prop} {cs : List Value} {x : VerdictD} (h : verdictR w S cs x) : cs.length = 3 := by
  obtain rfl := h
  rfl
theorem verdictR_one {w : World} {S : Nat → Prop} {cs : List Value} {x : VerdictD} (h : verdictR w S cs x) : One cs := by
  obtain rfl := h
  intro v hv
  simp only [List.mem_cons, List.not_mem_nil, or_false] at hv
  rcases hv with rfl | rfl | rfl <;> rfl
theorem verdictR_c0 {w : World} {S : Nat → Prop} {cs : List Value} {x : VerdictD} (h : verdictR w S cs x) : cs[0]? = some (.int .i64 x.trace) := by
  obtain rfl := h
  rfl
theorem verdictR_c1 {w : World} {S : Nat → Prop} {cs : List Value} {x : VerdictD} (h : verdictR w S cs x) : cs[1]? = some (.int .i64 x.stamp) := by
  obtain rfl := h
  rfl
theorem verdictR_c2 {w : World} {S : Nat → Prop} {cs : List Value} {x : VerdictD} (h : verdictR w S cs x) : cs[2]? = some (.bool x.keep) := by
  obtain rfl := h
  rfl
theorem rowIVerdict : RowT Try.prog 59 3 := ⟨_, Try.underlying59, rfl, by kernel_rfl⟩
end Go.Proofs.Ytjhlammjnggghaa
