/-
  Count: its cells, one by one.
-/
import Derived.Test.YtciipadkdglhmaaAbs
import Derived.Test.YtciipadkdglhmaaTCount
namespace Go.Proofs.Ytciipadkdglhmaa
open Go.ChangeShapes Go.WideShapes Go.ChangeAt Go.RowKit
set_option linter.unusedVariables false
set_option maxRecDepth 100000

theorem countR_len {w : World} {S : Nat → Prop} {cs : List Value} {x : CountD} (h : countR w S cs x) : cs.length = 5 := by
  obtain rfl := h
  rfl
theorem countR_one {w : World} {S : Nat → Prop} {cs : List Value} {x : CountD} (h : countR w S cs x) : One cs := by
  obtain rfl := h
  intro v hv
  simp only [List.mem_cons, List.not_mem_nil, or_false] at hv
  rcases hv with rfl | rfl | rfl | rfl | rfl <;> rfl
theorem countR_c0 {w : World} {S : Nat → Prop} {cs : List Value} {x : CountD} (h : countR w S cs x) : cs[0]? = some (.int .i64 x.came) := by
  obtain rfl := h
  rfl
theorem countR_c1 {w : World} {S : Nat → Prop} {cs : List Value} {x : CountD} (h : countR w S cs x) : cs[1]? = some (.int .i64 x.went) := by
  obtain rfl := h
  rfl
theorem countR_c2 {w : World} {S : Nat → Prop} {cs : List Value} {x : CountD} (h : countR w S cs x) : cs[2]? = some (.int .i64 x.moving) := by
  obtain rfl := h
  rfl
theorem countR_c3 {w : World} {S : Nat → Prop} {cs : List Value} {x : CountD} (h : countR w S cs x) : cs[3]? = some (.int .i64 x.held) := by
  obtain rfl := h
  rfl
theorem countR_c4 {w : World} {S : Nat → Prop} {cs : List Value} {x : CountD} (h : countR w S cs x) : cs[4]? = some (.int .i64 x.dropped) := by
  obtain rfl := h
  rfl
end Go.Proofs.Ytciipadkdglhmaa
