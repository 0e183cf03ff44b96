/-
  Attr: its cells, one by one.
-/
import Derived.Test.YtchinpgjaddnkaaDoorAbs
import Derived.Test.YtchinpgjaddnkaaDoorTAttr
namespace Go.Proofs.YtchinpgjaddnkaaDoor
open Go.ChangeShapes Go.WideShapes Go.ChangeAt Go.RowKit
set_option linter.unusedVariables false
set_option maxRecDepth 100000

theorem attrR_len {w : World} {S : Nat → Prop} {cs : List Value} {x : AttrD} (h : attrR w S cs x) : cs.length = 4 := by
  obtain ⟨rfl, _, _⟩ := h
  rfl
theorem attrR_one {w : World} {S : Nat → Prop} {cs : List Value} {x : AttrD} (h : attrR w S cs x) : One cs := by
  obtain ⟨rfl, _, _⟩ := h
  intro v hv
  simp only [List.mem_cons, List.not_mem_nil, or_false] at hv
  rcases hv with rfl | rfl | rfl | rfl <;> rfl
theorem attrR_c0 {w : World} {S : Nat → Prop} {cs : List Value} {x : AttrD} (h : attrR w S cs x) : cs[0]? = some (.string x.1) := by
  obtain ⟨rfl, _, _⟩ := h
  rfl
theorem attrR_c1 {w : World} {S : Nat → Prop} {cs : List Value} {x : AttrD} (h : attrR w S cs x) : cs[1]? = some (.bool x.2.1) := by
  obtain ⟨rfl, _, _⟩ := h
  rfl
theorem attrR_c2 {w : World} {S : Nat → Prop} {cs : List Value} {x : AttrD} (h : attrR w S cs x) : cs[2]? = some (.int .i64 x.2.2.1) := by
  obtain ⟨rfl, _, _⟩ := h
  rfl
theorem attrR_c3 {w : World} {S : Nat → Prop} {cs : List Value} {x : AttrD} (h : attrR w S cs x) : cs[3]? = some (.string x.2.2.2) := by
  obtain ⟨rfl, _, _⟩ := h
  rfl
theorem rowIAttr : RowT Tryd.prog 49 4 := ⟨_, Tryd.underlying49, rfl, by kernel_rfl⟩
end Go.Proofs.YtchinpgjaddnkaaDoor
