/-
  Attr: what lies in memory, read and owned; contracts of the law's own sizes, copies and comparisons.
-/
import Derived.Test.YtchinpgjaddnkaaAttrs2
import Derived.Test.YtchinpgjaddnkaaMem
import Derived.Deep.CutRange
namespace Go.Proofs.Ytchinpgjaddnkaa
open Go.ChangeShapes Go.WideShapes Go.ChangeAt Go.RowKit
set_option linter.unusedVariables false
set_option maxRecDepth 100000

def attrBulk (x : AttrD) : Nat := x.1.size + x.2.2.2.size
def attrR (w : World) (S : Nat → Prop) (cs : List Value) (x : AttrD) : Prop := cs = [.string x.1, .bool x.2.1, .int .i64 x.2.2.1, .string x.2.2.2] ∧ x.1.size ≤ maxLen ∧ x.2.2.2.size ≤ maxLen
def attrO (w : World) (S : Nat → Prop) (cs : List Value) (x : AttrD) : Prop := cs = [.string x.1, .bool x.2.1, .int .i64 x.2.2.1, .string x.2.2.2] ∧ x.1.size ≤ maxLen ∧ x.2.2.2.size ≤ maxLen
theorem attrR_keeps : Keeps attrR := fun _ _ _ _ _ _ _ _ h => h
theorem attrR_widens : Widens attrR := fun _ _ _ _ _ _ h => h
theorem attrO_keeps : Keeps attrO := fun _ _ _ _ _ _ _ _ h => h
theorem attrO_widens : Widens attrO := fun _ _ _ _ _ _ h => h
theorem attrO_read (w : World) (S : Nat → Prop) (cs : List Value) (x : AttrD) (h : attrO w S cs x) : attrR w S cs x := h
theorem attrO_len {w : World} {S : Nat → Prop} {cs : List Value} {x : AttrD} (h : attrO w S cs x) : cs.length = 4 := by
  obtain ⟨rfl, _, _⟩ := h; rfl

end Go.Proofs.Ytchinpgjaddnkaa
