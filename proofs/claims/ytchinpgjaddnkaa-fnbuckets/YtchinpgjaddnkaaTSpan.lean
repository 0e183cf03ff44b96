/-
  Span: what lies in memory, read and owned; contracts of the law's own sizes, copies and comparisons.
-/
import Derived.Test.YtchinpgjaddnkaaTAttr
import Derived.Test.YtchinpgjaddnkaaSpans
import Derived.Deep.CutRange
namespace Go.Proofs.Ytchinpgjaddnkaa
open Go.ChangeShapes Go.WideShapes Go.ChangeAt Go.RowKit
set_option linter.unusedVariables false
set_option maxRecDepth 100000

def spanBulk (x : SpanD) : Nat := bulkL attrBulk x.2.2.2.2.2
def spanR (w : World) (S : Nat → Prop) (cs : List Value) (x : SpanD) : Prop := ∃ s0, cs = [.int .i64 x.1, .int .i64 x.2.1, .int .i64 x.2.2.1, .int .i64 x.2.2.2.1, .bool x.2.2.2.2.1, s0] ∧ LAt 4 attrR w S s0 x.2.2.2.2.2
def spanO (w : World) (S : Nat → Prop) (cs : List Value) (x : SpanD) : Prop := ∃ s0, cs = [.int .i64 x.1, .int .i64 x.2.1, .int .i64 x.2.2.1, .int .i64 x.2.2.2.1, .bool x.2.2.2.2.1, s0] ∧ LOw 4 attrO w S s0 x.2.2.2.2.2
theorem spanR_keeps : Keeps spanR := by
  intro w w' S T cs x ht hd h
  obtain ⟨s0, e, g0⟩ := h
  exact ⟨s0, e, g0.turn attrR_keeps ht hd⟩
theorem spanR_widens : Widens spanR := by
  intro w S T cs x hs h
  obtain ⟨s0, e, g0⟩ := h
  exact ⟨s0, e, g0.widens attrR_widens hs⟩
theorem spanO_keeps : Keeps spanO := by
  intro w w' S T cs x ht hd h
  obtain ⟨s0, e, g0⟩ := h
  exact ⟨s0, e, g0.turn attrO_keeps ht hd⟩
theorem spanO_widens : Widens spanO := by
  intro w S T cs x hs h
  obtain ⟨s0, e, g0⟩ := h
  exact ⟨s0, e, g0.widens hs⟩
theorem spanO_read (w : World) (S : Nat → Prop) (cs : List Value) (x : SpanD) (h : spanO w S cs x) : spanR w S cs x := by
  obtain ⟨s0, e, g0⟩ := h
  exact ⟨s0, e, g0.read attrR_widens attrO_read⟩
theorem spanO_len {w : World} {S : Nat → Prop} {cs : List Value} {x : SpanD} (h : spanO w S cs x) : cs.length = 6 := by
  obtain ⟨s0, rfl, _⟩ := h; rfl

end Go.Proofs.Ytchinpgjaddnkaa
