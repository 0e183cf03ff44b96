/-
  Item: what lies in memory, read and owned; contracts of the law's own sizes, copies and comparisons.
-/
import Derived.Test.YtjhlammjnggghaaTSpan
import Derived.Deep.CutRange
namespace Go.Proofs.Ytjhlammjnggghaa
open Go.ChangeShapes Go.WideShapes Go.ChangeAt Go.RowKit
set_option linter.unusedVariables false
set_option maxRecDepth 100000

structure ItemD where
  stamp : Int
  s : SpanD
def itemBulk (x : ItemD) : Nat := bulkL attrBulk x.s.2.2.2.2.2
def itemR (w : World) (S : Nat → Prop) (cs : List Value) (x : ItemD) : Prop := ∃ s0, cs = [.int .i64 x.stamp, .int .i64 x.s.1, .int .i64 x.s.2.1, .int .i64 x.s.2.2.1, .int .i64 x.s.2.2.2.1, .bool x.s.2.2.2.2.1, s0] ∧ LAt 4 attrR w S s0 x.s.2.2.2.2.2
def itemO (w : World) (S : Nat → Prop) (cs : List Value) (x : ItemD) : Prop := ∃ s0, cs = [.int .i64 x.stamp, .int .i64 x.s.1, .int .i64 x.s.2.1, .int .i64 x.s.2.2.1, .int .i64 x.s.2.2.2.1, .bool x.s.2.2.2.2.1, s0] ∧ LOw 4 attrO w S s0 x.s.2.2.2.2.2
theorem itemR_keeps : Keeps itemR := by
  intro w w' S T cs x ht hd h
  obtain ⟨s0, e, g0⟩ := h
  exact ⟨s0, e, g0.turn attrR_keeps ht hd⟩
theorem itemR_widens : Widens itemR := by
  intro w S T cs x hs h
  obtain ⟨s0, e, g0⟩ := h
  exact ⟨s0, e, g0.widens attrR_widens hs⟩
theorem itemO_keeps : Keeps itemO := by
  intro w w' S T cs x ht hd h
  obtain ⟨s0, e, g0⟩ := h
  exact ⟨s0, e, g0.turn attrO_keeps ht hd⟩
theorem itemO_widens : Widens itemO := by
  intro w S T cs x hs h
  obtain ⟨s0, e, g0⟩ := h
  exact ⟨s0, e, g0.widens hs⟩
theorem itemO_read (w : World) (S : Nat → Prop) (cs : List Value) (x : ItemD) (h : itemO w S cs x) : itemR w S cs x := by
  obtain ⟨s0, e, g0⟩ := h
  exact ⟨s0, e, g0.read attrR_widens attrO_read⟩
theorem itemO_len {w : World} {S : Nat → Prop} {cs : List Value} {x : ItemD} (h : itemO w S cs x) : cs.length = 7 := by
  obtain ⟨s0, rfl, _⟩ := h; rfl

end Go.Proofs.Ytjhlammjnggghaa
