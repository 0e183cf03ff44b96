/-
  Task: what lies in memory, read and owned; contracts of the law's own sizes, copies and comparisons.
-/
import Derived.Test.YtjhlammjnggghaaTItem
import Derived.Deep.CutRange
namespace Go.Proofs.Ytjhlammjnggghaa
open Go.ChangeShapes Go.WideShapes Go.ChangeAt Go.RowKit
set_option linter.unusedVariables false
set_option maxRecDepth 100000

structure TaskD where
  op : Int
  pc : Int
  s : SpanD
  trace : Int
  stamp : Int
  hand : List ItemD
  h : Int
def taskBulk (x : TaskD) : Nat := bulkL attrBulk x.s.2.2.2.2.2 + bulkL itemBulk x.hand
def taskR (w : World) (S : Nat → Prop) (cs : List Value) (x : TaskD) : Prop := ∃ s0 s1, cs = [.int .i64 x.op, .int .i64 x.pc, .int .i64 x.s.1, .int .i64 x.s.2.1, .int .i64 x.s.2.2.1, .int .i64 x.s.2.2.2.1, .bool x.s.2.2.2.2.1, s0, .int .i64 x.trace, .int .i64 x.stamp, s1, .int .i64 x.h] ∧ LAt 4 attrR w S s0 x.s.2.2.2.2.2 ∧ LAt 7 itemR w S s1 x.hand
def taskO (w : World) (S : Nat → Prop) (cs : List Value) (x : TaskD) : Prop := ∃ s0 s1 : Value, ∃ T : Nat → Nat → Prop, cs = [.int .i64 x.op, .int .i64 x.pc, .int .i64 x.s.1, .int .i64 x.s.2.1, .int .i64 x.s.2.2.1, .int .i64 x.s.2.2.2.1, .bool x.s.2.2.2.2.1, s0, .int .i64 x.trace, .int .i64 x.stamp, s1, .int .i64 x.h] ∧ (∀ i k, T i k → S k) ∧ (∀ i j k, T i k → T j k → i = j) ∧ LOw 4 attrO w (T 0) s0 x.s.2.2.2.2.2 ∧ LOw 7 itemO w (T 1) s1 x.hand
theorem taskR_keeps : Keeps taskR := by
  intro w w' S T cs x ht hd h
  obtain ⟨s0, s1, e, g0, g1⟩ := h
  exact ⟨s0, s1, e, g0.turn attrR_keeps ht hd, g1.turn itemR_keeps ht hd⟩
theorem taskR_widens : Widens taskR := by
  intro w S T cs x hs h
  obtain ⟨s0, s1, e, g0, g1⟩ := h
  exact ⟨s0, s1, e, g0.widens attrR_widens hs, g1.widens itemR_widens hs⟩
theorem taskO_keeps : Keeps taskO := by
  intro w w' S T cs x ht hd h
  obtain ⟨s0, s1, U, e, u1, u2, g0, g1⟩ := h
  exact ⟨s0, s1, U, e, u1, u2, g0.turn attrO_keeps ht (fun k hk => hd k (u1 0 k hk)), g1.turn itemO_keeps ht (fun k hk => hd k (u1 1 k hk))⟩
theorem taskO_widens : Widens taskO := by
  intro w S T cs x hs h
  obtain ⟨s0, s1, U, e, u1, u2, g0, g1⟩ := h
  exact ⟨s0, s1, U, e, fun i k hk => hs k (u1 i k hk), u2, g0, g1⟩
theorem taskO_read (w : World) (S : Nat → Prop) (cs : List Value) (x : TaskD) (h : taskO w S cs x) : taskR w S cs x := by
  obtain ⟨s0, s1, U, e, u1, u2, g0, g1⟩ := h
  exact ⟨s0, s1, e, (g0.read attrR_widens attrO_read).widens attrR_widens (u1 0), (g1.read itemR_widens itemO_read).widens itemR_widens (u1 1)⟩
theorem taskO_len {w : World} {S : Nat → Prop} {cs : List Value} {x : TaskD} (h : taskO w S cs x) : cs.length = 12 := by
  obtain ⟨s0, s1, _, rfl, _, _, _, _⟩ := h; rfl

end Go.Proofs.Ytjhlammjnggghaa
