/-
  Verdict: what lies in memory, read and owned; contracts of the law's own sizes, copies and comparisons.
-/
import Derived.Test.YtlhjhnjpmafceaaMem
import Derived.Deep.CutRange
namespace Go.Proofs.Ytlhjhnjpmafceaa
open Go.ChangeShapes Go.WideShapes Go.ChangeAt Go.RowKit
set_option linter.unusedVariables false
set_option maxRecDepth 100000

structure VerdictD where
  trace : Int
  stamp : Int
  keep : Bool
def verdictBulk (x : VerdictD) : Nat := 0
def verdictR (w : World) (S : Nat → Prop) (cs : List Value) (x : VerdictD) : Prop := cs = [.int .i64 x.trace, .int .i64 x.stamp, .bool x.keep]
def verdictO (w : World) (S : Nat → Prop) (cs : List Value) (x : VerdictD) : Prop := cs = [.int .i64 x.trace, .int .i64 x.stamp, .bool x.keep]
theorem verdictR_keeps : Keeps verdictR := fun _ _ _ _ _ _ _ _ h => h
theorem verdictR_widens : Widens verdictR := fun _ _ _ _ _ _ h => h
theorem verdictO_keeps : Keeps verdictO := fun _ _ _ _ _ _ _ _ h => h
theorem verdictO_widens : Widens verdictO := fun _ _ _ _ _ _ h => h
theorem verdictO_read (w : World) (S : Nat → Prop) (cs : List Value) (x : VerdictD) (h : verdictO w S cs x) : verdictR w S cs x := h
theorem verdictO_len {w : World} {S : Nat → Prop} {cs : List Value} {x : VerdictD} (h : verdictO w S cs x) : cs.length = 3 := by
  rw [show cs = _ from h]; rfl

end Go.Proofs.Ytlhjhnjpmafceaa
