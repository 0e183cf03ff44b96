/-
  Count: what lies in memory, read and owned; contracts of the law's own sizes, copies and comparisons.
-/
import Derived.Test.YtopngelgpfjdeaaMem
import Derived.Deep.CutRange
namespace Go.Proofs.Ytopngelgpfjdeaa
open Go.ChangeShapes Go.WideShapes Go.ChangeAt Go.RowKit
set_option linter.unusedVariables false
set_option maxRecDepth 100000

structure CountD where
  came : Int
  went : Int
  moving : Int
  held : Int
  dropped : Int
def countBulk (x : CountD) : Nat := 0
def countR (w : World) (S : Nat → Prop) (cs : List Value) (x : CountD) : Prop := cs = [.int .i64 x.came, .int .i64 x.went, .int .i64 x.moving, .int .i64 x.held, .int .i64 x.dropped]
def countO (w : World) (S : Nat → Prop) (cs : List Value) (x : CountD) : Prop := cs = [.int .i64 x.came, .int .i64 x.went, .int .i64 x.moving, .int .i64 x.held, .int .i64 x.dropped]
theorem countR_keeps : Keeps countR := fun _ _ _ _ _ _ _ _ h => h
theorem countR_widens : Widens countR := fun _ _ _ _ _ _ h => h
theorem countO_keeps : Keeps countO := fun _ _ _ _ _ _ _ _ h => h
theorem countO_widens : Widens countO := fun _ _ _ _ _ _ h => h
theorem countO_read (w : World) (S : Nat → Prop) (cs : List Value) (x : CountD) (h : countO w S cs x) : countR w S cs x := h
theorem countO_len {w : World} {S : Nat → Prop} {cs : List Value} {x : CountD} (h : countO w S cs x) : cs.length = 5 := by
  rw [show cs = _ from h]; rfl

end Go.Proofs.Ytopngelgpfjdeaa
