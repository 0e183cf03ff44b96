/-
  Bucket: what lies in memory, read and owned; contracts of the law's own sizes, copies and comparisons.
-/
import Derived.Test.YtchinpgjaddnkaaMem
import Derived.Deep.CutRange
namespace Go.Proofs.Ytchinpgjaddnkaa
open Go.ChangeShapes Go.WideShapes Go.ChangeAt Go.RowKit
set_option linter.unusedVariables false
set_option maxRecDepth 100000

structure BucketD where
  rate : Int
  burst : Int
  tokens : Int
  since : Int
def bucketBulk (x : BucketD) : Nat := 0
def bucketR (w : World) (S : Nat → Prop) (cs : List Value) (x : BucketD) : Prop := cs = [.int .i64 x.rate, .int .i64 x.burst, .int .i64 x.tokens, .int .i64 x.since]
def bucketO (w : World) (S : Nat → Prop) (cs : List Value) (x : BucketD) : Prop := cs = [.int .i64 x.rate, .int .i64 x.burst, .int .i64 x.tokens, .int .i64 x.since]
theorem bucketR_keeps : Keeps bucketR := fun _ _ _ _ _ _ _ _ h => h
theorem bucketR_widens : Widens bucketR := fun _ _ _ _ _ _ h => h
theorem bucketO_keeps : Keeps bucketO := fun _ _ _ _ _ _ _ _ h => h
theorem bucketO_widens : Widens bucketO := fun _ _ _ _ _ _ h => h
theorem bucketO_read (w : World) (S : Nat → Prop) (cs : List Value) (x : BucketD) (h : bucketO w S cs x) : bucketR w S cs x := h
theorem bucketO_len {w : World} {S : Nat → Prop} {cs : List Value} {x : BucketD} (h : bucketO w S cs x) : cs.length = 4 := by
  rw [show cs = _ from h]; rfl

end Go.Proofs.Ytchinpgjaddnkaa
