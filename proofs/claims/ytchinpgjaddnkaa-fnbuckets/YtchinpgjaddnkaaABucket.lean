/-
  Bucket: its cells, one by one.
-/
import Derived.Test.YtchinpgjaddnkaaAbs
import Derived.Test.YtchinpgjaddnkaaTBucket
namespace Go.Proofs.Ytchinpgjaddnkaa
open Go.ChangeShapes Go.WideShapes Go.ChangeAt Go.RowKit
set_option linter.unusedVariables false
set_option maxRecDepth 100000

theorem bucketR_len {w : World} {S : Nat → Prop} {cs : List Value} {x : BucketD} (h : bucketR w S cs x) : cs.length = 4 := by
  obtain rfl := h
  rfl
theorem bucketR_one {w : World} {S : Nat → Prop} {cs : List Value} {x : BucketD} (h : bucketR w S cs x) : One cs := by
  obtain rfl := h
  intro v hv
  simp only [List.mem_cons, List.not_mem_nil, or_false] at hv
  rcases hv with rfl | rfl | rfl | rfl <;> rfl
theorem bucketR_c0 {w : World} {S : Nat → Prop} {cs : List Value} {x : BucketD} (h : bucketR w S cs x) : cs[0]? = some (.int .i64 x.rate) := by
  obtain rfl := h
  rfl
theorem bucketR_c1 {w : World} {S : Nat → Prop} {cs : List Value} {x : BucketD} (h : bucketR w S cs x) : cs[1]? = some (.int .i64 x.burst) := by
  obtain rfl := h
  rfl
theorem bucketR_c2 {w : World} {S : Nat → Prop} {cs : List Value} {x : BucketD} (h : bucketR w S cs x) : cs[2]? = some (.int .i64 x.tokens) := by
  obtain rfl := h
  rfl
theorem bucketR_c3 {w : World} {S : Nat → Prop} {cs : List Value} {x : BucketD} (h : bucketR w S cs x) : cs[3]? = some (.int .i64 x.since) := by
  obtain rfl := h
  rfl
end Go.Proofs.Ytchinpgjaddnkaa
