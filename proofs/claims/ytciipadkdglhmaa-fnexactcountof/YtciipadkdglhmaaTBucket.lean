/-
  Bucket: what lies in memory, read and owned; contracts of the law's own sizes, copies and comparisons.
-/
import Derived.Test.YtciipadkdglhmaaMem
import Derived.Deep.CutRange
namespace Go.Proofs.Ytciipadkdglhmaa
open Go.ChangeShapes Go.WideShapes Go.ChangeAt Go.RowKit
set_option linter.unusedVariables false
set_option maxRecDepth 100000

structure BucketD where
  rate : Int
  burst : Int
  tokens : Int
  since : Int
def bucketBulk (x : BucketD) : Nat := 0
def bucketR (w : World) (S : Nat → Prop) (cs : List Value) (x : BucketD) : Prop := cs = [.int .i64 x.rate, .int .i64 x.burst, .int .i64 x.tokens, .int .i64 x.since]
def bucketO (w : World) (S : Nat → Prop) (cs : List Value) (x : BucketD) : Prop := cs = [.int .i64 x.rate, .int .i64 x.burst, .int .i64 x.tokens, .int .i64 x.since]
theorem bucketR_keeps : Keeps bucketR := fun _ _ _ _ _ _ _ _ h => h
theorem bucketR_widens : Widens bucketR := fun _ _ _ _ _ _ h => h
theorem bucketO_keeps : Keeps bucketO := fun _ _ _ _ _ _ _ _ h => h
theorem bucketO_widens : Widens bucketO := fun _ _ _ _ _ _ h => h
theorem bucketO_read (w : World) (S : Nat → Prop) (cs : List Value) (x : BucketD) (h : bucketO w S cs x) : bucketR w S cs x := h
theorem bucketO_len {w : World} {S : Nat → Prop} {cs : List Value} {x : BucketD} (h : bucketO w S cs x) : cs.length = 4 := by
  rw [show cs = _ from h]; rfl

set_option maxHeartbeats 4000000 in
theorem mToBucket (x : BucketD) (S : Nat → Prop) (cs : List Value) (w : World) (hb : bucketBulk x ≤ 1048576) (hx : bucketR w S cs x) :
    Calls Try.prog 20 #[.agg cs.toArray] w fun e w' => ∃ cs', e = .returned (.agg cs'.toArray) ∧ bucketO w' (Within w.heap.size w'.heap.size) cs' x ∧ Below w.heap.size w w' := by
  obtain rfl := hx
  go_enter Try.func20, Try.ntmps20
  go_wp2
  exact bodyPost_ret (v := .agg #[.int .i64 x.rate, .int .i64 x.burst, .int .i64 x.tokens, .int .i64 x.since]) (by simp [results, Try.results20, go_sem]) rfl ⟨_, rfl, rfl, by (repeat (first | with_reducible assumption | with_reducible exact Below.refl _ _ | with_reducible refine Below.drew ?_ | with_reducible refine bdrewN ?_ _ | (with_reducible refine Below.alloc ?_ ?side _; case side => (first | omega | (simp [go_sem]; done) | (simp [go_sem]; omega))) | (with_reducible refine Below.setCell ?_ ?side _; case side => (first | omega | (simp [go_sem]; done) | (simp [go_sem]; omega)))))⟩

set_option maxHeartbeats 4000000 in
theorem mEqBucket (x : BucketD) (S S' : Nat → Prop) (cs cs' : List Value) (w : World) (hx : bucketR w S cs x) (hy : bucketR w S' cs' x) :
    Calls Try.prog 36 #[.agg cs.toArray, .agg cs'.toArray] w fun e w' => e = .returned (.bool true) ∧ Below w.heap.size w w' := by
  obtain rfl := hx
  obtain rfl := hy
  go_enter Try.func36, Try.ntmps36
  go_wp2
  go_ret
  exact ⟨rfl, by (repeat (first | with_reducible assumption | with_reducible exact Below.refl _ _ | with_reducible refine Below.drew ?_ | with_reducible refine bdrewN ?_ _ | (with_reducible refine Below.alloc ?_ ?side _; case side => (first | omega | (simp [go_sem]; done) | (simp [go_sem]; omega))) | (with_reducible refine Below.setCell ?_ ?side _; case side => (first | omega | (simp [go_sem]; done) | (simp [go_sem]; omega)))))⟩

end Go.Proofs.Ytciipadkdglhmaa
