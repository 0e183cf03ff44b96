/-
  Count: what lies in memory, read and owned; contracts of the law's own sizes, copies and comparisons.
-/
import Derived.Test.YtciipadkdglhmaaMem
import Derived.Deep.CutRange
namespace Go.Proofs.Ytciipadkdglhmaa
open Go.ChangeShapes Go.WideShapes Go.ChangeAt Go.RowKit
set_option linter.unusedVariables false
set_option maxRecDepth 100000

structure CountD where
  came : Int
  went : Int
  moving : Int
  held : Int
  dropped : Int
def countBulk (x : CountD) : Nat := 0
def countR (w : World) (S : Nat → Prop) (cs : List Value) (x : CountD) : Prop := cs = [.int .i64 x.came, .int .i64 x.went, .int .i64 x.moving, .int .i64 x.held, .int .i64 x.dropped]
def countO (w : World) (S : Nat → Prop) (cs : List Value) (x : CountD) : Prop := cs = [.int .i64 x.came, .int .i64 x.went, .int .i64 x.moving, .int .i64 x.held, .int .i64 x.dropped]
theorem countR_keeps : Keeps countR := fun _ _ _ _ _ _ _ _ h => h
theorem countR_widens : Widens countR := fun _ _ _ _ _ _ h => h
theorem countO_keeps : Keeps countO := fun _ _ _ _ _ _ _ _ h => h
theorem countO_widens : Widens countO := fun _ _ _ _ _ _ h => h
theorem countO_read (w : World) (S : Nat → Prop) (cs : List Value) (x : CountD) (h : countO w S cs x) : countR w S cs x := h
theorem countO_len {w : World} {S : Nat → Prop} {cs : List Value} {x : CountD} (h : countO w S cs x) : cs.length = 5 := by
  rw [show cs = _ from h]; rfl

set_option maxHeartbeats 4000000 in
theorem mEqCount (x : CountD) (S S' : Nat → Prop) (cs cs' : List Value) (w : World) (hx : countR w S cs x) (hy : countR w S' cs' x) :
    Calls Try.prog 8 #[.agg cs.toArray, .agg cs'.toArray] w fun e w' => e = .returned (.bool true) ∧ Below w.heap.size w w' := by
  obtain rfl := hx
  obtain rfl := hy
  go_enter Try.func8, Try.ntmps8
  go_wp2
  go_ret
  exact ⟨rfl, by (repeat (first | with_reducible assumption | with_reducible exact Below.refl _ _ | with_reducible refine Below.drew ?_ | with_reducible refine bdrewN ?_ _ | (with_reducible refine Below.alloc ?_ ?side _; case side => (first | omega | (simp [go_sem]; done) | (simp [go_sem]; omega))) | (with_reducible refine Below.setCell ?_ ?side _; case side => (first | omega | (simp [go_sem]; done) | (simp [go_sem]; omega)))))⟩

end Go.Proofs.Ytciipadkdglhmaa
