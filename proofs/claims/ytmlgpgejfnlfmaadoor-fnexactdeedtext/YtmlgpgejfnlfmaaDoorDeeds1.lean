/-
  What is asked of one deed: whether it took place, was offered with a code, was judged, and when.
-/
import Derived.Test.YtmlgpgejfnlfmaaDoorADeed
import Derived.Test.YtmlgpgejfnlfmaaDoorAbs2
namespace Go.Proofs.YtmlgpgejfnlfmaaDoor
open Go.ChangeShapes Go.WideShapes Go.ChangeAt Go.RowKit
set_option linter.unusedVariables false
set_option maxRecDepth 100000

def tookB (x : DeedD) : Bool := decide (x.lin ≠ -1)
def offB (code : Int) (x : DeedD) : Bool := decide (x.op = 1) && tookB x && decide (x.code = code)
def judB (x : DeedD) : Bool := decide (x.op = 2) && tookB x && !x.void
def keptB (st : Int) (x : DeedD) : Bool := judB x && x.keep && decide (x.stamp = st)
def dropB (x : DeedD) : Bool := decide (x.op = 3)
def whenB (f t : Int) (x : DeedD) : Bool := decide (x.op = 2) && tookB x && decide (f ≤ x.now) && decide (x.now ≤ t)
theorem implTook (x : DeedD) (S0 : Nat → Prop) (c0 : List Value) (w : World) (h0 : deedR w S0 c0 x) (b0 : deedBulk x ≤ 1048576) :
    Calls Tryd.prog 49 #[.agg c0.toArray] w fun e w' => e = .returned (.bool (tookB x)) ∧ Below w.heap.size w w' := by
  have P0 := Held.new w c0 59
  have B0 := bnew w (.cells c0.toArray 59)
  have r0 : RowT Tryd.prog 59 c0.length := by rw [deedR_len h0]; exact rowIDeed
  have HR := hide h0
  clear h0
  by_cases e : x.lin = -1
  · have q : (x.lin == -1) = true := by simpa using e
    have q' : (x.lin != -1) = false := by simpa using e
    have HF := hide (show tookB x = false by simp [tookB, e])
    clear e
    go_enter Tryd.func49, Tryd.ntmps49
    go_upto_region 1 with fail
    generalize World.alloc w _ = w0 at *
    have p18 := P0.2 18 _ (deedR_c18 (unhide HR))
    go_wp2
    go_ret
    exact ⟨ret_bool (unhide HF).symm, B0⟩
  · have q : (x.lin == -1) = false := by simpa using e
    have q' : (x.lin != -1) = true := by simpa using e
    have HF := hide (show tookB x = true by simp [tookB, e])
    clear e
    go_enter Tryd.func49, Tryd.ntmps49
    go_upto_region 1 with fail
    generalize World.alloc w _ = w0 at *
    have p18 := P0.2 18 _ (deedR_c18 (unhide HR))
    go_wp2
    go_ret
    exact ⟨ret_bool (unhide HF).symm, B0⟩
end Go.Proofs.YtmlgpgejfnlfmaaDoor
