/-
  Contracts of chapter 3's SpanOk, of the program and of the specification.
-/
import Derived.Test.YtigkhilgnaecjabSizeOf
import Derived.Test.YtigkhilgnaecjabAttrsOk
namespace Go.Proofs.Ytigkhilgnaecjab
open Go.ChangeShapes Go.WideShapes Go.ChangeAt Go.RowKit
set_option linter.unusedVariables false
set_option maxRecDepth 100000

def spanB (tr id st en : Int) (l : List AttrD) : Bool := inB tr 1 999 && (inB id 1 999 && (inB st 0 99999 && (inB en st 99999 && (attrsB l && decide (12 + sumA l ≤ 96)))))
def timesB (st en : Int) : Bool := decide (0 ≤ st) && (decide (st ≤ en) && decide (en ≤ 99999))
theorem times_eq (st en : Int) : timesB st en = (inB st 0 99999 && inB en st 99999) := by
  apply Bool.eq_iff_iff.2
  simp only [timesB, inB, Bool.and_eq_true, decide_eq_true_eq]
  omega

end Go.Proofs.Ytigkhilgnaecjab
