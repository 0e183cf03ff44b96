/-
  Contracts of chapter 2's functions of one Attr, of the program and of the specification, and of the law's own sizes, copies and comparisons.
-/
import Derived.Test.YtchinpgjaddnkaaStr1
import Derived.BigQuiet
import Derived.Deep.QuietTactic
import Derived.Deep.RegionWith
namespace Go.Proofs.Ytchinpgjaddnkaa
open Go.ChangeShapes Go.WideShapes Go.ChangeAt Go.RowKit
set_option linter.unusedVariables false
set_option maxRecDepth 100000

def attrB (k : ByteArray) (b : Bool) (n : Int) (t : ByteArray) : Bool := nameB k && (if b then inB n 0 2147483647 && t.toList.isEmpty else decide (n = 0) && plainB t)
theorem beq_eq_dec (n : Int) : (n == 0) = decide (n = 0) := by by_cases h : n = 0 <;> simp [h]
def szv (left : Int) (k t : ByteArray) : Int := if left < k.size then -1 else if left - k.size < t.size then -1 else left - k.size - t.size

end Go.Proofs.Ytchinpgjaddnkaa
