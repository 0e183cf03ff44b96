/-
  Contracts of chapter 2's AttrSize, of the program and of the specification.
-/
import Derived.Test.YtchinpgjaddnkaaAttr
namespace Go.Proofs.Ytchinpgjaddnkaa
open Go.ChangeShapes Go.WideShapes Go.ChangeAt Go.RowKit
set_option linter.unusedVariables false
set_option maxRecDepth 100000

def asize (k : ByteArray) (b : Bool) (t : ByteArray) : Int := if b then k.size + 4 else k.size + t.size
end Go.Proofs.Ytchinpgjaddnkaa
