/-
  Contracts of functions of a Trail, an Item or a Task, of the program and of the specification: BytesOf, ItemOk, HoldsRule, HoldsStripe, TrailAt.
-/
import Derived.Test.YtigkhilgnaecjabTTrail
import Derived.Test.YtigkhilgnaecjabTTask
import Derived.Test.YtigkhilgnaecjabBridge
import Derived.Test.YtigkhilgnaecjabMix
import Derived.Test.YtigkhilgnaecjabSpanOk
import Derived.Test.YtigkhilgnaecjabTotals
namespace Go.Proofs.Ytigkhilgnaecjab
open Go.ChangeShapes Go.WideShapes Go.ChangeAt Go.RowKit
set_option linter.unusedVariables false
set_option maxRecDepth 100000

def itemB (x : ItemD) : Bool := decide (1 ≤ x.stamp) && spanB x.s.1 x.s.2.1 x.s.2.2.1 x.s.2.2.2.1 x.s.2.2.2.2.2
def ruleB (x : TaskD) : Bool := decide (x.op = 2) && decide (x.pc = 2)
def atID (l : List TrailD) (id : Int) : Int := idxv (fun x : TrailD => decide (x.id = id)) l
end Go.Proofs.Ytigkhilgnaecjab
