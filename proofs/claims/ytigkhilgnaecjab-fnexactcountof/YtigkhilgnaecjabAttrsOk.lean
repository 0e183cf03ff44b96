/-
  Contracts of chapter 2's AttrsOk, of the program and of the specification.
-/
import Derived.Test.YtigkhilgnaecjabAttrs2
import Derived.Deep.RegionHeld3
import Derived.Laws.Cover1
namespace Go.Proofs.Ytigkhilgnaecjab
open Go.ChangeShapes Go.WideShapes Go.ChangeAt Go.RowKit
set_option linter.unusedVariables false
set_option maxRecDepth 100000

def attrD (x : AttrD) : Bool := attrB x.1 x.2.1 x.2.2.1 x.2.2.2
/-- What AttrsOk looks at, at place i: the Attr there is right, and its key is behind the one ahead of it. -/
def stepOk (l : List AttrD) (i : Nat) : Bool := attrD (l.getD i dA) && (decide (i = 0) || Op.bytesLess (l.getD (i - 1) dA).1.toList (l.getD i dA).1.toList)
def allOk (l : List AttrD) (k : Nat) : Bool := (List.range k).all (stepOk l)
def attrsB (l : List AttrD) : Bool := allOk l l.length && decide (l.length ≤ 4)
theorem allOk_succ (l : List AttrD) (k : Nat) : allOk l (k + 1) = (allOk l k && stepOk l k) := by
  simp [allOk, List.range_succ, List.all_append]
theorem allOk_false {l : List AttrD} {k n : Nat} (hk : k < n) (h : stepOk l k = false) : allOk l n = false := by
  unfold allOk
  rw [List.all_eq_false]
  exact ⟨k, List.mem_range.2 hk, by simp [h]⟩

end Go.Proofs.Ytigkhilgnaecjab
