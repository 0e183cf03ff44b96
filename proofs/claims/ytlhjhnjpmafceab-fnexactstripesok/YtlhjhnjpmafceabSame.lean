/-
  Contracts of chapter 3's SameSpan, of the program (with slices.Equal) and of the specification.
-/
import Derived.Test.YtlhjhnjpmafceabSpan
import Derived.BigQuiet
import Derived.Deep.QuietTactic
namespace Go.Proofs.Ytlhjhnjpmafceab
open Go.ChangeShapes Go.WideShapes Go.ChangeAt Go.RowKit
set_option linter.unusedVariables false
set_option maxRecDepth 100000

theorem take_ne {l l' : List AttrD} {k : Nat} (h1 : k < l.length) (h2 : k < l'.length) (h : l.getD k dA ≠ l'.getD k dA) : l ≠ l' := by
  intro e; subst e; exact h rfl
theorem take_eq {l l' : List AttrD} (hl : l.length = l'.length) (h : ∀ j, j < l.length → l.getD j dA = l'.getD j dA) : l = l' := by
  apply List.ext_getElem hl
  intro j h1 h2
  have := h j h1
  simpa [List.getD, h1, h2] using this
def sameD (tr id st en : Int) (er : Bool) (l : List AttrD) (tr' id' st' en' : Int) (er' : Bool) (l' : List AttrD) : Bool :=
  decide (tr = tr') && (decide (id = id') && (decide (st = st') && (decide (en = en') && (decide (er = er') && decide (l = l')))))

end Go.Proofs.Ytlhjhnjpmafceab
