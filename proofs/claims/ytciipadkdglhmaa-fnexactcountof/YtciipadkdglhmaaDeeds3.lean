/-
  Sums over deeds of the specification.
-/
import Derived.Test.YtciipadkdglhmaaDeeds1
import Derived.Test.YtciipadkdglhmaaSum1
namespace Go.Proofs.Ytciipadkdglhmaa
open Go.ChangeShapes Go.WideShapes Go.ChangeAt Go.RowKit
set_option linter.unusedVariables false
set_option maxRecDepth 100000

def one (b : Bool) : Int := if b then 1 else 0
def gTookIn (f t : Int) (x : DeedD) : Int := if whenB f t x then x.took else 0
def gKeptIn (f t : Int) (x : DeedD) : Int := if whenB f t x && x.keep then x.n else 0
theorem sum_step {α : Type} (g : α → Int) {l : List α} {k : Nat} (h : k < l.length) : sumI g (l.take (k + 1)) = addI (sumI g (l.take k)) (g l[k]) := fold_snoc' h
theorem wrap_wrap (x : Int) : wrap64 (wrap64 x + 0) = wrap64 x := by unfold wrap64; omega
theorem sum_zero {α : Type} (g : α → Int) (l : List α) : addI (sumI g l) 0 = sumI g l := by
  have h : ∀ (l : List α) (s : Int), addI s 0 = s → addI (l.foldl (fun s x => addI s (g x)) s) 0 = l.foldl (fun s x => addI s (g x)) s := by
    intro l
    induction l with
    | nil => intro s h; exact h
    | cons a r ih => intro s _; exact ih _ (wrap_wrap _)
  exact h l 0 (by unfold addI wrap64; rfl)
end Go.Proofs.Ytciipadkdglhmaa
