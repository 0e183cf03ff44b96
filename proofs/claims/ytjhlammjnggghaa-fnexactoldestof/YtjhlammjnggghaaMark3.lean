/-
  How many marks a list takes.
-/
import Derived.Test.YtjhlammjnggghaaMark2
namespace Go.Proofs.Ytjhlammjnggghaa
open Go.ChangeShapes Go.WideShapes Go.ChangeAt Go.RowKit
set_option linter.unusedVariables false
set_option maxRecDepth 100000

theorem cnt_bulk {α : Type} (cnt bulk : α → Nat) (c : Nat) (h : ∀ x, cnt x ≤ c + c * bulk x) (l : List α) : cntL cnt l ≤ c * bulkL bulk l := by
  unfold cntL bulkL
  induction l with
  | nil => simp
  | cons x r ih =>
    have := h x
    simp only [List.map_cons, List.sum_cons, List.length_cons]
    rw [Nat.mul_add] at ih ⊢
    rw [Nat.mul_add]
    rw [Nat.mul_add, Nat.mul_one]
    omega
end Go.Proofs.Ytjhlammjnggghaa
