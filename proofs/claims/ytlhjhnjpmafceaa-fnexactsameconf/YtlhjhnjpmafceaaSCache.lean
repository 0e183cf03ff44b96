/-
  SameCache of the program and of the specification.
-/
import Derived.Test.YtlhjhnjpmafceaaTVerdict
import Derived.Test.YtlhjhnjpmafceaaAbs2
namespace Go.Proofs.Ytlhjhnjpmafceaa
open Go.ChangeShapes Go.WideShapes Go.ChangeAt Go.RowKit
set_option linter.unusedVariables false
set_option maxRecDepth 100000

def eqM {α : Type} (p : α → α → Bool) (l m : List α) : Bool := decide (l.length = m.length) && (l.zip m).all (fun q => p q.1 q.2)
theorem eqM_len {α : Type} {p : α → α → Bool} {l m : List α} (h : l.length ≠ m.length) : eqM p l m = false := by simp [eqM, h]
theorem eqM_miss {α : Type} {p : α → α → Bool} {l m : List α} {k : Nat} (h1 : k < l.length) (h2 : k < m.length) (h : p l[k] m[k] = false) : eqM p l m = false := by
  unfold eqM
  rw [Bool.and_eq_false_iff]
  refine .inr ?_
  rw [List.all_eq_false]
  refine ⟨(l[k], m[k]), ?_, by rw [h]; simp⟩
  have hk : k < (l.zip m).length := by rw [List.length_zip]; omega
  have : (l.zip m)[k] = (l[k], m[k]) := by rw [List.getElem_zip]
  rw [← this]
  exact List.getElem_mem hk
theorem eqM_all {α : Type} {p : α → α → Bool} {l m : List α} (hl : l.length = m.length) (h : ∀ j (h1 : j < l.length) (h2 : j < m.length), p l[j] m[j] = true) : eqM p l m = true := by
  unfold eqM
  rw [decide_eq_true hl, Bool.true_and, List.all_eq_true]
  intro q hq
  obtain ⟨j, hj, rfl⟩ := List.mem_iff_getElem.1 hq
  rw [List.length_zip] at hj
  rw [List.getElem_zip]
  exact h j (by omega) (by omega)
def sameVB (x y : VerdictD) : Bool := decide (x.trace = y.trace) && (decide (x.stamp = y.stamp) && (x.keep == y.keep))
end Go.Proofs.Ytlhjhnjpmafceaa
