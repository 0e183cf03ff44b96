/-
  Contracts of TotalOf, Errors and Longest, of the program and of the specification.
-/
import Derived.Test.YtlhjhnjpmafceabSpans
import Derived.Test.YtlhjhnjpmafceabSizeOf
namespace Go.Proofs.Ytlhjhnjpmafceab
open Go.ChangeShapes Go.WideShapes Go.ChangeAt Go.RowKit
set_option linter.unusedVariables false
set_option maxRecDepth 100000

def sizeS (x : SpanD) : Int := 12 + sumA x.2.2.2.2.2
def totS (l : List SpanD) : Int := (l.map sizeS).sum
def errS (l : List SpanD) : Int := (l.map fun x => if x.2.2.2.2.1 then (1 : Int) else 0).sum
def longS (l : List SpanD) : Int := l.foldl (fun n x => if n < subv x.2.2.2.1 x.2.2.1 then subv x.2.2.2.1 x.2.2.1 else n) 0
theorem totS_snoc (l : List SpanD) (k : Nat) (h : k < l.length) : totS (l.take (k + 1)) = totS (l.take k) + sizeS (l.getD k dS) := by
  unfold totS
  rw [List.take_succ_eq_append_getElem h, List.map_append, List.sum_append]
  simp [List.getD, h]
theorem errS_snoc (l : List SpanD) (k : Nat) (h : k < l.length) : errS (l.take (k + 1)) = errS (l.take k) + (if (l.getD k dS).2.2.2.2.1 then (1 : Int) else 0) := by
  unfold errS
  rw [List.take_succ_eq_append_getElem h, List.map_append, List.sum_append]
  simp [List.getD, h]
theorem longS_snoc (l : List SpanD) (k : Nat) (h : k < l.length) : longS (l.take (k + 1)) = if longS (l.take k) < subv (l.getD k dS).2.2.2.1 (l.getD k dS).2.2.1 then subv (l.getD k dS).2.2.2.1 (l.getD k dS).2.2.1 else longS (l.take k) := by
  unfold longS
  rw [List.take_succ_eq_append_getElem h, List.foldl_append]
  simp [List.getD, h]
theorem totS_lo (l : List SpanD) : 0 ≤ totS l := by
  unfold totS
  induction l with
  | nil => simp
  | cons x r ih => have := sumA_lo x.2.2.2.2.2; simp only [List.map_cons, List.sum_cons, sizeS]; omega
theorem totS_hi (l : List SpanD) : totS l ≤ 12 * l.length + 4 * bulkS l := by
  unfold totS bulkS
  induction l with
  | nil => simp
  | cons x r ih => have := sumA_hi x.2.2.2.2.2; simp only [List.map_cons, List.sum_cons, List.length_cons, sizeS]; omega
theorem errS_in (l : List SpanD) : 0 ≤ errS l ∧ errS l ≤ l.length := by
  unfold errS
  induction l with
  | nil => simp
  | cons x r ih => simp only [List.map_cons, List.sum_cons, List.length_cons]; split <;> omega
theorem bulkS_take (l : List SpanD) (k : Nat) : bulkS (l.take k) ≤ bulkS l := by
  unfold bulkS
  conv => rhs; rw [← List.take_append_drop k l]
  rw [List.map_append, List.sum_append]
  omega

end Go.Proofs.Ytlhjhnjpmafceab
