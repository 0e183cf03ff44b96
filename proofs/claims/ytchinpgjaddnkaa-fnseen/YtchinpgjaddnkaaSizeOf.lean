/-
  Contracts of chapter 3's SizeOf, of the program and of the specification.
-/
import Derived.Test.YtchinpgjaddnkaaSpan
import Derived.Test.YtchinpgjaddnkaaAttrSize
namespace Go.Proofs.Ytchinpgjaddnkaa
open Go.ChangeShapes Go.WideShapes Go.ChangeAt Go.RowKit
set_option linter.unusedVariables false
set_option maxRecDepth 100000

def asz (x : AttrD) : Int := asize x.1 x.2.1 x.2.2.2
def sumA (l : List AttrD) : Int := (l.map asz).sum
theorem asz_lo (x : AttrD) : 0 ≤ asz x := by unfold asz asize; split <;> omega
theorem asz_hi (x : AttrD) : asz x ≤ x.1.size + x.2.2.2.size + 4 := by unfold asz asize; split <;> omega
theorem sumA_snoc (l : List AttrD) (k : Nat) (h : k < l.length) : sumA (l.take (k + 1)) = sumA (l.take k) + asz (l.getD k dA) := by
  unfold sumA
  rw [List.take_succ_eq_append_getElem h, List.map_append, List.sum_append]
  simp [List.getD, h]
theorem sumA_lo (l : List AttrD) : 0 ≤ sumA l := by
  unfold sumA
  induction l with
  | nil => simp
  | cons x r ih => have := asz_lo x; simp only [List.map_cons, List.sum_cons]; omega
theorem sumA_hi (l : List AttrD) : sumA l ≤ 4 * l.length + bytesA l := by
  unfold sumA bytesA
  induction l with
  | nil => simp
  | cons x r ih => have := asz_hi x; simp only [List.map_cons, List.sum_cons, List.length_cons]; omega
theorem bytesA_take (l : List AttrD) (k : Nat) : bytesA (l.take k) ≤ bytesA l := by
  unfold bytesA
  conv => rhs; rw [← List.take_append_drop k l]
  rw [List.map_append, List.sum_append]
  omega
theorem bytesA_mem {l : List AttrD} {x : AttrD} (h : x ∈ l) : x.1.size + x.2.2.2.size ≤ bytesA l := by
  unfold bytesA
  induction l with
  | nil => simp at h
  | cons y r ih =>
    simp only [List.map_cons, List.sum_cons]
    rcases List.mem_cons.1 h with rfl | h
    · omega
    · have := ih h; omega

end Go.Proofs.Ytchinpgjaddnkaa
