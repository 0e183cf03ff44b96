/-
  What FnSpans wants of the data: of the two parts of a list, of the words, of the size.
-/
import Derived.Test.YtchinpgjaddnkaaDoorTotals
import Derived.Test.YtchinpgjaddnkaaDoorSame
import Derived.Test.YtchinpgjaddnkaaDoorSpT3
namespace Go.Proofs.YtchinpgjaddnkaaDoor
open Go.ChangeShapes Go.WideShapes Go.ChangeAt Go.RowKit
set_option linter.unusedVariables false
set_option maxRecDepth 100000

theorem sameD_self (tr id st en : Int) (er : Bool) (l : List AttrD) : sameD tr id st en er l tr id st en er l = true := by simp [sameD]
theorem totS_parts (l : List SpanD) (k : Nat) : totS (l.take k) + totS (l.drop k) = totS l := by
  conv => rhs; rw [← List.take_append_drop k l]
  unfold totS
  rw [List.map_append, List.sum_append]
theorem spanX_no {x : SpanD} (h : spanB x.1 x.2.1 x.2.2.1 x.2.2.2.1 x.2.2.2.2.2 = false) : spanX x = ⟨#[]⟩ := by
  unfold spanX spanT; rw [h]; rfl
theorem restT_grow (l : List AttrD) : ∀ t : ByteArray, t.size ≤ (restT t l).size := by
  unfold restT
  induction l with
  | nil => intro t; exact Nat.le_refl _
  | cons x r ih =>
    intro t
    simp only [List.foldl_cons]
    have := ih ((t ++ ⟨#[32]⟩) ++ attrX x)
    simp only [ByteArray.size_append] at this
    omega
theorem headT_pos (tr id st en : Int) : 0 < (headT tr id st en).size := by
  unfold headT
  simp only [ByteArray.size_append]
  have : (⟨#[47]⟩ : ByteArray).size = 1 := rfl
  omega
theorem spanX_yes {x : SpanD} (h : spanB x.1 x.2.1 x.2.2.1 x.2.2.2.1 x.2.2.2.2.2 = true) : 0 < (spanX x).size := by
  unfold spanX spanT
  rw [h, if_pos rfl]
  have h1 := headT_pos x.1 x.2.1 x.2.2.1 x.2.2.2.1
  have h2 := restT_grow x.2.2.2.2.2 (if x.2.2.2.2.1 = true then headT x.1 x.2.1 x.2.2.1 x.2.2.2.1 ++ failT else headT x.1 x.2.1 x.2.2.1 x.2.2.2.1)
  have h3 : 0 < (if x.2.2.2.2.1 = true then headT x.1 x.2.1 x.2.2.1 x.2.2.2.1 ++ failT else headT x.1 x.2.1 x.2.2.1 x.2.2.2.1).size := by
    split
    · rw [ByteArray.size_append]; omega
    · exact h1
  omega
theorem span_facts {tr id st en : Int} {l : List AttrD} (h : spanB tr id st en l = true) : 12 ≤ 12 + sumA l ∧ 12 + sumA l ≤ 96 ∧ subv en st = en - st ∧ 0 ≤ st ∧ st ≤ en ∧ en ≤ 99999 := by
  simp only [spanB, Bool.and_eq_true, inB_iff, decide_eq_true_eq] at h
  obtain ⟨_, _, m3, m4, _, m6⟩ := h
  have hs := sumA_lo l
  refine ⟨by omega, m6, ?_, by omega, by omega, by omega⟩
  unfold subv
  rw [capv_in (n := en) (by omega) (by omega), capv_in (n := st) (by omega) (by omega), capv_in (by omega) (by omega)]
end Go.Proofs.YtchinpgjaddnkaaDoor
