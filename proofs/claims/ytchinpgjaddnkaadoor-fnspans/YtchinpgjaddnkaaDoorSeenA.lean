/-
  What failed, and how long it took, of the two parts of a list; parts of a list that lie in memory.
-/
import Derived.Test.YtchinpgjaddnkaaDoorTotals
namespace Go.Proofs.YtchinpgjaddnkaaDoor
open Go.ChangeShapes Go.WideShapes Go.ChangeAt Go.RowKit
set_option linter.unusedVariables false
set_option maxRecDepth 100000

theorem errS_parts (l : List SpanD) (k : Nat) : errS (l.take k) + errS (l.drop k) = errS l := by
  conv => rhs; rw [← List.take_append_drop k l]
  unfold errS
  rw [List.map_append, List.sum_append]
theorem long_fold (l : List SpanD) : ∀ n : Int, 0 ≤ n → l.foldl (fun n x => if n < subv x.2.2.2.1 x.2.2.1 then subv x.2.2.2.1 x.2.2.1 else n) n = max n (longS l) := by
  unfold longS
  induction l with
  | nil => intro n hn; simp only [List.foldl_nil]; omega
  | cons x r ih =>
    intro n hn
    simp only [List.foldl_cons]
    have hx : 0 ≤ subv x.2.2.2.1 x.2.2.1 := capv_lo _
    generalize subv x.2.2.2.1 x.2.2.1 = s at *
    rw [ih (if n < s then s else n) (by split <;> omega), ih (if (0 : Int) < s then s else 0) (by split <;> omega)]
    split <;> split <;> omega
theorem longS_lo (l : List SpanD) : 0 ≤ longS l := by
  have h := long_fold l 0 (by omega)
  unfold longS at *
  omega
theorem longS_parts (l : List SpanD) (k : Nat) : longS l = max (longS (l.take k)) (longS (l.drop k)) := by
  have h := long_fold (l.drop k) (longS (l.take k)) (longS_lo _)
  rw [← h]
  conv => lhs; rw [← List.take_append_drop k l]
  unfold longS
  rw [List.foldl_append]
theorem spans_take {w : World} {a : Option Addr} {cap : Nat} {l : List SpanD} (h : SpansAt w (.slice a l.length cap) l) (k : Nat) (hk : k ≤ l.length) (c : Nat) : SpansAt w (.slice a k c) (l.take k) := by
  obtain ⟨a', cap', e, hl, hh⟩ := h
  injection e with e1 e2 e3
  subst e1
  have hlen : (l.take k).length = k := by rw [List.length_take]; omega
  refine ⟨a, c, by rw [hlen], by omega, ?_⟩
  rcases hh with rfl | ⟨b, o, h1, h2, h3⟩
  · exact .inl (by simp)
  · refine .inr ⟨b, o, h1, h2, fun i hi => ?_⟩
    have hi2 : i < k := by omega
    have e : (l.take k).getD i dS = l.getD i dS := by rw [List.getD_eq_getElem?_getD, List.getD_eq_getElem?_getD, List.getElem?_take, if_pos hi2]
    rw [e]
    exact h3 i (by omega)
theorem spans_drop {w : World} {a : Option Addr} {cap : Nat} {l : List SpanD} (h : SpansAt w (.slice a l.length cap) l) (k : Nat) (hk : k ≤ l.length) (c : Nat) : (∀ a2 c2, k = l.length → SpansAt w (.slice a2 (l.length - k) c2) (l.drop k)) ∧ (k < l.length → ∃ b o, a = some ⟨b, o, none⟩ ∧ ∀ c2, SpansAt w (.slice (some ⟨b, o + k * 6, none⟩) (l.length - k) c2) (l.drop k)) := by
  obtain ⟨a', cap', e, hl, hh⟩ := h
  injection e with e1 e2 e3
  subst e1
  have hlen : (l.drop k).length = l.length - k := List.length_drop
  refine ⟨fun a2 c2 hk2 => ⟨a2, c2, by rw [hlen], by omega, .inl (by rw [hk2]; simp)⟩, fun hlt => ?_⟩
  rcases hh with rfl | ⟨b, o, h1, h2, h3⟩
  · simp at hlt
  · refine ⟨b, o, h1, fun c2 => ⟨_, c2, by rw [hlen], by omega, .inr ⟨b, o + k * 6, rfl, h2, fun i hi => ?_⟩⟩⟩
    have hi2 : k + i < l.length := by omega
    have e : (l.drop k).getD i dS = l.getD (k + i) dS := by rw [List.getD_eq_getElem?_getD, List.getD_eq_getElem?_getD, List.getElem?_drop]
    rw [e, show o + k * 6 + i * 6 = o + (k + i) * 6 by omega]
    exact h3 (k + i) hi2
end Go.Proofs.YtchinpgjaddnkaaDoor
