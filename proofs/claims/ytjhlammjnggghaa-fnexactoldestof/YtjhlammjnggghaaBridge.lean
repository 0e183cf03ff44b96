/-
  Things that lie in memory as the newer texts say lie so as the elder ones say.
-/
import Derived.Test.YtjhlammjnggghaaTSpan
namespace Go.Proofs.Ytjhlammjnggghaa
open Go.ChangeShapes Go.WideShapes Go.ChangeAt Go.RowKit
set_option linter.unusedVariables false
set_option maxRecDepth 100000

theorem getD_of {α : Type} (l : List α) (d : α) (i : Nat) (h : i < l.length) : l.getD i d = l[i] := by simp [List.getD, h]
theorem attrs_old {w : World} {S : Nat → Prop} {v : Value} {l : List AttrD} (h : LAt 4 attrR w S v l) : AttrsAt w v l := by
  obtain ⟨a, cap, rfl, hl, h⟩ := h
  rcases h with rfl | ⟨b, o, h1, h2, h3, h4⟩
  · exact ⟨a, cap, rfl, hl, by simp, .inl rfl⟩
  · refine ⟨a, cap, rfl, hl, fun x hx => ?_, .inr ⟨b, o, h1, h2, fun i hi => ?_⟩⟩
    · obtain ⟨j, hj, rfl⟩ := List.mem_iff_getElem.1 hx
      obtain ⟨cs, ⟨_, q0, q1⟩, _⟩ := h4 j l[j] (List.getElem?_eq_getElem hj)
      exact ⟨q0, q1⟩
    · obtain ⟨cs, ⟨rfl, q0, q1⟩, hin⟩ := h4 i l[i] (List.getElem?_eq_getElem hi)
      rw [getD_of l dA i hi]
      exact ⟨hin 0 _ rfl, hin 1 _ rfl, hin 2 _ rfl, hin 3 _ rfl⟩
theorem spans_old {w : World} {S : Nat → Prop} {v : Value} {l : List SpanD} (h : LAt 6 spanR w S v l) : SpansAt w v l := by
  obtain ⟨a, cap, rfl, hl, h⟩ := h
  rcases h with rfl | ⟨b, o, h1, h2, h3, h4⟩
  · exact ⟨a, cap, rfl, hl, .inl rfl⟩
  · refine ⟨a, cap, rfl, hl, .inr ⟨b, o, h1, h2, fun i hi => ?_⟩⟩
    obtain ⟨cs, ⟨sl, rfl, g⟩, hin⟩ := h4 i l[i] (List.getElem?_eq_getElem hi)
    rw [getD_of l dS i hi]
    exact ⟨sl, hin 0 _ rfl, hin 1 _ rfl, hin 2 _ rfl, hin 3 _ rfl, hin 4 _ rfl, hin 5 _ rfl, attrs_old g⟩
theorem bulk_attrs (l : List AttrD) : bulkL attrBulk l = l.length + bytesA l := rfl
theorem bulk_span (x : SpanD) : spanBulk x = x.2.2.2.2.2.length + bytesA x.2.2.2.2.2 := rfl
theorem bulk_spans (l : List SpanD) : bulkL spanBulk l = l.length + bulkS l := rfl

end Go.Proofs.Ytjhlammjnggghaa
