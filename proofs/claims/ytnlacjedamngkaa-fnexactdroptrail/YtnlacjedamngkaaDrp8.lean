/-
  The cells of an owned list, one piece for each element; an owned list with one element left out, laid in a new row.
-/
import Derived.Test.YtnlacjedamngkaaArgs
import Derived.Test.YtnlacjedamngkaaGrow2
namespace Go.Proofs.Ytnlacjedamngkaa
open Go.ChangeShapes Go.WideShapes Go.ChangeAt Go.RowKit
set_option linter.unusedVariables false
set_option maxRecDepth 100000

theorem LOw.row {α : Type} {n : Nat} {C : World → (Nat → Prop) → List Value → α → Prop} (hlen : ∀ w S cs x, C w S cs x → cs.length = n) (hn : 0 < n) {w : World} {S : Nat → Prop} {g cap : Nat} {l : List α} (h : LOw n C w S (.slice (some ⟨g, 0, none⟩) l.length cap) l) (hl : l ≠ []) :
    ∃ (css : List {c : List Value // c.length = n}) (T : Nat → Nat → Prop), css.length = l.length ∧ InB w g 0 (css.flatMap Subtype.val) ∧ S g ∧ g < w.heap.size ∧ (∀ i k, T i k → S k ∧ k ≠ g) ∧ (∀ i j k, T i k → T j k → i = j) ∧
      ∀ (i : Nat) (c : {c : List Value // c.length = n}) (x : α), css[i]? = some c → l[i]? = some x → C w (T i) c.1 x := by
  obtain ⟨a, cap', e, hlm, h⟩ := h
  injection e with e1 e2 e3
  rcases h with h | ⟨b, o, T, h0, hb, hw, h1, h2, h3⟩
  · exact absurd h hl
  rw [h0] at e1
  injection e1 with e1
  injection e1 with e4 e5
  subst e4
  subst e5
  obtain ⟨css, hl2, hp⟩ := list_of1 l.length (fun i (c : {c : List Value // c.length = n}) => ∀ x, l[i]? = some x → C w (T i) c.1 x ∧ InB w g (0 + i * n) c.1) (fun i hi => by
    obtain ⟨cs, hc, hin⟩ := h3 i _ (List.getElem?_eq_getElem hi)
    exact ⟨⟨cs, hlen _ _ _ _ hc⟩, fun x hx => by
      rw [List.getElem?_eq_getElem hi] at hx
      injection hx with hx
      subst hx
      exact ⟨hc, hin⟩⟩)
  refine ⟨css, T, hl2, ?_, hb, hw.1, h1, h2, fun i c x hc hx => (hp i c hc x hx).1⟩
  intro j u hu
  have := flat_src (w := w) (b := g) (o := 0) (f := fun c : {c : List Value // c.length = n} => c.1) (fun c => c.2) hn (fun i c hc => by
    have hi : i < l.length := by rw [← hl2]; exact (List.getElem?_eq_some_iff.1 hc).1
    exact (hp i c hc _ (List.getElem?_eq_getElem hi)).2) j u hu
  have e : (⟨g, 0, none⟩ : Addr).add j = ⟨g, 0 + j, none⟩ := by unfold Addr.add; split <;> simp_all
  rw [e] at this
  exact this
/-- The pieces that stay, laid in a new row. -/
theorem LOw.left {α : Type} {n : Nat} {C : World → (Nat → Prop) → List Value → α → Prop} (hC : Keeps C) (hn : 0 < n) {w w' : World} {S : Nat → Prop} {l : List α} {css : List {c : List Value // c.length = n}} {T : Nat → Nat → Prop} {nb j : Nat} (hcl : css.length = l.length) (hj : j < l.length) (hll : l.length ≤ 9223372036854775807)
    (hS : ∀ i k, T i k → S k) (hSw : ∀ k, S k → k < w.heap.size) (h2 : ∀ i j k, T i k → T j k → i = j) (h3 : ∀ (i : Nat) (c : {c : List Value // c.length = n}) (x : α), css[i]? = some c → l[i]? = some x → C w (T i) c.1 x)
    (hb : Below w.heap.size w w') (hnb : w.heap.size ≤ nb) (hw : WrAt w' nb 0 ((l.eraseIdx j).length * n)) (hin : InB w' nb 0 ((css.eraseIdx j).flatMap Subtype.val)) (cap : Nat) :
    LOw n C w' (fun k => S k ∨ Within w.heap.size w'.heap.size k) (.slice (some ⟨nb, 0, none⟩) (l.eraseIdx j).length cap) (l.eraseIdx j) := by
  refine ⟨_, cap, rfl, ?_, .inr ⟨nb, 0, fun i => T (if i < j then i else i + 1), rfl, .inr ⟨hnb, hw.1⟩, hw, ?_, ?_, ?_⟩⟩
  · have := List.length_eraseIdx_le l j
    omega
  · intro i k hk
    have hk2 := hS _ k hk
    exact ⟨.inl hk2, by have := hSw k hk2; omega⟩
  · intro i1 i2 k hk1 hk2
    have := h2 _ _ k hk1 hk2
    split at this <;> split at this <;> omega
  · intro i x hx
    rw [List.getElem?_eraseIdx] at hx
    have hx2 : l[if i < j then i else i + 1]? = some x := by split at hx <;> split <;> first | assumption | contradiction
    have hlt : (if i < j then i else i + 1) < css.length := by rw [hcl]; exact (List.getElem?_eq_some_iff.1 hx2).1
    have hc2 : css[if i < j then i else i + 1]? = some css[if i < j then i else i + 1] := List.getElem?_eq_getElem hlt
    have hc3 : (css.eraseIdx j)[i]? = some css[if i < j then i else i + 1] := by
      rw [List.getElem?_eraseIdx]
      split
      · simp
      · simp
    refine ⟨css[if i < j then i else i + 1].1, ?_, ?_⟩
    · exact hC _ _ _ _ _ _ (Below.turn hb) (fun k hk e => by have := hSw k (hS _ k hk); exact absurd e (by simp [None1])) (h3 _ _ x hc2 hx2)
    · intro q u hu
      have hq : q < n := by rw [← css[if i < j then i else i + 1].2]; exact (List.getElem?_eq_some_iff.1 hu).1
      have := hin (i * n + q) u (by
        rw [List.flatMap_def, flat_at (N := n) _ i q (fun cs hcs => by obtain ⟨y, _, rfl⟩ := List.mem_map.1 hcs; exact y.2) hq, List.getElem?_map, hc3]
        exact hu)
      rw [show 0 + i * n + q = 0 + (i * n + q) by omega]
      exact this
end Go.Proofs.Ytnlacjedamngkaa
