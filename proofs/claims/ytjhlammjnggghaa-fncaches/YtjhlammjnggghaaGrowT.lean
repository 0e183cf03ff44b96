/-
  Lists that are grown while a cursor is drawn from: what they hold stays, for the cursor's block lies ahead of them.
-/
import Derived.Test.YtjhlammjnggghaaDraw
import Derived.Test.YtjhlammjnggghaaGrow2
namespace Go.Proofs.Ytjhlammjnggghaa
open Go.ChangeShapes Go.WideShapes Go.ChangeAt Go.RowKit
set_option linter.unusedVariables false
set_option maxRecDepth 100000

theorem Turns.turn {b : Nat} {w w' : World} (h : Turns b w w') : Turn (fun k => k = b) w w' := ⟨h.os, h.tape, h.output, h.size, fun k hk hb => h.block k hk hb⟩
theorem owns_turn {T : Nat → Prop} {base : Nat} {w w' : World} {e : TypeId} {size : Nat} {v : Value} {n : Nat} {xs : List Value} (h : w.ownsRow base e size v n xs) (ht : Turn T w w') (hT : ∀ k, T k → k < base) : w'.ownsRow base e size v n xs := by
  obtain ⟨h1, h2⟩ := h
  refine ⟨h1, ?_⟩
  rcases h2 with h2 | ⟨g, cap, cur, hv, hg, hh, rest⟩
  · exact .inl h2
  · have hlt : g < w.heap.size := (Array.getElem?_eq_some_iff.1 hh).1
    exact .inr ⟨g, cap, cur, hv, hg, by rw [ht.2.2.2.2 g hlt (fun e => by have := hT g e; omega)]; exact hh, rest⟩
theorem GrowX.keepT {α : Type} {N : Nat} {C : World → (Nat → Prop) → List Value → α → Prop} (hC : Keeps C) {t : TypeId} {base : Nat} {w w' : World} {v : Value} {l : List α} {css : List (List Value)} {T : Nat → Nat → Prop} (h : GrowX N C t base w v l css T) {U : Nat → Prop} (hb : Turn U w w') (hU : ∀ k, U k → k < base) : GrowX N C t base w' v l css T :=
  ⟨owns_turn h.row hb hU, h.len, fun i k hk => ⟨(h.off i k hk).1, Nat.lt_of_lt_of_le (h.off i k hk).2.1 hb.size, (h.off i k hk).2.2⟩, h.one, fun i x hx => by
    obtain ⟨cs, h1, h2, h3⟩ := h.has i x hx
    exact ⟨cs, h1, hC w w' _ _ cs x hb (fun k hk e => by have := (h.off i k hk).1; have := hU k e; omega) h2, h3⟩⟩
theorem GrowL.keepT {α : Type} {N : Nat} {C : World → (Nat → Prop) → List Value → α → Prop} (hC : Keeps C) {t : TypeId} {base : Nat} {w w' : World} {v : Value} {l : List α} (h : GrowL N C t base w v l) {U : Nat → Prop} (hb : Turn U w w') (hU : ∀ k, U k → k < base) : GrowL N C t base w' v l := by
  obtain ⟨css, T, h⟩ := h
  exact ⟨css, T, h.keepT hC hb hU⟩
theorem GrowX.stepT {α : Type} {N : Nat} {C : World → (Nat → Prop) → List Value → α → Prop} (hC : Keeps C) {t : TypeId} {base : Nat} {w w2 w' : World} {v v' : Value} {l : List α} {css : List (List Value)} {T : Nat → Nat → Prop} (h : GrowX N C t base w v l css T) (hbase : base ≤ w.heap.size)
    {U : Nat → Prop} (hb : Turn U w w2) (hU : ∀ k, U k → k < base) {S : Nat → Prop} {cs : List Value} {x : α} (hx : C w2 S cs x) (hS : ∀ k, S k → w.heap.size ≤ k ∧ k < w2.heap.size) (hn : cs.length = N)
    (how : w'.ownsRow base t N v' (l.length + 1) (css.flatten ++ cs)) (hg : w2.grownBy w' v.ownBlock) (hv : v'.ownBlock = v.ownBlock ∨ v'.ownBlock = some w2.heap.size) : GrowL N C t base w' v' (l ++ [x]) := by
  have hob : ∀ k, v.ownBlock = some k → k < w.heap.size := fun k e => (h.row.lt k e).2
  have ht := grown_turn hg
  have hsz := hb.size
  have hsz2 := hg.size
  refine ⟨css ++ [cs], fun i k => if i = l.length then S k else T i k, ⟨?_, by simp [h.len], ?_, ?_, ?_⟩⟩
  · simpa using how
  · intro i k hk
    by_cases hi : i = l.length
    · rw [if_pos hi] at hk
      have := hS k hk
      refine ⟨by omega, by omega, fun e => ?_⟩
      rcases hv with hv | hv
      · rw [hv] at e; have := hob k e; omega
      · rw [hv, Option.some.injEq] at e; omega
    · rw [if_neg hi] at hk
      have := h.off i k hk
      refine ⟨this.1, by omega, fun e => ?_⟩
      rcases hv with hv | hv
      · rw [hv] at e; exact this.2.2 e
      · rw [hv, Option.some.injEq] at e; omega
  · intro i j k hi hj
    by_cases ei : i = l.length <;> by_cases ej : j = l.length
    · rw [ei, ej]
    · rw [if_pos ei] at hi; rw [if_neg ej] at hj; have := hS k hi; have := (h.off j k hj).2.1; omega
    · rw [if_neg ei] at hi; rw [if_pos ej] at hj; have := hS k hj; have := (h.off i k hi).2.1; omega
    · rw [if_neg ei] at hi; rw [if_neg ej] at hj; exact h.one i j k hi hj
  · intro i y hy
    by_cases ei : i = l.length
    · subst ei
      rw [List.getElem?_append_right (Nat.le_refl _), Nat.sub_self] at hy
      simp only [List.getElem?_cons_zero, Option.some.injEq] at hy
      subst hy
      refine ⟨cs, by rw [← h.len, List.getElem?_append_right (Nat.le_refl _), Nat.sub_self]; rfl, ?_, hn⟩
      have e : (fun k => if l.length = l.length then S k else T l.length k) = S := funext fun k => if_pos rfl
      show C _ (fun k => if l.length = l.length then S k else T l.length k) cs _
      rw [e]
      exact hC w2 w' _ _ cs _ ht (fun k hk e => by have := hS k hk; have := hob k e; omega) hx
    · have hlt : i < l.length := by
        have := (List.getElem?_eq_some_iff.1 hy).1
        simp at this
        omega
      rw [List.getElem?_append_left hlt] at hy
      obtain ⟨c, h1, h2, h3⟩ := h.has i y hy
      refine ⟨c, by rw [List.getElem?_append_left (by rw [h.len]; exact hlt)]; exact h1, ?_, h3⟩
      have e : (fun k => if i = l.length then S k else T i k) = T i := funext fun k => if_neg ei
      show C _ (fun k => if i = l.length then S k else T i k) c _
      rw [e]
      exact hC w2 w' _ _ c _ ht (fun k hk e => (h.off i k hk).2.2 e) (hC w w2 _ _ c _ hb (fun k hk e => by have := (h.off i k hk).1; have := hU k e; omega) h2)
end Go.Proofs.Ytjhlammjnggghaa
