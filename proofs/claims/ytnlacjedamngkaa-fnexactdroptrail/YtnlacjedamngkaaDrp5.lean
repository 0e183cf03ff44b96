/-
  One element of an owned list becomes another, in its own blocks and in new ones.
-/
import Derived.Test.YtnlacjedamngkaaMem
namespace Go.Proofs.Ytnlacjedamngkaa
open Go.ChangeShapes Go.WideShapes Go.ChangeAt Go.RowKit
set_option linter.unusedVariables false
set_option maxRecDepth 100000

theorem LOw.swap {α : Type} {n : Nat} {C : World → (Nat → Prop) → List Value → α → Prop} (hC : Keeps C) (hlen : ∀ w S cs x, C w S cs x → cs.length = n) {w : World} {S : Nat → Prop} {v : Value} {l : List α} {i : Nat} (h : LOw n C w S v l) (hS : ∀ k, S k → k < w.heap.size) (hi : i < l.length) :
    ∃ (b o cap : Nat) (T : Nat → Prop) (cs : List Value), v = .slice (some ⟨b, o, none⟩) l.length cap ∧ C w T cs l[i] ∧ InB w b (o + i * n) cs ∧ WrAt w b o (l.length * n) ∧ S b ∧ (∀ k, T k → S k ∧ k ≠ b) ∧
      ∀ (w' : World) (U : Nat → Prop) (cs' : List Value) (x' : α), Turn (fun k => k = b ∨ T k) w w' → (∀ k, U k → T k ∨ (w.heap.size ≤ k ∧ k < w'.heap.size)) → C w' U cs' x' → InB w' b (o + i * n) cs' →
        (∀ j, j < o + i * n ∨ o + i * n + n ≤ j → w'.cell? ⟨b, j, none⟩ = w.cell? ⟨b, j, none⟩) → WrAt w' b o (l.length * n) →
        LOw n C w' (fun k => S k ∨ (w.heap.size ≤ k ∧ k < w'.heap.size)) v (l.set i x') := by
  obtain ⟨a, cap, rfl, hl, h⟩ := h
  rcases h with rfl | ⟨b, o, T, rfl, hb, hw, h1, h2, h3⟩
  · simp at hi
  obtain ⟨cs, hc, hin⟩ := h3 i _ (List.getElem?_eq_getElem hi)
  refine ⟨b, o, cap, T i, cs, rfl, hc, hin, hw, hb, fun k hk => h1 i k hk, ?_⟩
  intro w' U cs' x' ht hU hc' hin' hoff hw'
  have hbs := hS b hb
  refine ⟨_, cap, by rw [List.length_set], by rw [List.length_set]; exact hl, .inr ⟨b, o, fun j => if j = i then U else T j, rfl, .inl hb, by rw [List.length_set]; exact hw', ?_, ?_, ?_⟩⟩
  · intro j k hk
    replace hk : (if j = i then U else T j) k := hk
    by_cases e : j = i
    · rw [if_pos e] at hk
      rcases hU k hk with h | h
      · exact ⟨.inl (h1 i k h).1, (h1 i k h).2⟩
      · exact ⟨.inr h, by omega⟩
    · rw [if_neg e] at hk
      exact ⟨.inl (h1 j k hk).1, (h1 j k hk).2⟩
  · intro j1 j2 k hk1 hk2
    replace hk1 : (if j1 = i then U else T j1) k := hk1
    replace hk2 : (if j2 = i then U else T j2) k := hk2
    by_cases e1 : j1 = i <;> by_cases e2 : j2 = i
    · rw [e1, e2]
    · rw [if_pos e1] at hk1
      rw [if_neg e2] at hk2
      rcases hU k hk1 with h | h
      · rw [e1]; exact h2 i j2 k h hk2
      · have := hS k (h1 j2 k hk2).1; omega
    · rw [if_neg e1] at hk1
      rw [if_pos e2] at hk2
      rcases hU k hk2 with h | h
      · rw [e2]; exact h2 j1 i k hk1 h
      · have := hS k (h1 j1 k hk1).1; omega
    · rw [if_neg e1] at hk1
      rw [if_neg e2] at hk2
      exact h2 j1 j2 k hk1 hk2
  · intro j x hx
    rw [List.getElem?_set] at hx
    by_cases e : i = j
    · subst e
      rw [if_pos rfl, if_pos hi] at hx
      injection hx with hx
      subst hx
      exact ⟨cs', by show C w' (if i = i then U else T i) cs' x'; rw [if_pos rfl]; exact hc', hin'⟩
    · rw [if_neg e] at hx
      obtain ⟨cj, hcj, hinj⟩ := h3 j x hx
      refine ⟨cj, ?_, ?_⟩
      · show C w' (if j = i then U else T j) cj x
        rw [if_neg (fun h : j = i => e h.symm)]
        exact hC _ _ _ _ _ _ ht (fun k hk hn => by
          rcases hn with hn | hn
          · exact (h1 j k hk).2 hn
          · exact e (h2 i j k hn hk)) hcj
      · intro q u hu
        have hq : q < n := by rw [← hlen _ _ _ _ hcj]; exact (List.getElem?_eq_some_iff.1 hu).1
        rw [hoff (o + j * n + q) (by
          rcases Nat.lt_or_ge j i with h | h
          · left
            have : (j + 1) * n ≤ i * n := Nat.mul_le_mul_right n h
            rw [Nat.succ_mul] at this
            omega
          · right
            have : (i + 1) * n ≤ j * n := Nat.mul_le_mul_right n (by omega)
            rw [Nat.succ_mul] at this
            omega)]
        exact hinj q u hu
end Go.Proofs.Ytnlacjedamngkaa
