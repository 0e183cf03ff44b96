/-
  Rows that a list was grown in: kept where other blocks turn, read, with one element left out.
-/
import Derived.Test.YtjhlammjnggghaaGrow2
namespace Go.Proofs.Ytjhlammjnggghaa
open Go.ChangeShapes Go.WideShapes Go.ChangeAt Go.RowKit
set_option linter.unusedVariables false
set_option maxRecDepth 100000

variable {α : Type} {N : Nat} {C : World → (Nat → Prop) → List Value → α → Prop} {t : TypeId} {base : Nat}
theorem GrowX.base0 {w : World} {v : Value} {l : List α} {css : List (List Value)} {T : Nat → Nat → Prop} (h : GrowX N C t base w v l css T) : GrowX N C t 0 w v l css T :=
  ⟨⟨h.row.1, h.row.2.imp id (fun ⟨g, cap, cur, hv, hg, rest⟩ => ⟨g, cap, cur, hv, Nat.zero_le _, rest⟩)⟩, h.len, fun i k hk => ⟨Nat.zero_le _, (h.off i k hk).2⟩, h.one, h.has⟩
theorem GrowX.keepU (hC : Keeps C) {w w' : World} {v : Value} {l : List α} {css : List (List Value)} {T : Nat → Nat → Prop} (h : GrowX N C t base w v l css T) {U : Nat → Prop} (hb : Turn U w w') (h1 : ∀ i k, T i k → ¬ U k) (h2 : ∀ k, v.ownBlock = some k → ¬ U k) : GrowX N C t base w' v l css T := by
  refine ⟨⟨h.row.1, ?_⟩, h.len, fun i k hk => ⟨(h.off i k hk).1, Nat.lt_of_lt_of_le (h.off i k hk).2.1 hb.size, (h.off i k hk).2.2⟩, h.one, fun i x hx => ?_⟩
  · rcases h.row.2 with h0 | ⟨g, cap, cur, hv, hg, hh, rest⟩
    · exact .inl h0
    · have hlt : g < w.heap.size := (Array.getElem?_eq_some_iff.1 hh).1
      exact .inr ⟨g, cap, cur, hv, hg, by rw [hb.2.2.2.2 g hlt (h2 g (by rw [hv]; rfl))]; exact hh, rest⟩
  · obtain ⟨cs, g1, g2, g3⟩ := h.has i x hx
    exact ⟨cs, g1, hC w w' _ _ cs x hb (fun k hk => h1 i k hk) g2, g3⟩
theorem GrowX.len63 {w : World} {v : Value} {l : List α} {css : List (List Value)} {T : Nat → Nat → Prop} (h : GrowX N C t base w v l css T) : l.length ≤ 9223372036854775807 := by
  rcases h.row.2 with ⟨_, h0⟩ | ⟨g, cap, cur, hv, hg, hh, hc, hm, _⟩
  · omega
  · unfold maxLen at hm; omega
theorem GrowX.doneS {w : World} {v : Value} {l : List α} {css : List (List Value)} {T : Nat → Nat → Prop} (h : GrowX N C t base w v l css T) {S : Nat → Prop} (hS1 : ∀ i k, T i k → S k) (hS2 : ∀ k, v.ownBlock = some k → S k) : LOw N C w S v l := by
  have hl := h.len63
  have hall := h.all
  obtain ⟨h1, h2⟩ := h.row
  rcases h2 with ⟨rfl, h0⟩ | ⟨g, cap, cur, rfl, hg, hh, hc, hm, hs, ht⟩
  · obtain rfl := List.length_eq_zero_iff.1 h0
    exact LOw.nil _ _ _ _ _ _
  · have hlt : g < w.heap.size := (Array.getElem?_eq_some_iff.1 hh).1
    have how : w.ownsRow base t N (.slice (some ⟨g, 0, none⟩) l.length cap) l.length css.flatten := ⟨h1, .inr ⟨g, cap, cur, rfl, hg, hh, hc, hm, hs, ht⟩⟩
    have hcell : ∀ j, j < l.length * N → w.cell? ⟨g, j, none⟩ = css.flatten[j]? := fun j hj => how.cellAt j hj
    refine ⟨_, cap, rfl, hl, .inr ⟨g, 0, T, rfl, hS2 g rfl, ⟨hlt, fun j hj => ⟨?_, ?_⟩⟩, fun i k hk => ⟨hS1 i k hk, fun e => (h.off i k hk).2.2 (by rw [e]; rfl)⟩, h.one, fun i x hx => ?_⟩⟩
    · rw [Nat.zero_add, hcell j hj, List.getElem?_eq_getElem (by rw [h1]; exact hj)]; rfl
    · rw [Nat.zero_add]; exact how.frozenAt j
    · obtain ⟨cs, g1, g2, g3⟩ := h.has i x hx
      refine ⟨cs, g2, fun j u hu => ?_⟩
      have hj : j < N := by rw [← g3]; exact (List.getElem?_eq_some_iff.1 hu).1
      have hi : i < l.length := (List.getElem?_eq_some_iff.1 hx).1
      have hlt2 : i * N + j < l.length * N := by
        have : (i + 1) * N ≤ l.length * N := Nat.mul_le_mul_right N (by omega)
        rw [Nat.succ_mul] at this
        omega
      rw [Nat.zero_add, hcell _ hlt2, flat_at css i j hall hj, g1]
      exact hu
theorem flat_take {css : List (List Value)} (h : ∀ cs ∈ css, cs.length = N) (k : Nat) : css.flatten.take (k * N) = (css.take k).flatten := by
  induction k generalizing css with
  | zero => simp
  | succ k ih =>
    cases css with
    | nil => simp
    | cons c r =>
      have hc := h c (List.mem_cons_self ..)
      have hr := ih (css := r) (fun cs hcs => h cs (List.mem_cons_of_mem _ hcs))
      rw [List.flatten_cons, List.take_succ_cons, List.flatten_cons, Nat.succ_mul, List.take_append, hc, List.take_of_length_le (by omega), show k * N + N - N = k * N by omega, hr]
theorem flat_drop {css : List (List Value)} (h : ∀ cs ∈ css, cs.length = N) (k : Nat) : css.flatten.drop (k * N) = (css.drop k).flatten := by
  induction k generalizing css with
  | zero => simp
  | succ k ih =>
    cases css with
    | nil => simp
    | cons c r =>
      have hc := h c (List.mem_cons_self ..)
      have hr := ih (css := r) (fun cs hcs => h cs (List.mem_cons_of_mem _ hcs))
      rw [List.flatten_cons, List.drop_succ_cons, Nat.succ_mul, List.drop_append, hc, List.drop_of_length_le (by omega), show k * N + N - N = k * N by omega, hr, List.nil_append]
/-- The front of a row that a list was grown in. -/
theorem owns_front {w : World} {e : TypeId} {n cap k : Nat} {a : Option Addr} {xs : List Value} (h : w.ownsRow base e N (.slice a n cap) n xs) (hk : k ≤ n) (ha : a ≠ none) : w.ownsRow base e N (.slice a k cap) k (xs.take (k * N)) := by
  obtain ⟨h1, h2⟩ := h
  have hle : k * N ≤ n * N := Nat.mul_le_mul_right N hk
  refine ⟨by rw [List.length_take]; omega, ?_⟩
  rcases h2 with ⟨h0, _⟩ | ⟨g, cap2, cur, hv, hg, hh, hc, hm, hs, ht⟩
  · injection h0 with h0; exact absurd h0 ha
  · injection hv with e1 e2 e3
    subst e1
    subst e3
    exact .inr ⟨g, cap, cur, rfl, hg, hh, by omega, hm, hs, by rw [← ht, List.take_take, Nat.min_eq_left hle]⟩
theorem GrowX.erase (hC : Keeps C) {w w' : World} {v v' : Value} {l : List α} {css : List (List Value)} {T : Nat → Nat → Prop} (h : GrowX N C t base w v l css T) {k : Nat} (hk : k < l.length)
    (how : w'.ownsRow base t N v' (l.length - 1) ((css.eraseIdx k).flatten)) (hg : w.grownBy w' v.ownBlock) (hv : v'.ownBlock = v.ownBlock ∨ v'.ownBlock = some w.heap.size) : GrowX N C t base w' v' (l.eraseIdx k) (css.eraseIdx k) (fun i => T (if i < k then i else i + 1)) := by
  have hl := List.length_eraseIdx_of_lt hk
  have hcl := List.length_eraseIdx_of_lt (i := k) (l := css) (by rw [h.len]; exact hk)
  have ht := grown_turn hg
  refine ⟨by rw [hl]; exact how, by rw [hcl, hl, h.len], fun i j hj => ?_, fun i1 i2 j h1 h2 => ?_, fun i x hx => ?_⟩
  · obtain ⟨h1, h2, h3⟩ := h.off _ j hj
    refine ⟨h1, Nat.lt_of_lt_of_le h2 ht.size, fun e => ?_⟩
    rcases hv with hv | hv
    · rw [hv] at e; exact h3 e
    · rw [hv, Option.some.injEq] at e; omega
  · have := h.one _ _ j h1 h2
    split at this <;> split at this <;> omega
  · rw [List.getElem?_eraseIdx] at hx
    have hx2 : l[if i < k then i else i + 1]? = some x := by split at hx <;> split <;> first | assumption | contradiction
    obtain ⟨cs, g1, g2, g3⟩ := h.has _ x hx2
    refine ⟨cs, ?_, ?_, g3⟩
    · rw [List.getElem?_eraseIdx]
      split at g1 <;> split <;> first | assumption | contradiction
    · exact hC _ _ _ _ _ _ ht (fun j hj e => (h.off _ j hj).2.2 e) g2
end Go.Proofs.Ytjhlammjnggghaa
