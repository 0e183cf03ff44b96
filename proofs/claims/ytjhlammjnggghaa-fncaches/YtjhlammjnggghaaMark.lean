/-
  Rows of memory that are marked, element by element.
-/
import Derived.Test.YtjhlammjnggghaaAbs
namespace Go.Proofs.Ytjhlammjnggghaa
open Go.ChangeShapes Go.WideShapes Go.ChangeAt Go.RowKit
set_option linter.unusedVariables false
set_option maxRecDepth 100000

/-- The first j elements (N cells each) of a row hold what f says; only that row's block has turned. -/
def MarkedTo (N : Nat) (f : Nat → List Value) (w wk : World) (b o n j : Nat) : Prop :=
  Turn (fun q => q = b) w wk ∧ WrAt wk b o (n * N) ∧ ∀ i, i < j → InB wk b (o + i * N) (f i)
theorem MarkedTo.start {N : Nat} {f : Nat → List Value} {w : World} {b o n : Nat} (h : WrAt w b o (n * N)) : MarkedTo N f w w b o n 0 :=
  ⟨Turn.refl _ _, h, fun i hi => absurd hi (Nat.not_lt_zero _)⟩
theorem MarkedTo.step {N : Nat} {f : Nat → List Value} {w wk : World} {b o n j : Nat} (h : MarkedTo N f w wk b o n j) (hj : j < n) (hf : ∀ i, (f i).length = N) : MarkedTo N f w (putL b (o + j * N) (f j) 0 wk) b o n (j + 1) := by
  have hin : j * N + N ≤ n * N := by rw [← Nat.succ_mul]; exact Nat.mul_le_mul_right N hj
  refine ⟨h.1.trans (putL_turn _ _ _ _ _), putL_wr _ _ h.2.1, fun i hi => ?_⟩
  by_cases e : i = j
  · subst e
    exact putL_at (f i) 0 h.2.1 (by omega) (by rw [hf]; omega)
  · have hlt : i * N + N ≤ j * N := by rw [← Nat.succ_mul]; exact Nat.mul_le_mul_right N (by omega)
    exact putL_in _ _ (h.2.2 i (by omega)) (.inl (by rw [hf]; omega))
theorem Turn.after {S : Nat → Prop} {a b c : World} (h : Turn S a b) (k : Below b.heap.size b c) : Turn S a c :=
  h.trans ((Below.turn k).mono (fun _ e => e.elim))
theorem MarkedTo.keep {N : Nat} {f : Nat → List Value} {w wk w2 : World} {b o n j : Nat} (h : MarkedTo N f w wk b o n j) (hb : Below wk.heap.size wk w2) : MarkedTo N f w w2 b o n j :=
  ⟨h.1.after hb, h.2.1.keep hb, fun i hi => (h.2.2 i hi).turn h.2.1.1 (Below.turn hb) (fun e => e)⟩
theorem MarkedTo.put {N : Nat} {f : Nat → List Value} {w wk : World} {b o n j : Nat} (h : MarkedTo N f w wk b o n j) (hf : ∀ i, (f i).length = N) (q : Nat) (v : Value) : MarkedTo N f w (wk.setCell ⟨b, o + j * N + q, none⟩ v) b o n j := by
  refine ⟨h.1.setIn rfl v, h.2.1.set _ _, fun i hi => ?_⟩
  have hlt : i * N + N ≤ j * N := by rw [← Nat.succ_mul]; exact Nat.mul_le_mul_right N (by omega)
  intro c u hu
  have hc : c < N := by
    have := (List.getElem?_eq_some_iff.1 hu).1
    rwa [hf] at this
  rw [World.cell?_setCell_other _ _ _ _ (fun e => by injection e with e1 e2; omega)]
  exact h.2.2 i hi c u hu
theorem MarkedTo.next {N : Nat} {f : Nat → List Value} {w wk : World} {b o n j : Nat} (h : MarkedTo N f w wk b o n j) (hin : InB wk b (o + j * N) (f j)) : MarkedTo N f w wk b o n (j + 1) :=
  ⟨h.1, h.2.1, fun i hi => by
    by_cases e : i = j
    · subst e; exact hin
    · exact h.2.2 i (by omega)⟩
theorem InB.snoc {w : World} {b p : Nat} {cs : List Value} (h : InB w b p cs) (v : Value) (hs : (w.cell? ⟨b, p + cs.length, none⟩).isSome = true) : InB (w.setCell ⟨b, p + cs.length, none⟩ v) b p (cs ++ [v]) := by
  intro i u hu
  by_cases hi : i < cs.length
  · rw [List.getElem?_append_left hi] at hu
    rw [World.cell?_setCell_other _ _ _ _ (fun e => by injection e with e1 e2; omega)]
    exact h i u hu
  · have hi2 : i = cs.length := by
      have := (List.getElem?_eq_some_iff.1 hu).1
      rw [List.length_append] at this
      simp at this
      omega
    subst hi2
    rw [List.getElem?_append_right (Nat.le_refl _), Nat.sub_self] at hu
    rw [World.cell?_setCell_same' _ _ _ hs]
    simpa using hu
/-- A list by its places. -/
def byPlace {α : Type} (f : Nat → α) (n : Nat) : List α := (List.range n).map f
theorem byPlace_len {α : Type} (f : Nat → α) (n : Nat) : (byPlace f n).length = n := by simp [byPlace]
theorem byPlace_at {α : Type} {f : Nat → α} {n i : Nat} {x : α} (h : (byPlace f n)[i]? = some x) : i < n ∧ x = f i := by
  have hi : i < n := by
    have := (List.getElem?_eq_some_iff.1 h).1
    rwa [byPlace_len] at this
  refine ⟨hi, ?_⟩
  rw [byPlace, List.getElem?_map, List.getElem?_range hi] at h
  simpa using h.symm
/-- A row of plain elements that has been marked whole is owned as it was. -/
theorem MarkedTo.done {α : Type} {N : Nat} {C : World → (Nat → Prop) → List Value → α → Prop} {f : Nat → List Value} {g : Nat → α} {w wk : World} {S : Nat → Prop} {b o n cap : Nat} (h : MarkedTo N f w wk b o n n) (hS : S b) (hn : n ≤ 9223372036854775807) (hC : ∀ i, C wk (fun _ => False) (f i) (g i)) :
    LOw N C wk S (.slice (some ⟨b, o, none⟩) n cap) (byPlace g n) := by
  refine ⟨some ⟨b, o, none⟩, cap, by rw [byPlace_len], by rw [byPlace_len]; exact hn, ?_⟩
  refine .inr ⟨b, o, fun _ _ => False, rfl, hS, by rw [byPlace_len]; exact h.2.1, fun _ _ e => e.elim, fun _ _ _ e => e.elim, fun i x hx => ?_⟩
  obtain ⟨hi, rfl⟩ := byPlace_at hx
  exact ⟨f i, hC i, h.2.2 i hi⟩
end Go.Proofs.Ytjhlammjnggghaa
