/-
  Rows whose elements own memory, marked element by element.
-/
import Derived.Test.YtjhlammjnggghaaMark
namespace Go.Proofs.Ytjhlammjnggghaa
open Go.ChangeShapes Go.WideShapes Go.ChangeAt Go.RowKit
set_option linter.unusedVariables false
set_option maxRecDepth 100000

/-- A row of elements each of which owns its own blocks. -/
def OwRow {α : Type} (N : Nat) (C : World → (Nat → Prop) → List Value → α → Prop) (w : World) (b o : Nat) (T : Nat → Nat → Prop) (l : List α) : Prop :=
  WrAt w b o (l.length * N) ∧ ∀ (i : Nat) (x : α), l[i]? = some x → ∃ cs, C w (T i) cs x ∧ InB w b (o + i * N) cs ∧ cs.length = N
theorem OwRow.at {α : Type} {N : Nat} {C : World → (Nat → Prop) → List Value → α → Prop} {w : World} {b o : Nat} {T : Nat → Nat → Prop} {l : List α} (h : OwRow N C w b o T l) (j : Nat) (hj : j < l.length) : ∃ cs, C w (T j) cs l[j] ∧ InB w b (o + j * N) cs ∧ cs.length = N :=
  h.2 j l[j] (List.getElem?_eq_getElem hj)
theorem OwRow.step {α : Type} {N : Nat} {C : World → (Nat → Prop) → List Value → α → Prop} (hC : Keeps C) {w w2 : World} {b o j : Nat} {T : Nat → Nat → Prop} {l : List α} {x' : α} {cs' : List Value} (h : OwRow N C w b o T l) (hT : ∀ i k, T i k → k ≠ b) (hd : ∀ i i' k, T i k → T i' k → i = i')
    (hj : j < l.length) (ht : Turn (fun q => q = b ∨ T j q) w w2) (hw : WrAt w2 b o (l.length * N)) (hr : ∀ c, c < o + j * N ∨ o + j * N + N ≤ c → w2.cell? ⟨b, c, none⟩ = w.cell? ⟨b, c, none⟩)
    (hx : C w2 (T j) cs' x') (hin : InB w2 b (o + j * N) cs') (hn : cs'.length = N) : OwRow N C w2 b o T (l.set j x') := by
  refine ⟨by rw [List.length_set]; exact hw, fun i x hix => ?_⟩
  by_cases e : i = j
  · subst e
    rw [List.getElem?_set_self hj] at hix
    simp only [Option.some.injEq] at hix
    subst hix
    exact ⟨cs', hx, hin, hn⟩
  · rw [List.getElem?_set_ne (fun h => e h.symm)] at hix
    obtain ⟨cs, h1, h2, h3⟩ := h.2 i x hix
    refine ⟨cs, hC w w2 _ _ cs x ht (fun k hk hb => ?_) h1, fun c u hu => ?_, h3⟩
    · rcases hb with hb | hb
      · exact hT i k hk hb
      · exact e (hd i j k hk hb)
    · have hc : c < N := by rw [← h3]; exact (List.getElem?_eq_some_iff.1 hu).1
      rw [hr (o + i * N + c) ?_]
      · exact h2 c u hu
      · rcases Nat.lt_or_ge i j with hlt | hge
        · left
          have : i * N + N ≤ j * N := by rw [← Nat.succ_mul]; exact Nat.mul_le_mul_right N (by omega)
          omega
        · right
          have : j * N + N ≤ i * N := by rw [← Nat.succ_mul]; exact Nat.mul_le_mul_right N (by omega)
          omega
/-- Marks of a list, one element behind the other: each takes as many numbers as it has. -/
def markL {α : Type} (mk : α → Int → α) (cnt : α → Nat) : List α → Int → List α
  | [], _ => []
  | x :: r, k => mk x k :: markL mk cnt r (k + cnt x)
def cntL {α : Type} (cnt : α → Nat) (l : List α) : Nat := (l.map cnt).sum
theorem markL_len {α : Type} (mk : α → Int → α) (cnt : α → Nat) (l : List α) (k : Int) : (markL mk cnt l k).length = l.length := by
  induction l generalizing k with
  | nil => rfl
  | cons x r ih => simp [markL, ih]
theorem markL_snoc {α : Type} (mk : α → Int → α) (cnt : α → Nat) (l : List α) (x : α) (k : Int) : markL mk cnt (l ++ [x]) k = markL mk cnt l k ++ [mk x (k + cntL cnt l)] := by
  induction l generalizing k with
  | nil => simp [markL, cntL]
  | cons y r ih =>
    have e : k + (cnt y : Int) + (cntL cnt r : Int) = k + (cntL cnt (y :: r) : Int) := by
      have : cntL cnt (y :: r) = cnt y + cntL cnt r := by simp [cntL]
      omega
    rw [List.cons_append, markL, ih, e]
    rfl
theorem cntL_snoc {α : Type} (cnt : α → Nat) (l : List α) (k : Nat) (h : k < l.length) : cntL cnt (l.take (k + 1)) = cntL cnt (l.take k) + cnt l[k] := sum_snoc cnt l k h
theorem cntL_le {α : Type} (cnt : α → Nat) (l : List α) (k : Nat) : cntL cnt (l.take k) ≤ cntL cnt l := by
  have : cntL cnt l = cntL cnt (l.take k) + cntL cnt (l.drop k) := by
    unfold cntL
    rw [← List.sum_append, ← List.map_append, List.take_append_drop]
  omega
/-- The list as it is when j of it are marked. -/
def partL {α : Type} (mk : α → Int → α) (cnt : α → Nat) (l : List α) (k : Int) (j : Nat) : List α := markL mk cnt (l.take j) k ++ l.drop j
theorem partL_len {α : Type} (mk : α → Int → α) (cnt : α → Nat) (l : List α) (k : Int) (j : Nat) (hj : j ≤ l.length) : (partL mk cnt l k j).length = l.length := by
  simp [partL, markL_len]; omega
theorem partL_zero {α : Type} (mk : α → Int → α) (cnt : α → Nat) (l : List α) (k : Int) : partL mk cnt l k 0 = l := by simp [partL, markL]
theorem partL_all {α : Type} (mk : α → Int → α) (cnt : α → Nat) (l : List α) (k : Int) : partL mk cnt l k l.length = markL mk cnt l k := by simp [partL]
theorem partL_at {α : Type} (mk : α → Int → α) (cnt : α → Nat) (l : List α) (k : Int) (j : Nat) (hj : j < l.length) : (partL mk cnt l k j)[j]? = some l[j] := by
  unfold partL
  rw [List.getElem?_append_right (by rw [markL_len]; simp; omega), markL_len]
  simp [Nat.min_eq_left (Nat.le_of_lt hj), hj]
theorem partL_step {α : Type} (mk : α → Int → α) (cnt : α → Nat) (l : List α) (k : Int) (j : Nat) (hj : j < l.length) : partL mk cnt l k (j + 1) = (partL mk cnt l k j).set j (mk l[j] (k + cntL cnt (l.take j))) := by
  unfold partL
  rw [List.take_succ_eq_append_getElem hj, markL_snoc, List.set_append_right _ _ (by rw [markL_len]; simp; omega), markL_len]
  simp only [List.length_take, Nat.min_eq_left (Nat.le_of_lt hj), Nat.sub_self, List.append_assoc]
  congr 1
  rw [List.drop_eq_getElem_cons hj]
  rfl
end Go.Proofs.Ytjhlammjnggghaa
