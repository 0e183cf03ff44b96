/-
  The oldest of trails: what a heap of which only the root is known keeps, and the cells of a row of trails whose members change places. No program in it.
-/
import Derived.Test.YtjhlammjnggghaaPlain
import Derived.Test.YtjhlammjnggghaaGrowK
import Derived.Test.YtjhlammjnggghaaATrail
namespace Go.Proofs.Ytjhlammjnggghaa
open Go.ChangeShapes Go.WideShapes Go.ChangeAt Go.RowKit
set_option linter.unusedVariables false
set_option maxRecDepth 100000

def bstep (b : Option TrailD) (t : TrailD) : Option TrailD :=
  match b with
  | none => some t
  | some x => if olderB t x then some t else some x
def bestL (ts : List TrailD) : Option TrailD := ts.foldl bstep none
theorem bestL_snoc (ts : List TrailD) (t : TrailD) : bestL (ts ++ [t]) = bstep (bestL ts) t := by simp [bestL]
theorem older_irr (x : TrailD) : olderB x x = false := by simp [olderB]
theorem older_no (x y : TrailD) : olderB x y = false ↔ (¬ x.first < y.first ∧ (x.first = y.first → ¬ x.stamp < y.stamp)) := by
  unfold olderB
  by_cases h1 : x.first < y.first <;> by_cases h2 : x.first = y.first <;> by_cases h3 : x.stamp < y.stamp <;> simp [h1, h2, h3]
theorem older_is (x y : TrailD) : olderB x y = true ↔ (x.first < y.first ∨ (x.first = y.first ∧ x.stamp < y.stamp)) := by
  unfold olderB
  by_cases h1 : x.first < y.first <;> by_cases h2 : x.first = y.first <;> by_cases h3 : x.stamp < y.stamp <;> simp [h1, h2, h3]
theorem older_tr {x y z : TrailD} (h1 : olderB x y = false) (h2 : olderB y z = false) : olderB x z = false := by
  rw [older_no] at *
  omega
theorem older_up {x y z : TrailD} (h1 : olderB x y = false) (h2 : olderB z y = true) : olderB x z = false := by
  rw [older_no] at *
  rw [older_is] at h2
  omega

section
variable {α : Type} (f : α → TrailD)
def Rooted (ps : List α) (b : Option TrailD) : Prop := (ps = [] ∧ b = none) ∨ ∃ r, ps[0]? = some r ∧ b = some (f r) ∧ ∀ (k : Nat) q, ps[k]? = some q → olderB (f q) (f r) = false
def Going (ps : List α) (t : α) (qs : List α) (i : Nat) : Prop :=
  qs.length = ps.length + 1 ∧ i ≤ ps.length ∧ qs[i]? = some t ∧
    ∀ r, ps[0]? = some r → (∀ (k : Nat) q, k ≠ i → qs[k]? = some q → olderB (f q) (f r) = false) ∧ (0 < i → qs[0]? = some r) ∧ (i = 0 → olderB (f t) (f r) = true)
variable {f}
theorem Going.start {ps : List α} {b : Option TrailD} (t : α) (h : Rooted f ps b) : Going f ps t (ps ++ [t]) ps.length := by
  refine ⟨by simp, Nat.le_refl _, by simp, fun r hr => ?_⟩
  have hlen : 0 < ps.length := by
    rcases Nat.eq_zero_or_pos ps.length with e | e
    · rw [List.getElem?_eq_none (by omega)] at hr; cases hr
    · exact e
  refine ⟨fun k q hk hq => ?_, fun _ => ?_, fun e => by omega⟩
  · have hkl : k < ps.length := by
      rcases Nat.lt_or_ge k ps.length with e | e
      · exact e
      · rw [List.getElem?_eq_none (by simp; omega)] at hq; cases hq
    rw [List.getElem?_append_left hkl] at hq
    rcases h with ⟨rfl, _⟩ | ⟨r2, h1, _, h3⟩
    · simp at hkl
    · rw [h1] at hr
      injection hr with hr
      subst hr
      exact h3 k q hq
  · rw [List.getElem?_append_left hlen]; exact hr
theorem Going.step {ps qs : List α} {t qa : α} {i a : Nat} (h : Going f ps t qs i) (hi : 0 < i) (ha : a < i) (hq : qs[a]? = some qa) (ho : olderB (f t) (f qa) = true) : Going f ps t ((qs.set i qa).set a t) a := by
  obtain ⟨hl, hil, ht, hr⟩ := h
  refine ⟨by simp [hl], by omega, by rw [List.getElem?_set_self (by simp; omega)], fun r hr0 => ?_⟩
  obtain ⟨g1, g2, g3⟩ := hr r hr0
  refine ⟨fun k q hk hqk => ?_, fun ha0 => ?_, fun ha0 => ?_⟩
  · rw [List.getElem?_set_ne (fun e => hk e.symm)] at hqk
    by_cases e : i = k
    · subst e
      rw [List.getElem?_set_self (by omega)] at hqk
      injection hqk with hqk
      subst hqk
      exact g1 a qa (by omega) hq
    · rw [List.getElem?_set_ne e] at hqk
      exact g1 k q (fun e2 => e e2.symm) hqk
  · rw [List.getElem?_set_ne (by omega), List.getElem?_set_ne (by omega)]
    exact g2 hi
  · subst ha0
    rw [g2 hi] at hq
    injection hq with hq
    subst hq
    exact ho
theorem Going.stop {ps qs : List α} {t : α} {i : Nat} {b : Option TrailD} (h : Going f ps t qs i) (hb : Rooted f ps b) (hs : i = 0 ∨ ∃ (a : Nat) (qa : α), a < i ∧ qs[a]? = some qa ∧ olderB (f t) (f qa) = false) : Rooted f qs (bstep b (f t)) := by
  obtain ⟨hl, hil, ht, hr⟩ := h
  rcases hb with ⟨rfl, rfl⟩ | ⟨r, h1, rfl, h3⟩
  · have e0 : i = 0 := by simpa using hil
    subst e0
    refine .inr ⟨t, ht, rfl, fun k q hq => ?_⟩
    have hk : k = 0 := by
      rcases Nat.lt_or_ge k qs.length with e | e
      · simp at hl; omega
      · rw [List.getElem?_eq_none e] at hq; cases hq
    subst hk
    rw [ht] at hq
    injection hq with hq
    subst hq
    exact older_irr _
  · obtain ⟨g1, g2, g3⟩ := hr r h1
    by_cases hi : i = 0
    · subst hi
      have ho := g3 rfl
      refine .inr ⟨t, ht, by simp [bstep, ho], fun k q hq => ?_⟩
      by_cases hk : k = 0
      · subst hk
        rw [ht] at hq
        injection hq with hq
        subst hq
        exact older_irr _
      · exact older_up (g1 k q hk hq) ho
    · have h0 := g2 (by omega)
      have hno : olderB (f t) (f r) = false := by
        rcases hs with e | ⟨a, qa, ha, hqa, hoa⟩
        · exact absurd e hi
        · exact older_tr hoa (g1 a qa (by omega) hqa)
      refine .inr ⟨r, h0, by simp [bstep, hno], fun k q hq => ?_⟩
      by_cases hk : k = i
      · subst hk
        rw [ht] at hq
        injection hq with hq
        subst hq
        exact hno
      · exact g1 k q hk hq
end

/-- A trail's cells: what it is, and where its things lie. -/
def tc (p : TrailD × Value) : List Value := [.int .i64 p.1.id, .int .i64 p.1.stamp, .int .i64 p.1.first, p.2]
def cellsP (ps : List (TrailD × Value)) : List Value := ps.flatMap tc
theorem cellsP_len (ps : List (TrailD × Value)) : (cellsP ps).length = ps.length * 4 := flatMap_len ps tc (fun _ => rfl)
theorem cellsP_snoc (ps : List (TrailD × Value)) (p : TrailD × Value) : cellsP (ps ++ [p]) = cellsP ps ++ tc p := by simp [cellsP]
theorem cellsP_cons (p : TrailD × Value) (ps : List (TrailD × Value)) : cellsP (p :: ps) = .int .i64 p.1.id :: .int .i64 p.1.stamp :: .int .i64 p.1.first :: p.2 :: cellsP ps := rfl
theorem cellsP_at : ∀ (ps : List (TrailD × Value)) (k : Nat) (p : TrailD × Value) (j : Nat) (u : Value), ps[k]? = some p → (tc p)[j]? = some u → (cellsP ps)[k * 4 + j]? = some u
  | [], k, p, j, u, h, _ => by simp at h
  | q :: r, 0, p, j, u, h, hu => by
    simp only [List.getElem?_cons_zero, Option.some.injEq] at h
    subst h
    have hj : j < (tc q).length := (List.getElem?_eq_some_iff.1 hu).1
    show (tc q ++ cellsP r)[0 * 4 + j]? = some u
    rw [Nat.zero_mul, Nat.zero_add, List.getElem?_append_left hj]; exact hu
  | q :: r, k + 1, p, j, u, h, hu => by
    rw [List.getElem?_cons_succ] at h
    have ih := cellsP_at r k p j u h hu
    rw [cellsP_cons, show (k + 1) * 4 + j = (k * 4 + j) + 1 + 1 + 1 + 1 by omega]
    simpa using ih
theorem cellsP_set : ∀ (ps : List (TrailD × Value)) (k : Nat) (p : TrailD × Value), k < ps.length →
    ((((cellsP ps).set (k * 4) (.int .i64 p.1.id)).set (k * 4 + 1) (.int .i64 p.1.stamp)).set (k * 4 + 2) (.int .i64 p.1.first)).set (k * 4 + 3) p.2 = cellsP (ps.set k p)
  | [], k, p, h => by simp at h
  | q :: r, 0, p, _ => by simp [cellsP_cons]
  | q :: r, k + 1, p, h => by
    have ih := cellsP_set r k p (by simpa using h)
    rw [List.set_cons_succ, cellsP_cons, cellsP_cons, ← ih, show (k + 1) * 4 = k * 4 + 1 + 1 + 1 + 1 by omega]
    simp [Nat.add_assoc, Nat.add_comm 4]
end Go.Proofs.Ytjhlammjnggghaa
