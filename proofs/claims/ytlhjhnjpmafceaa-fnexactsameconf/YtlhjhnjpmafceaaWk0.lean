/-
  A rule and all rules in it, in their order, each ahead of those in it; a stack of lists that are open, and what is left of them.
-/
import Derived.Test.YtlhjhnjpmafceaaPolD
namespace Go.Proofs.Ytlhjhnjpmafceaa
open Go.ChangeShapes Go.WideShapes Go.ChangeAt Go.RowKit
set_option linter.unusedVariables false
set_option maxRecDepth 100000

def polPre : PolD → List PolD
  | ⟨kind, n, key, text, l⟩ => ⟨kind, n, key, text, l⟩ :: (l.map polPre).flatten
def polPres (l : List PolD) : List PolD := (l.map polPre).flatten
theorem polPre_eq (x : PolD) : polPre x = x :: polPres x.l := by
  obtain ⟨k, n, key, text, l⟩ := x
  rw [polPre]
  rfl
theorem polPres_cons (x : PolD) (l : List PolD) : polPres (x :: l) = polPre x ++ polPres l := by simp [polPres]
theorem polPres_nil : polPres [] = [] := rfl
theorem pre_mem {x : PolD} {l : List PolD} (h : x ∈ l) : (polPre x).length ≤ (polPres l).length := by
  induction l with
  | nil => cases h
  | cons y r ih =>
    rw [polPres_cons, List.length_append]
    rcases List.mem_cons.1 h with rfl | h
    · omega
    · have := ih h; omega
theorem pre_in {x y : PolD} (h : x ∈ y.l) : (polPre x).length < (polPre y).length := by
  have := pre_mem h
  rw [polPre_eq y, List.length_cons]
  omega
theorem bulk_mem {x : PolD} {l : List PolD} (h : x ∈ l) : polBulk x + l.length ≤ bulkL polBulk l := by
  unfold bulkL
  have : polBulk x ≤ (l.map polBulk).sum := by
    induction l with
    | nil => cases h
    | cons y r ih =>
      rw [List.map_cons, List.sum_cons]
      rcases List.mem_cons.1 h with rfl | h
      · omega
      · have := ih h; omega
  omega
theorem pre_bulkN : ∀ (n : Nat) (x : PolD), polBulk x ≤ n → (polPre x).length ≤ polBulk x + 1
  | n, x => by
    induction n generalizing x with
    | zero =>
      intro h
      have hl : x.l = [] := by
        cases e : x.l with
        | nil => rfl
        | cons y r => have := bulk_mem (x := y) (l := x.l) (by rw [e]; simp); rw [polBulk_eq] at h; rw [e] at this h; simp at this; omega
      rw [polPre_eq, hl]
      simp [polPres]
    | succ n ih =>
      intro h
      have hx := polBulk_eq x
      have key : ∀ l : List PolD, (∀ y ∈ l, polBulk y ≤ n) → (polPres l).length ≤ l.length + (l.map polBulk).sum := by
        intro l
        induction l with
        | nil => intro _; simp [polPres]
        | cons y r ih2 =>
          intro hy
          have h1 := ih y (hy y (by simp))
          have h2 := ih2 (fun z hz => hy z (by simp [hz]))
          rw [polPres_cons, List.length_append, List.length_cons, List.map_cons, List.sum_cons]
          omega
      have hk := key x.l (fun y hy => by have := bulk_mem hy; have hp : 0 < x.l.length := List.length_pos_of_mem hy; omega)
      rw [polPre_eq, List.length_cons]
      unfold bulkL at hx
      omega
theorem pre_bulk (x : PolD) : (polPre x).length ≤ polBulk x + 1 := pre_bulkN _ x (Nat.le_refl _)

def leftR : List (List PolD) → List PolD
  | [] => []
  | L :: r => polPres L.tail ++ leftR r
/-- What is left of open lists, the innermost one first; of each list outside it the first one is open. -/
def leftS : List (List PolD) → List PolD
  | [] => []
  | L :: r => polPres L ++ leftR r
theorem leftS_push (x : PolD) (t : List PolD) (r : List (List PolD)) : leftS ((x :: t) :: r) = x :: leftS (x.l :: (x :: t) :: r) := by
  simp [leftS, leftR, polPres_cons, polPre_eq x, List.append_assoc]
theorem leftS_pop (M : List PolD) (r : List (List PolD)) : leftS ([] :: M :: r) = leftS (M.tail :: r) := by
  simp [leftS, leftR, polPres_nil]
def Chain : List (List PolD) → Prop
  | L :: M :: r => (∃ y s, M = y :: s ∧ L <:+ y.l) ∧ Chain (M :: r)
  | _ => True
theorem chain_heads : ∀ (st : List (List PolD)) (x : PolD) (t : List PolD), Chain ((x :: t) :: st) → ∀ (j : Nat) (h : j < st.length), ∃ y s, st[j] = y :: s ∧ (polPre x).length < (polPre y).length
  | [], _, _, _, j, h => absurd h (Nat.not_lt_zero _)
  | M :: r, x, t, hc, j, h => by
    obtain ⟨⟨y, s, rfl, hs⟩, hc2⟩ := hc
    have hx : (polPre x).length < (polPre y).length := pre_in (hs.subset (by simp))
    cases j with
    | zero => exact ⟨y, s, rfl, hx⟩
    | succ j =>
      obtain ⟨z, u, e, hz⟩ := chain_heads r y s hc2 j (by simpa using h)
      exact ⟨z, u, by simpa using e, by omega⟩
theorem chain_push {x : PolD} {t : List PolD} {st : List (List PolD)} (h : Chain ((x :: t) :: st)) : Chain (x.l :: (x :: t) :: st) := ⟨⟨x, t, rfl, List.suffix_refl _⟩, h⟩
theorem chain_pop {L M : List PolD} {st : List (List PolD)} (h : Chain (L :: M :: st)) : Chain (M.tail :: st) := by
  obtain ⟨_, h2⟩ := h
  cases st with
  | nil => trivial
  | cons N r =>
    obtain ⟨⟨y, s, e, hs⟩, h3⟩ := h2
    exact ⟨⟨y, s, e, (List.tail_suffix M).trans hs⟩, h3⟩

/-- The slices of a stack, the innermost one first. -/
def Stk (w : World) (S : Nat → Prop) : List Value → List (List PolD) → Prop
  | [], [] => True
  | u :: us, L :: st => LAtX 5 polX w S u L ∧ Stk w S us st
  | _, _ => False
theorem Stk.len {w : World} {S : Nat → Prop} : ∀ {us : List Value} {st : List (List PolD)}, Stk w S us st → us.length = st.length
  | [], [], _ => rfl
  | u :: us, L :: st, h => by rw [List.length_cons, List.length_cons, Stk.len h.2]
  | [], _ :: _, h => h.elim
  | _ :: _, [], h => h.elim
theorem Stk.keep {w w' : World} {S T : Nat → Prop} (ht : Turn T w w') (hd : ∀ k, S k → ¬ T k) : ∀ {us : List Value} {st : List (List PolD)}, Stk w S us st → Stk w' S us st
  | [], [], _ => trivial
  | u :: us, L :: st, h => ⟨h.1.turn polX_keeps ht hd, Stk.keep ht hd h.2⟩
  | [], _ :: _, h => h.elim
  | _ :: _, [], h => h.elim
theorem Stk.at {w : World} {S : Nat → Prop} : ∀ {us : List Value} {st : List (List PolD)}, Stk w S us st → ∀ (j : Nat) (h : j < us.length) (h' : j < st.length), LAtX 5 polX w S us[j] st[j]
  | [], [], _, j, h, _ => absurd h (Nat.not_lt_zero _)
  | u :: us, L :: st, h, j, h1, h2 => by
    cases j with
    | zero => exact h.1
    | succ j => exact Stk.at h.2 j (by simpa using h1) (by simpa using h2)
  | [], _ :: _, h, _, _, _ => h.elim
  | _ :: _, [], h, _, _, _ => h.elim
/-- What lies at one place is one rule. -/
theorem polRd_one_at : ∀ (d e : Nat) (w : World) (S S' : Nat → Prop) (b o : Nat) (cs cs' : List Value) (x y : PolD), polRd d w S cs x → polRd e w S' cs' y → InB w b o cs → InB w b o cs' → x = y
  | 0, _, _, _, _, _, _, _, _, _, _, h, _, _, _ => h.elim
  | _ + 1, 0, _, _, _, _, _, _, _, _, _, _, h, _, _ => h.elim
  | d + 1, e + 1, w, S, S', b, o, cs, cs', x, y, hx, hy, ix, iy => by
    obtain ⟨s0, rfl, _, _, g⟩ := hx
    obtain ⟨s1, rfl, _, _, k⟩ := hy
    have h0 := (ix 0 _ rfl).symm.trans (iy 0 _ rfl)
    have h1 := (ix 1 _ rfl).symm.trans (iy 1 _ rfl)
    have h2 := (ix 2 _ rfl).symm.trans (iy 2 _ rfl)
    have h3 := (ix 3 _ rfl).symm.trans (iy 3 _ rfl)
    have h4 := (ix 4 _ rfl).symm.trans (iy 4 _ rfl)
    simp only [Option.some.injEq] at h0 h1 h2 h3 h4
    subst h4
    obtain ⟨a, c, rfl⟩ := g.form
    obtain ⟨a', c', e2⟩ := k.form
    injection e2 with e3 e4 e5
    subst e3
    have hl : x.l = y.l := by
      apply List.ext_getElem e4
      intro i hi hi'
      obtain ⟨b1, o1, c1, rfl, _, _, r1, i1⟩ := g.at1.at i hi
      obtain ⟨b2, o2, c2, q, _, _, r2, i2⟩ := k.at1.at i hi'
      injection q with q
      injection q with q1 q2
      subst q1
      subst q2
      exact polRd_one_at d e w _ _ b1 _ c1 c2 _ _ r1 r2 i1 i2
    obtain ⟨xk, xn, xy, xt, xl⟩ := x
    obtain ⟨yk, yn, yy, yt, yl⟩ := y
    simp_all
end Go.Proofs.Ytlhjhnjpmafceaa
