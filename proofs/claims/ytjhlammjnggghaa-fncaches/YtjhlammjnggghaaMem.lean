/-
  What lies in memory: blocks that hold values, cells of a row that may be written, lists of what lies in cells (read, or owned alone), and that what lies there stays as long as only other blocks turn.
-/
import Derived.Test.YtjhlammjnggghaaNum
import Derived.BigQuiet
import Derived.Deep.QuietTactic
import Derived.Deep.RegionWith
namespace Go.Proofs.Ytjhlammjnggghaa
open Go.ChangeShapes Go.WideShapes Go.ChangeAt Go.RowKit
set_option linter.unusedVariables false
set_option maxRecDepth 100000

/-- Of the blocks that were there only those of S may have turned; none has gone. -/
def Turn (S : Nat → Prop) (w w' : World) : Prop :=
  w'.os = w.os ∧ w'.tape = w.tape ∧ w'.output = w.output ∧ w.heap.size ≤ w'.heap.size ∧ ∀ k, k < w.heap.size → ¬ S k → w'.heap[k]? = w.heap[k]?
def None1 : Nat → Prop := fun _ => False
def All1 : Nat → Prop := fun _ => True
def From (n : Nat) : Nat → Prop := fun k => n ≤ k
def Within (n m : Nat) : Nat → Prop := fun k => n ≤ k ∧ k < m
theorem Below.turn {w w' : World} (h : Below w.heap.size w w') : Turn None1 w w' := ⟨h.os, h.tape, h.output, h.size, fun k hk _ => h.block k hk⟩
theorem Turn.below {w w' : World} (h : Turn None1 w w') : Below w.heap.size w w' := ⟨h.1, h.2.1, h.2.2.1, h.2.2.2.1, fun k hk => h.2.2.2.2 k hk (fun e => e)⟩
theorem Turn.belowFrom {S : Nat → Prop} {w w' : World} {B : Nat} (h : Turn S w w') (hB : B ≤ w.heap.size) (hS : ∀ k, S k → B ≤ k) : Below B w w' :=
  ⟨h.1, h.2.1, h.2.2.1, h.2.2.2.1, fun k hk => h.2.2.2.2 k (Nat.lt_of_lt_of_le hk hB) (fun e => by have := hS k e; omega)⟩
theorem Turn.refl (S : Nat → Prop) (w : World) : Turn S w w := ⟨rfl, rfl, rfl, Nat.le_refl _, fun _ _ _ => rfl⟩
theorem Turn.trans {S : Nat → Prop} {a b c : World} (h : Turn S a b) (k : Turn S b c) : Turn S a c :=
  ⟨k.1.trans h.1, k.2.1.trans h.2.1, k.2.2.1.trans h.2.2.1, Nat.le_trans h.2.2.2.1 k.2.2.2.1, fun i hi hS => (k.2.2.2.2 i (Nat.lt_of_lt_of_le hi h.2.2.2.1) hS).trans (h.2.2.2.2 i hi hS)⟩
theorem Turn.mono {S T : Nat → Prop} {w w' : World} (h : Turn S w w') (hs : ∀ k, S k → T k) : Turn T w w' := ⟨h.1, h.2.1, h.2.2.1, h.2.2.2.1, fun k hk hT => h.2.2.2.2 k hk (fun e => hT (hs k e))⟩
theorem Turn.size {S : Nat → Prop} {w w' : World} (h : Turn S w w') : w.heap.size ≤ w'.heap.size := h.2.2.2.1
theorem Turn.cell {S : Nat → Prop} {w w' : World} (h : Turn S w w') {p : Addr} (hp : p.block < w.heap.size) (hS : ¬ S p.block) : w'.cell? p = w.cell? p := World.cell?_of_block (w := w) (h.2.2.2.2 p.block hp hS)
theorem Turn.frozen {S : Nat → Prop} {w w' : World} (h : Turn S w w') {p : Addr} (hp : p.block < w.heap.size) (hS : ¬ S p.block) : w'.frozen? p = w.frozen? p := World.frozen?_of_block (w := w) (h.2.2.2.2 p.block hp hS)
theorem Turn.set (w : World) (p : Addr) (u : Value) : Turn (fun k => k = p.block) w (w.setCell p u) :=
  ⟨rfl, rfl, rfl, by simp [World.setCell], fun k hk hS => Below.heap_setCell _ _ _ _ hS⟩
theorem Turn.setIn {S : Nat → Prop} {a w : World} (h : Turn S a w) {p : Addr} (hp : S p.block) (u : Value) : Turn S a (w.setCell p u) :=
  h.trans ((Turn.set w p u).mono (fun k e => by rw [e]; exact hp))
theorem none_off {S : Nat → Prop} : ∀ k, S k → ¬ None1 k := fun _ _ h => h

/-- A block holds these values. -/
def Held (w : World) (b : Nat) (vs : List Value) : Prop := b < w.heap.size ∧ ∀ (i : Nat) (v : Value), vs[i]? = some v → w.cell? ⟨b, i, none⟩ = some v
theorem Held.turn {S : Nat → Prop} {w w' : World} {b : Nat} {vs : List Value} (h : Held w b vs) (ht : Turn S w w') (hS : ¬ S b) : Held w' b vs :=
  ⟨Nat.lt_of_lt_of_le h.1 ht.size, fun i v hv => by rw [ht.cell (p := ⟨b, i, none⟩) h.1 hS]; exact h.2 i v hv⟩
theorem Held.keep {w w' : World} {b : Nat} {vs : List Value} (h : Held w b vs) (hb : Below w.heap.size w w') : Held w' b vs := h.turn (Below.turn hb) (fun e => e)
theorem Held.new (w : World) (c : List Value) (t : TypeId) : Held (w.alloc (.cells c.toArray t)) w.heap.size c := by
  refine ⟨by simp, fun i v hv => ?_⟩
  rw [World.cell?_alloc_at _ _ _ _ rfl]
  simpa using hv
theorem Held.set {w : World} {b : Nat} {vs : List Value} (h : Held w b vs) (i : Nat) (u : Value) (hi : i < vs.length) : Held (w.setCell ⟨b, i, none⟩ u) b (vs.set i u) := by
  refine ⟨by simpa using h.1, fun j v hv => ?_⟩
  by_cases hj : i = j
  · subst hj
    rw [World.cell?_setCell_same' _ _ _ (by rw [h.2 i _ (List.getElem?_eq_getElem hi)]; rfl)]
    rw [List.getElem?_set_self hi] at hv
    exact hv
  · rw [World.cell?_setCell_other _ _ _ _ (fun e => hj (by injection e))]
    rw [List.getElem?_set_ne hj] at hv
    exact h.2 j v hv
theorem Held.other {w : World} {b : Nat} {vs : List Value} (h : Held w b vs) {p : Addr} (hp : p.block ≠ b) (u : Value) : Held (w.setCell p u) b vs :=
  h.turn (Turn.set w p u) (fun e => hp e.symm)

/-- Cells of a block, from a place on, that are there and may be written. -/
def WrAt (w : World) (b o n : Nat) : Prop := b < w.heap.size ∧ ∀ j, j < n → (w.cell? ⟨b, o + j, none⟩).isSome = true ∧ w.frozen? ⟨b, o + j, none⟩ = false
theorem WrAt.turn {S : Nat → Prop} {w w' : World} {b o n : Nat} (h : WrAt w b o n) (ht : Turn S w w') (hS : ¬ S b) : WrAt w' b o n :=
  ⟨Nat.lt_of_lt_of_le h.1 ht.size, fun j hj => ⟨by rw [ht.cell (p := ⟨b, o + j, none⟩) h.1 hS]; exact (h.2 j hj).1, by rw [ht.frozen (p := ⟨b, o + j, none⟩) h.1 hS]; exact (h.2 j hj).2⟩⟩
theorem WrAt.keep {w w' : World} {b o n : Nat} (h : WrAt w b o n) (hb : Below w.heap.size w w') : WrAt w' b o n := h.turn (Below.turn hb) (fun e => e)
theorem WrAt.set {w : World} {b o n : Nat} (h : WrAt w b o n) (p : Addr) (u : Value) : WrAt (w.setCell p u) b o n := by
  refine ⟨by simpa using h.1, fun j hj => ⟨?_, by simpa using (h.2 j hj).2⟩⟩
  by_cases hp : p = ⟨b, o + j, none⟩
  · subst hp; rw [World.cell?_setCell_same' _ _ _ (h.2 j hj).1]; rfl
  · rw [World.cell?_setCell_other _ _ _ _ hp]; exact (h.2 j hj).1
theorem WrAt.new (w : World) (c : Array Value) (t : TypeId) (n : Nat) (hc : c.size = n) : WrAt (w.alloc (.cells c t)) w.heap.size 0 n := by
  refine ⟨by simp, fun j hj => ⟨?_, by simp [go_sem]⟩⟩
  rw [World.cell?_alloc_at _ _ _ _ rfl, Array.getElem?_eq_getElem (by omega)]; rfl
theorem WrAt.cell {w : World} {b o n : Nat} (h : WrAt w b o n) (j : Nat) (hj : j < n) : ∃ u, w.cell? ⟨b, o + j, none⟩ = some u := Option.isSome_iff_exists.1 (h.2 j hj).1
theorem WrAt.free {w : World} {b o n : Nat} (h : WrAt w b o n) (j : Nat) (hj : j < n) : w.frozen? ⟨b, o + j, none⟩ = false := (h.2 j hj).2
theorem WrAt.part {w : World} {b o n : Nat} (h : WrAt w b o n) (p m : Nat) (hp : p + m ≤ n) : WrAt w b (o + p) m :=
  ⟨h.1, fun j hj => by rw [Nat.add_assoc]; exact h.2 (p + j) (by omega)⟩

/-- These cells stand in a block from a place on. -/
def InB (w : World) (b o : Nat) (cs : List Value) : Prop := ∀ (i : Nat) (v : Value), cs[i]? = some v → w.cell? ⟨b, o + i, none⟩ = some v
theorem InB.turn {S : Nat → Prop} {w w' : World} {b o : Nat} {cs : List Value} (h : InB w b o cs) (hb : b < w.heap.size) (ht : Turn S w w') (hS : ¬ S b) : InB w' b o cs :=
  fun i v hv => by rw [ht.cell (p := ⟨b, o + i, none⟩) hb hS]; exact h i v hv
theorem Held.inB {w : World} {b : Nat} {vs : List Value} (h : Held w b vs) : InB w b 0 vs := fun i v hv => by rw [Nat.zero_add]; exact h.2 i v hv

def Keeps {α : Type} (C : World → (Nat → Prop) → List Value → α → Prop) : Prop :=
  ∀ (w w' : World) (S T : Nat → Prop) (cs : List Value) (x : α), Turn T w w' → (∀ k, S k → ¬ T k) → C w S cs x → C w' S cs x
def Widens {α : Type} (C : World → (Nat → Prop) → List Value → α → Prop) : Prop :=
  ∀ (w : World) (S T : Nat → Prop) (cs : List Value) (x : α), (∀ k, S k → T k) → C w S cs x → C w T cs x

/-- A list whose elements lie, n cells each, in one block of S. -/
def LAt {α : Type} (n : Nat) (C : World → (Nat → Prop) → List Value → α → Prop) (w : World) (S : Nat → Prop) (v : Value) (l : List α) : Prop :=
  ∃ a cap, v = .slice a l.length cap ∧ l.length ≤ 9223372036854775807 ∧
    (l = [] ∨ ∃ b o, a = some ⟨b, o, none⟩ ∧ b < w.heap.size ∧ S b ∧ ∀ (i : Nat) (x : α), l[i]? = some x → ∃ cs, C w S cs x ∧ InB w b (o + i * n) cs)
theorem LAt.turn {α : Type} {n : Nat} {C : World → (Nat → Prop) → List Value → α → Prop} (hC : Keeps C) {w w' : World} {S T : Nat → Prop} {v : Value} {l : List α} (h : LAt n C w S v l) (ht : Turn T w w') (hd : ∀ k, S k → ¬ T k) : LAt n C w' S v l := by
  obtain ⟨a, cap, rfl, hl, h⟩ := h
  refine ⟨a, cap, rfl, hl, ?_⟩
  rcases h with h | ⟨b, o, h1, h2, h3, h4⟩
  · exact .inl h
  · refine .inr ⟨b, o, h1, Nat.lt_of_lt_of_le h2 ht.size, h3, fun i x hx => ?_⟩
    obtain ⟨cs, hcs, hin⟩ := h4 i x hx
    exact ⟨cs, hC w w' S T cs x ht hd hcs, hin.turn h2 ht (hd b h3)⟩
theorem LAt.keep {α : Type} {n : Nat} {C : World → (Nat → Prop) → List Value → α → Prop} (hC : Keeps C) {w w' : World} {S : Nat → Prop} {v : Value} {l : List α} (h : LAt n C w S v l) (hb : Below w.heap.size w w') : LAt n C w' S v l :=
  h.turn hC (Below.turn hb) none_off
theorem LAt.form {α : Type} {n : Nat} {C : World → (Nat → Prop) → List Value → α → Prop} {w : World} {S : Nat → Prop} {v : Value} {l : List α} (h : LAt n C w S v l) : ∃ a cap, v = .slice a l.length cap := by
  obtain ⟨a, cap, e, _⟩ := h; exact ⟨a, cap, e⟩
theorem LAt.len {α : Type} {n : Nat} {C : World → (Nat → Prop) → List Value → α → Prop} {w : World} {S : Nat → Prop} {v : Value} {l : List α} (h : LAt n C w S v l) : l.length ≤ 9223372036854775807 := by
  obtain ⟨a, cap, e, hl, _⟩ := h; exact hl
theorem LAt.at {α : Type} {n : Nat} {C : World → (Nat → Prop) → List Value → α → Prop} {w : World} {S : Nat → Prop} {a : Option Addr} {m cap : Nat} {l : List α} (h : LAt n C w S (.slice a m cap) l) (k : Nat) (hk : k < l.length) :
    ∃ b o cs, a = some ⟨b, o, none⟩ ∧ b < w.heap.size ∧ S b ∧ C w S cs l[k] ∧ InB w b (o + k * n) cs := by
  obtain ⟨a', cap', e, hl, h⟩ := h
  injection e with e1 e2 e3
  subst e1
  rcases h with h | ⟨b, o, h1, h2, h3, h4⟩
  · subst h; simp at hk
  · obtain ⟨cs, hcs, hin⟩ := h4 k l[k] (List.getElem?_eq_getElem hk)
    exact ⟨b, o, cs, h1, h2, h3, hcs, hin⟩
theorem LAt.nil {α : Type} (n : Nat) (C : World → (Nat → Prop) → List Value → α → Prop) (w : World) (S : Nat → Prop) (a : Option Addr) (cap : Nat) : LAt n C w S (.slice a 0 cap) [] := ⟨a, cap, rfl, by simp, .inl rfl⟩
theorem LAt.widens {α : Type} {n : Nat} {C : World → (Nat → Prop) → List Value → α → Prop} (hC : Widens C) {w : World} {S T : Nat → Prop} {v : Value} {l : List α} (h : LAt n C w S v l) (hs : ∀ k, S k → T k) : LAt n C w T v l := by
  obtain ⟨a, cap, rfl, hl, h⟩ := h
  refine ⟨a, cap, rfl, hl, ?_⟩
  rcases h with h | ⟨b, o, h1, h2, h3, h4⟩
  · exact .inl h
  · refine .inr ⟨b, o, h1, h2, hs b h3, fun i x hx => ?_⟩
    obtain ⟨cs, hcs, hin⟩ := h4 i x hx
    exact ⟨cs, hC w S T cs x hs hcs, hin⟩

/-- A list of which each part is nobody else's: its cells may be written, and what hangs on each element lies in blocks of its own (T i), all of S. -/
def LOw {α : Type} (n : Nat) (C : World → (Nat → Prop) → List Value → α → Prop) (w : World) (S : Nat → Prop) (v : Value) (l : List α) : Prop :=
  ∃ a cap, v = .slice a l.length cap ∧ l.length ≤ 9223372036854775807 ∧
    (l = [] ∨ ∃ (b o : Nat) (T : Nat → Nat → Prop), a = some ⟨b, o, none⟩ ∧ S b ∧ WrAt w b o (l.length * n) ∧ (∀ i k, T i k → S k ∧ k ≠ b) ∧ (∀ i j k, T i k → T j k → i = j) ∧
      ∀ (i : Nat) (x : α), l[i]? = some x → ∃ cs, C w (T i) cs x ∧ InB w b (o + i * n) cs)
theorem LOw.turn {α : Type} {n : Nat} {C : World → (Nat → Prop) → List Value → α → Prop} (hC : Keeps C) {w w' : World} {S T : Nat → Prop} {v : Value} {l : List α} (h : LOw n C w S v l) (ht : Turn T w w') (hd : ∀ k, S k → ¬ T k) : LOw n C w' S v l := by
  obtain ⟨a, cap, rfl, hl, h⟩ := h
  refine ⟨a, cap, rfl, hl, ?_⟩
  rcases h with h | ⟨b, o, U, h1, h2, h3, h4, h5, h6⟩
  · exact .inl h
  · refine .inr ⟨b, o, U, h1, h2, h3.turn ht (hd b h2), h4, h5, fun i x hx => ?_⟩
    obtain ⟨cs, hcs, hin⟩ := h6 i x hx
    exact ⟨cs, hC w w' (U i) T cs x ht (fun k hk => hd k (h4 i k hk).1) hcs, hin.turn h3.1 ht (hd b h2)⟩
theorem LOw.keep {α : Type} {n : Nat} {C : World → (Nat → Prop) → List Value → α → Prop} (hC : Keeps C) {w w' : World} {S : Nat → Prop} {v : Value} {l : List α} (h : LOw n C w S v l) (hb : Below w.heap.size w w') : LOw n C w' S v l :=
  h.turn hC (Below.turn hb) none_off
theorem LOw.widens {α : Type} {n : Nat} {C : World → (Nat → Prop) → List Value → α → Prop} {w : World} {S T : Nat → Prop} {v : Value} {l : List α} (h : LOw n C w S v l) (hs : ∀ k, S k → T k) : LOw n C w T v l := by
  obtain ⟨a, cap, rfl, hl, h⟩ := h
  refine ⟨a, cap, rfl, hl, ?_⟩
  rcases h with h | ⟨b, o, U, h1, h2, h3, h4, h5, h6⟩
  · exact .inl h
  · exact .inr ⟨b, o, U, h1, hs b h2, h3, fun i k hk => ⟨hs k (h4 i k hk).1, (h4 i k hk).2⟩, h5, h6⟩
theorem LOw.read {α : Type} {n : Nat} {C D : World → (Nat → Prop) → List Value → α → Prop} (hD : Widens D) (hr : ∀ w S cs x, C w S cs x → D w S cs x) {w : World} {S : Nat → Prop} {v : Value} {l : List α} (h : LOw n C w S v l) : LAt n D w S v l := by
  obtain ⟨a, cap, rfl, hl, h⟩ := h
  refine ⟨a, cap, rfl, hl, ?_⟩
  rcases h with h | ⟨b, o, U, h1, h2, h3, h4, h5, h6⟩
  · exact .inl h
  · refine .inr ⟨b, o, h1, h3.1, h2, fun i x hx => ?_⟩
    obtain ⟨cs, hcs, hin⟩ := h6 i x hx
    exact ⟨cs, hD w (U i) S cs x (fun k hk => (h4 i k hk).1) (hr w (U i) cs x hcs), hin⟩
theorem LOw.form {α : Type} {n : Nat} {C : World → (Nat → Prop) → List Value → α → Prop} {w : World} {S : Nat → Prop} {v : Value} {l : List α} (h : LOw n C w S v l) : ∃ a cap, v = .slice a l.length cap := by
  obtain ⟨a, cap, e, _⟩ := h; exact ⟨a, cap, e⟩
theorem LOw.nil {α : Type} (n : Nat) (C : World → (Nat → Prop) → List Value → α → Prop) (w : World) (S : Nat → Prop) (a : Option Addr) (cap : Nat) : LOw n C w S (.slice a 0 cap) [] := ⟨a, cap, rfl, by simp, .inl rfl⟩

/-- Values written one behind the other. -/
def putL (b o : Nat) : List Value → Nat → World → World
  | [], _, w => w
  | v :: r, j, w => putL b o r (j + 1) (w.setCell ⟨b, o + j, none⟩ v)
theorem putL_turn (b o : Nat) (vs : List Value) (j : Nat) (w : World) : Turn (fun k => k = b) w (putL b o vs j w) := by
  induction vs generalizing j w with
  | nil => exact Turn.refl _ _
  | cons v r ih => exact (Turn.set w ⟨b, o + j, none⟩ v).trans (ih (j + 1) _)
theorem putL_wr {b o : Nat} (vs : List Value) (j : Nat) {w : World} {c p m : Nat} (h : WrAt w c p m) : WrAt (putL b o vs j w) c p m := by
  induction vs generalizing j w with
  | nil => exact h
  | cons v r ih => exact ih (j + 1) (h.set _ _)
theorem putL_off {b o : Nat} (vs : List Value) (j : Nat) (w : World) {i : Nat} (h : i < o + j ∨ o + j + vs.length ≤ i) : (putL b o vs j w).cell? ⟨b, i, none⟩ = w.cell? ⟨b, i, none⟩ := by
  induction vs generalizing j w with
  | nil => rfl
  | cons v r ih =>
    rw [List.length_cons] at h
    show (putL b o r (j + 1) (w.setCell ⟨b, o + j, none⟩ v)).cell? _ = _
    rw [ih (j + 1) _ (by omega), World.cell?_setCell_other _ _ _ _ (fun e => by injection e with e1 e2; omega)]
theorem putL_at {b o : Nat} (vs : List Value) (j : Nat) {w : World} {p m : Nat} (h : WrAt w b p m) (h1 : p ≤ o + j) (h2 : o + j + vs.length ≤ p + m) : InB (putL b o vs j w) b (o + j) vs := by
  induction vs generalizing j w with
  | nil => intro i v hv; simp at hv
  | cons v r ih =>
    rw [List.length_cons] at h2
    intro i u hu
    cases i with
    | zero =>
      simp only [List.getElem?_cons_zero, Option.some.injEq] at hu
      subst hu
      show (putL b o r (j + 1) (w.setCell ⟨b, o + j, none⟩ v)).cell? _ = _
      rw [putL_off r (j + 1) _ (by omega), Nat.add_zero, World.cell?_setCell_same']
      have := (h.2 (o + j - p) (by omega)).1
      rw [show p + (o + j - p) = o + j by omega] at this
      exact this
    | succ i =>
      have := ih (j + 1) (h.set ⟨b, o + j, none⟩ v) (by omega) (by omega) i u (by simpa using hu)
      rw [show o + j + (i + 1) = o + (j + 1) + i by omega]
      exact this
theorem putL_in {b o : Nat} (vs : List Value) (j : Nat) {w : World} {i : Nat} {cs : List Value} (h : InB w b i cs) (hd : i + cs.length ≤ o + j ∨ o + j + vs.length ≤ i) : InB (putL b o vs j w) b i cs := by
  intro q v hv
  have hq : q < cs.length := by
    rcases Nat.lt_or_ge q cs.length with h | h
    · exact h
    · rw [List.getElem?_eq_none h] at hv; cases hv
  rw [putL_off vs j w (by omega)]
  exact h q v hv

/-- How much there is of a list: how many, and how much each has. -/
def bulkL {α : Type} (f : α → Nat) (l : List α) : Nat := l.length + (l.map f).sum
theorem bulkL_len {α : Type} (f : α → Nat) (l : List α) : l.length ≤ bulkL f l := by unfold bulkL; omega
theorem bulkL_mem {α : Type} (f : α → Nat) {l : List α} {x : α} (h : x ∈ l) : f x + l.length ≤ bulkL f l := by
  unfold bulkL
  induction l with
  | nil => simp at h
  | cons y r ih =>
    simp only [List.map_cons, List.sum_cons, List.length_cons]
    rcases List.mem_cons.1 h with rfl | h
    · omega
    · have := ih h; omega
theorem sum_snoc {α : Type} (f : α → Nat) (l : List α) (k : Nat) (h : k < l.length) : ((l.take (k + 1)).map f).sum = ((l.take k).map f).sum + f l[k] := by
  rw [List.take_succ_eq_append_getElem h, List.map_append, List.sum_append]
  simp
/-- The first k of a list are laid, n cells each, into a block that was made when the world was w. -/
def Filled {α : Type} (n : Nat) (C : World → (Nat → Prop) → List Value → α → Prop) (w wk : World) (l : List α) (k : Nat) : Prop :=
  WrAt wk w.heap.size 0 (l.length * n) ∧ ∃ T : Nat → Nat → Prop, (∀ i c, T i c → w.heap.size < c ∧ c < wk.heap.size) ∧ (∀ i j c, T i c → T j c → i = j) ∧
    ∀ (i : Nat) (x : α), i < k → l[i]? = some x → ∃ cs, C wk (T i) cs x ∧ InB wk w.heap.size (i * n) cs ∧ cs.length = n
theorem Filled.start {α : Type} (n : Nat) (C : World → (Nat → Prop) → List Value → α → Prop) (w wk : World) (l : List α) (h : WrAt wk w.heap.size 0 (l.length * n)) : Filled n C w wk l 0 :=
  ⟨h, fun _ _ => False, fun _ _ h => h.elim, fun _ _ _ h => h.elim, fun _ _ h => absurd h (Nat.not_lt_zero _)⟩
theorem Filled.step {α : Type} {n : Nat} {C : World → (Nat → Prop) → List Value → α → Prop} (hC : Keeps C) {w wk w2 : World} {l : List α} {k : Nat} (h : Filled n C w wk l k) (hk : k < l.length) (hb : Below wk.heap.size wk w2)
    {cs : List Value} (hcs : C w2 (Within wk.heap.size w2.heap.size) cs l[k]) (hn : cs.length = n) : Filled n C w (putL w.heap.size (k * n) cs 0 w2) l (k + 1) := by
  obtain ⟨hw, T, hT, hd, hx⟩ := h
  have ht := Below.turn hb
  have hw2 : WrAt w2 w.heap.size 0 (l.length * n) := hw.turn ht (fun e => e)
  have hp := putL_turn w.heap.size (k * n) cs 0 w2
  have hin : k * n + n ≤ l.length * n := by rw [← Nat.succ_mul]; exact Nat.mul_le_mul_right n hk
  have hws := hw.1
  refine ⟨putL_wr cs 0 hw2, fun i c => if i = k then Within wk.heap.size w2.heap.size c else T i c, ?_, ?_, ?_⟩
  · intro i c h
    have hs2 := hp.size
    by_cases hi : i = k
    · rw [if_pos hi] at h; have := h.1; have := h.2; omega
    · rw [if_neg hi] at h; have := hT i c h; have := hb.size; omega
  · intro i j c h h'
    by_cases hi : i = k <;> by_cases hj : j = k
    · rw [hi, hj]
    · rw [if_pos hi] at h; rw [if_neg hj] at h'; have := h.1; have := hT j c h'; omega
    · rw [if_neg hi] at h; rw [if_pos hj] at h'; have := h'.1; have := hT i c h; omega
    · rw [if_neg hi] at h; rw [if_neg hj] at h'; exact hd i j c h h'
  · intro i x hi hlx
    by_cases hik : i = k
    · subst hik
      rw [List.getElem?_eq_getElem hk, Option.some.injEq] at hlx
      subst hlx
      refine ⟨cs, ?_, ?_, hn⟩
      · have e : (fun c => if i = i then Within wk.heap.size w2.heap.size c else T i c) = Within wk.heap.size w2.heap.size := funext fun c => if_pos rfl
        show C _ (fun c => if i = i then Within wk.heap.size w2.heap.size c else T i c) cs _
        rw [e]
        exact hC w2 _ _ _ cs _ hp (fun c h e => by have := h.1; omega) hcs
      · exact putL_at cs 0 hw2 (by omega) (by omega)
    · obtain ⟨cs', h1, h2, h3⟩ := hx i x (by omega) hlx
      refine ⟨cs', ?_, ?_, h3⟩
      · have e : (fun c => if i = k then Within wk.heap.size w2.heap.size c else T i c) = T i := funext fun c => if_neg hik
        show C _ (fun c => if i = k then Within wk.heap.size w2.heap.size c else T i c) cs' _
        rw [e]
        exact hC w2 _ _ _ cs' _ hp (fun c h e => by have := hT i c h; omega) (hC wk w2 _ _ cs' _ ht none_off h1)
      · have hlt : i * n + n ≤ k * n := by rw [← Nat.succ_mul]; exact Nat.mul_le_mul_right n (by omega)
        exact putL_in cs 0 (h2.turn hws ht (fun e => e)) (by omega)
theorem Filled.done {α : Type} {n : Nat} {C : World → (Nat → Prop) → List Value → α → Prop} {w wk : World} {l : List α} (h : Filled n C w wk l l.length) (hl : l.length ≤ 9223372036854775807) :
    LOw n C wk (Within w.heap.size wk.heap.size) (.slice (some ⟨w.heap.size, 0, none⟩) l.length l.length) l := by
  obtain ⟨hw, T, hT, hd, hx⟩ := h
  refine ⟨_, _, rfl, hl, .inr ⟨w.heap.size, 0, T, rfl, ⟨Nat.le_refl _, hw.1⟩, hw, fun i k hk => ⟨⟨?_, (hT i k hk).2⟩, ?_⟩, hd, fun i x hix => ?_⟩⟩
  · have := (hT i k hk).1; omega
  · have := (hT i k hk).1; omega
  · have hi : i < l.length := by
      rcases Nat.lt_or_ge i l.length with h | h
      · exact h
      · rw [List.getElem?_eq_none h] at hix; cases hix
    obtain ⟨cs, h1, h2, _⟩ := hx i x hi hix
    exact ⟨cs, h1, by rw [Nat.zero_add]; exact h2⟩

/-- What was put together is left alone by the last stores. -/
theorem own_fin {α : Type} {C : World → (Nat → Prop) → List Value → α → Prop} (hC : Keeps C) (hD : Widens C) {wl W' : World} {lo lo' : Nat} {cs : List Value} {x : α} {T : Nat → Prop}
    (h : C wl (Within lo' wl.heap.size) cs x) (ht : Turn T wl W') (hd : ∀ k, lo' ≤ k → ¬ T k) (hlo : lo ≤ lo') : C W' (Within lo W'.heap.size) cs x :=
  hD W' _ _ cs x (fun k hk => ⟨Nat.le_trans hlo hk.1, Nat.lt_of_lt_of_le hk.2 ht.size⟩) (hC wl W' _ T cs x ht (fun k hk => hd k hk.1) h)
/-- The i-th of some ranges. -/
def ivs (l : List (Nat × Nat)) (i k : Nat) : Prop := ∃ p, l[i]? = some p ∧ p.1 ≤ k ∧ k < p.2
theorem ivs_disj {l : List (Nat × Nat)} (h : l.Pairwise (fun p q => p.2 ≤ q.1)) : ∀ i j k, ivs l i k → ivs l j k → i = j := by
  intro i j k ⟨p, hp, h1, h2⟩ ⟨q, hq, h3, h4⟩
  rcases Nat.lt_trichotomy i j with hij | hij | hij
  · have hi := (List.getElem?_eq_some_iff.1 hp)
    have hj := (List.getElem?_eq_some_iff.1 hq)
    obtain ⟨hi1, hi2⟩ := hi
    obtain ⟨hj1, hj2⟩ := hj
    have := List.pairwise_iff_getElem.1 h i j hi1 hj1 hij
    rw [hi2, hj2] at this
    omega
  · exact hij
  · have hi := (List.getElem?_eq_some_iff.1 hp)
    have hj := (List.getElem?_eq_some_iff.1 hq)
    obtain ⟨hi1, hi2⟩ := hi
    obtain ⟨hj1, hj2⟩ := hj
    have := List.pairwise_iff_getElem.1 h j i hj1 hi1 hij
    rw [hi2, hj2] at this
    omega

/-- The place of the first one that is such; -1, where none is. -/
def idxv {α : Type} (p : α → Bool) (l : List α) : Int := match l.findIdx? p with | some i => (i : Int) | none => -1
theorem idxv_hit {α : Type} {p : α → Bool} {l : List α} {k : Nat} (hk : k < l.length) (hno : ∀ j (h : j < l.length), j < k → p l[j] = false) (h : p l[k] = true) : idxv p l = k := by
  unfold idxv
  rw [List.findIdx?_eq_some_iff_getElem.2 ⟨hk, h, fun j hj => by rw [hno j (by omega) hj]; simp⟩]
theorem idxv_miss {α : Type} {p : α → Bool} {l : List α} (hno : ∀ j (h : j < l.length), j < l.length → p l[j] = false) : idxv p l = -1 := by
  unfold idxv
  rw [List.findIdx?_eq_none_iff.2 (fun x hx => by obtain ⟨j, hj, rfl⟩ := List.mem_iff_getElem.1 hx; exact hno j hj hj)]
theorem idxv_any {α : Type} (p : α → Bool) (l : List α) : decide (0 ≤ idxv p l) = l.any p := by
  unfold idxv
  cases h : l.findIdx? p with
  | none => rw [List.findIdx?_eq_none_iff] at h; simp; intro x hx; simpa using h x hx
  | some i => obtain ⟨hi, hp, _⟩ := List.findIdx?_eq_some_iff_getElem.1 h; simp; exact ⟨l[i], List.getElem_mem hi, hp⟩

end Go.Proofs.Ytjhlammjnggghaa
