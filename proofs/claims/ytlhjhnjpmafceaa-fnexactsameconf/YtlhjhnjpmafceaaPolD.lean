/-
  Pol: rules in rules, as they lie in memory, however deep.
-/
import Derived.Test.YtlhjhnjpmafceaaMem
import Derived.Test.YtlhjhnjpmafceaaAbs
namespace Go.Proofs.Ytlhjhnjpmafceaa
open Go.ChangeShapes Go.WideShapes Go.ChangeAt Go.RowKit
set_option linter.unusedVariables false
set_option maxRecDepth 100000

/-- A slice reaches no further than its room. -/
def CapV (v : Value) : Prop := ∀ a n c, v = .slice a n c → n ≤ c
theorem CapV.le {a : Option Addr} {n c : Nat} (h : CapV (.slice a n c)) : n ≤ c := h a n c rfl
theorem CapV.mk {a : Option Addr} {n c : Nat} (h : n ≤ c) : CapV (.slice a n c) := fun a' n' c' e => by injection e with _ e2 e3; subst e2; subst e3; exact h
theorem LAt.up {α : Type} {n : Nat} {C D : World → (Nat → Prop) → List Value → α → Prop} {w : World} {S : Nat → Prop} {v : Value} {l : List α} (h : LAt n C w S v l) (hr : ∀ cs x, x ∈ l → C w S cs x → D w S cs x) : LAt n D w S v l := by
  obtain ⟨a, cap, rfl, hl, h⟩ := h
  refine ⟨a, cap, rfl, hl, ?_⟩
  rcases h with h | ⟨b, o, h1, h2, h3, h4⟩
  · exact .inl h
  · refine .inr ⟨b, o, h1, h2, h3, fun i x hx => ?_⟩
    obtain ⟨cs, hcs, hin⟩ := h4 i x hx
    exact ⟨cs, hr cs x (List.mem_of_getElem? hx) hcs, hin⟩
theorem LOw.up {α : Type} {n : Nat} {C D : World → (Nat → Prop) → List Value → α → Prop} {w : World} {S : Nat → Prop} {v : Value} {l : List α} (h : LOw n C w S v l) (hr : ∀ S cs x, C w S cs x → D w S cs x) : LOw n D w S v l := by
  obtain ⟨a, cap, rfl, hl, h⟩ := h
  refine ⟨a, cap, rfl, hl, ?_⟩
  rcases h with h | ⟨b, o, T, h1, h2, h3, h4, h5, h6⟩
  · exact .inl h
  · refine .inr ⟨b, o, T, h1, h2, h3, h4, h5, fun i x hx => ?_⟩
    obtain ⟨cs, hcs, hin⟩ := h6 i x hx
    exact ⟨cs, hr _ cs x hcs, hin⟩
/-- A block of cells none of which is frozen. -/
def Plain (w : World) (b : Nat) : Prop := ∃ cur t, w.heap[b]? = some (.cells cur t (0, 0))
theorem Plain.turn {w w' : World} {T : Nat → Prop} {b : Nat} (h : Plain w b) (ht : Turn T w w') (hT : ¬ T b) : Plain w' b := by
  obtain ⟨cur, t, h⟩ := h
  exact ⟨cur, t, (ht.2.2.2.2 b (Array.getElem?_eq_some_iff.1 h).1 hT).trans h⟩
theorem Plain.below {w w' : World} {b : Nat} (h : Plain w b) (hb : Below w.heap.size w w') : Plain w' b := h.turn (Below.turn hb) (fun e => e)
theorem Plain.new (w : World) (c : Array Value) (t : TypeId) : Plain (w.alloc (.cells c t)) w.heap.size := ⟨c, t, heap_alloc_new w (.cells c t)⟩
theorem Plain.set {w : World} {b : Nat} (h : Plain w b) (pb po : Nat) (u : Value) : Plain (w.setCell ⟨pb, po, none⟩ u) b := by
  obtain ⟨cur, t, h⟩ := h
  obtain ⟨hlt, hk⟩ := Array.getElem?_eq_some_iff.1 h
  by_cases e : b = pb
  · subst e
    refine ⟨cur.setIfInBounds po u, t, ?_⟩
    show (w.heap.modify b _)[b]? = _
    rw [Array.getElem?_eq_getElem (by rw [Array.size_modify]; exact hlt), Array.getElem_modify_self, hk]
    rfl
  · exact ⟨cur, t, (Below.heap_setCell _ _ _ _ e).trans h⟩
theorem Plain.putL {b : Nat} : ∀ (cs : List Value) (b' o j : Nat) (w : World), Plain w b → Plain (putL b' o cs j w) b
  | [], _, _, _, _, h => h
  | _ :: r, b', o, j, w, h => Plain.putL r b' o (j + 1) _ (h.set _ _ _)
def PlainV (w : World) (v : Value) : Prop := ∀ b o n c, v = .slice (some ⟨b, o, none⟩) n c → 0 < n → Plain w b
theorem PlainV.mk {w : World} {b o n c : Nat} (h : Plain w b) : PlainV w (.slice (some ⟨b, o, none⟩) n c) := fun b' o' n' c' e _ => by injection e with e _ _; injection e with e; injection e with e _; subst e; exact h
/-- A list that can be read, whose slice reaches no further than its room; and one that is owned. -/
structure LAtC {α : Type} (n : Nat) (C : World → (Nat → Prop) → List Value → α → Prop) (w : World) (S : Nat → Prop) (v : Value) (l : List α) : Prop where
  at1 : LAt n C w S v l
  cap : CapV v
structure LOwC {α : Type} (n : Nat) (C : World → (Nat → Prop) → List Value → α → Prop) (w : World) (S : Nat → Prop) (v : Value) (l : List α) : Prop where
  own1 : LOw n C w S v l
  cap : CapV v
  plain : PlainV w v
/-- A list that can be read, in a block of plain cells. -/
structure LAtX {α : Type} (n : Nat) (C : World → (Nat → Prop) → List Value → α → Prop) (w : World) (S : Nat → Prop) (v : Value) (l : List α) : Prop where
  at1 : LAt n C w S v l
  cap : CapV v
  plain : PlainV w v
theorem LAt.plain {α : Type} {n : Nat} {C : World → (Nat → Prop) → List Value → α → Prop} {w w' : World} {S T : Nat → Prop} {v : Value} {l : List α} (h : LAt n C w S v l) (hp : PlainV w v) (ht : Turn T w w') (hd : ∀ k, S k → ¬ T k) : PlainV w' v := by
  intro b o m c e hm
  have hp := hp b o m c e hm
  obtain ⟨a, cap, rfl, _, h⟩ := h
  injection e with e1 e2 e3
  rcases h with h | ⟨b', o', h1, h2, h3, _⟩
  · subst h; subst e2; simp at hm
  · rw [h1] at e1; injection e1 with e1; injection e1 with e1 _; subst e1
    exact hp.turn ht (hd _ h3)
theorem LOw.plain {α : Type} {n : Nat} {C : World → (Nat → Prop) → List Value → α → Prop} {w w' : World} {S T : Nat → Prop} {v : Value} {l : List α} (h : LOw n C w S v l) (hp : PlainV w v) (ht : Turn T w w') (hd : ∀ k, S k → ¬ T k) : PlainV w' v := by
  intro b o m c e hm
  have hp := hp b o m c e hm
  obtain ⟨a, cap, rfl, _, h⟩ := h
  injection e with e1 e2 e3
  rcases h with h | ⟨b', o', U, h1, h2, _⟩
  · subst h; subst e2; simp at hm
  · rw [h1] at e1; injection e1 with e1; injection e1 with e1 _; subst e1
    exact hp.turn ht (hd _ h2)
section
variable {α : Type} {n : Nat} {C D : World → (Nat → Prop) → List Value → α → Prop} {w w' : World} {S T : Nat → Prop} {v : Value} {l : List α}
theorem LAtC.turn (hC : Keeps C) (h : LAtC n C w S v l) (ht : Turn T w w') (hd : ∀ k, S k → ¬ T k) : LAtC n C w' S v l := ⟨h.at1.turn hC ht hd, h.cap⟩
theorem LAtC.keep (hC : Keeps C) (h : LAtC n C w S v l) (hb : Below w.heap.size w w') : LAtC n C w' S v l := ⟨h.at1.keep hC hb, h.cap⟩
theorem LAtC.widens (hC : Widens C) (h : LAtC n C w S v l) (hs : ∀ k, S k → T k) : LAtC n C w T v l := ⟨h.at1.widens hC hs, h.cap⟩
theorem LAtC.form (h : LAtC n C w S v l) : ∃ a cap, v = .slice a l.length cap := h.at1.form
theorem LAtC.len (h : LAtC n C w S v l) : l.length ≤ 9223372036854775807 := h.at1.len
theorem LAtC.up (h : LAtC n C w S v l) (hr : ∀ cs x, x ∈ l → C w S cs x → D w S cs x) : LAtC n D w S v l := ⟨h.at1.up hr, h.cap⟩
theorem LOwC.turn (hC : Keeps C) (h : LOwC n C w S v l) (ht : Turn T w w') (hd : ∀ k, S k → ¬ T k) : LOwC n C w' S v l := ⟨h.own1.turn hC ht hd, h.cap, h.own1.plain h.plain ht hd⟩
theorem LOwC.keep (hC : Keeps C) (h : LOwC n C w S v l) (hb : Below w.heap.size w w') : LOwC n C w' S v l := ⟨h.own1.keep hC hb, h.cap, h.own1.plain h.plain (Below.turn hb) none_off⟩
theorem LOwC.widens (h : LOwC n C w S v l) (hs : ∀ k, S k → T k) : LOwC n C w T v l := ⟨h.own1.widens hs, h.cap, h.plain⟩
theorem LOwC.form (h : LOwC n C w S v l) : ∃ a cap, v = .slice a l.length cap := h.own1.form
theorem LOwC.read (hD : Widens D) (hr : ∀ w S cs x, C w S cs x → D w S cs x) (h : LOwC n C w S v l) : LAtC n D w S v l := ⟨h.own1.read hD hr, h.cap⟩
theorem LOwC.up (h : LOwC n C w S v l) (hr : ∀ S cs x, C w S cs x → D w S cs x) : LOwC n D w S v l := ⟨h.own1.up hr, h.cap, h.plain⟩
theorem LOwC.readX (hD : Widens D) (hr : ∀ w S cs x, C w S cs x → D w S cs x) (h : LOwC n C w S v l) : LAtX n D w S v l := ⟨h.own1.read hD hr, h.cap, h.plain⟩
theorem LAtX.turn (hC : Keeps C) (h : LAtX n C w S v l) (ht : Turn T w w') (hd : ∀ k, S k → ¬ T k) : LAtX n C w' S v l := ⟨h.at1.turn hC ht hd, h.cap, h.at1.plain h.plain ht hd⟩
theorem LAtX.keep (hC : Keeps C) (h : LAtX n C w S v l) (hb : Below w.heap.size w w') : LAtX n C w' S v l := h.turn hC (Below.turn hb) none_off
theorem LAtX.widens (hC : Widens C) (h : LAtX n C w S v l) (hs : ∀ k, S k → T k) : LAtX n C w T v l := ⟨h.at1.widens hC hs, h.cap, h.plain⟩
theorem LAtX.form (h : LAtX n C w S v l) : ∃ a cap, v = .slice a l.length cap := h.at1.form
theorem LAtX.len (h : LAtX n C w S v l) : l.length ≤ 9223372036854775807 := h.at1.len
theorem LAtX.up (h : LAtX n C w S v l) (hr : ∀ cs x, x ∈ l → C w S cs x → D w S cs x) : LAtX n D w S v l := ⟨h.at1.up hr, h.cap, h.plain⟩
theorem LAtX.toC (h : LAtX n C w S v l) (hr : ∀ cs x, x ∈ l → C w S cs x → D w S cs x) : LAtC n D w S v l := ⟨h.at1.up hr, h.cap⟩
end
theorem own_putC {α : Type} {n : Nat} {C : World → (Nat → Prop) → List Value → α → Prop} (hC : Keeps C) {wk : World} {lo hi b o : Nat} {cs : List Value} {v : Value} {l : List α} (h : LOwC n C wk (Within lo hi) v l) (hlo : b < lo) : LOwC n C (putL b o cs 0 wk) (Within lo hi) v l :=
  h.turn hC (putL_turn b o cs 0 wk) (fun k hk e => by have h1 := hk.1; have e1 : k = b := e; omega)
theorem rd_putC {α : Type} {n : Nat} {C : World → (Nat → Prop) → List Value → α → Prop} (hC : Keeps C) {wk : World} {lo hi b o : Nat} {cs : List Value} {v : Value} {l : List α} (h : LAtC n C wk (Within lo hi) v l) (hlo : b < lo) : LAtC n C (putL b o cs 0 wk) (Within lo hi) v l :=
  h.turn hC (putL_turn b o cs 0 wk) (fun k hk e => by have h1 := hk.1; have e1 : k = b := e; omega)
theorem rd_setC {α : Type} {n : Nat} {C : World → (Nat → Prop) → List Value → α → Prop} (hC : Keeps C) {wk : World} {lo hi b i : Nat} {u v : Value} {l : List α} (h : LAtC n C wk (Within lo hi) v l) (hlo : b < lo) : LAtC n C (wk.setCell ⟨b, i, none⟩ u) (Within lo hi) v l :=
  h.turn hC (Turn.set wk ⟨b, i, none⟩ u) (fun k hk e => by have h1 := hk.1; have e1 : k = b := e; omega)
structure PolD where
  kind : Int
  n : Int
  key : ByteArray
  text : ByteArray
  l : List PolD
def polBulk : PolD → Nat
  | ⟨_, _, key, text, l⟩ => key.size + text.size + (l.length + (l.map polBulk).sum)
theorem polBulk_eq (x : PolD) : polBulk x = x.key.size + x.text.size + bulkL polBulk x.l := by
  obtain ⟨k, n, key, text, l⟩ := x
  rw [polBulk]
  rfl
def polRd : Nat → World → (Nat → Prop) → List Value → PolD → Prop
  | 0, _, _, _, _ => False
  | d + 1, w, S, cs, x => ∃ s0, cs = [.int .i64 x.kind, .int .i64 x.n, .string x.key, .string x.text, s0] ∧ x.key.size ≤ maxLen ∧ x.text.size ≤ maxLen ∧ LAtC 5 (polRd d) w S s0 x.l
def polOd : Nat → World → (Nat → Prop) → List Value → PolD → Prop
  | 0, _, _, _, _ => False
  | d + 1, w, S, cs, x => ∃ s0, cs = [.int .i64 x.kind, .int .i64 x.n, .string x.key, .string x.text, s0] ∧ x.key.size ≤ maxLen ∧ x.text.size ≤ maxLen ∧ LOwC 5 (polOd d) w S s0 x.l
theorem polRd_keeps : ∀ d, Keeps (polRd d)
  | 0 => fun _ _ _ _ _ _ _ _ h => h
  | d + 1 => by
    intro w w' S T cs x ht hd h
    obtain ⟨s0, e, q0, q1, g0⟩ := h
    exact ⟨s0, e, q0, q1, g0.turn (polRd_keeps d) ht hd⟩
theorem polRd_widens : ∀ d, Widens (polRd d)
  | 0 => fun _ _ _ _ _ _ h => h
  | d + 1 => by
    intro w S T cs x hs h
    obtain ⟨s0, e, q0, q1, g0⟩ := h
    exact ⟨s0, e, q0, q1, g0.widens (polRd_widens d) hs⟩
theorem polOd_keeps : ∀ d, Keeps (polOd d)
  | 0 => fun _ _ _ _ _ _ _ _ h => h
  | d + 1 => by
    intro w w' S T cs x ht hd h
    obtain ⟨s0, e, q0, q1, g0⟩ := h
    exact ⟨s0, e, q0, q1, g0.turn (polOd_keeps d) ht hd⟩
theorem polOd_widens : ∀ d, Widens (polOd d)
  | 0 => fun _ _ _ _ _ _ h => h
  | d + 1 => by
    intro w S T cs x hs h
    obtain ⟨s0, e, q0, q1, g0⟩ := h
    exact ⟨s0, e, q0, q1, g0.widens hs⟩
theorem polOd_read : ∀ d w S cs x, polOd d w S cs x → polRd d w S cs x
  | 0 => fun _ _ _ _ h => h
  | d + 1 => by
    intro w S cs x h
    obtain ⟨s0, e, q0, q1, g0⟩ := h
    exact ⟨s0, e, q0, q1, g0.read (polRd_widens d) (polOd_read d)⟩
theorem polOd_len {d : Nat} {w : World} {S : Nat → Prop} {cs : List Value} {x : PolD} (h : polOd d w S cs x) : cs.length = 5 := by
  cases d with
  | zero => exact h.elim
  | succ d => obtain ⟨s0, rfl, _, _, _⟩ := h; rfl
theorem polRd_up : ∀ d w S cs x, polRd d w S cs x → polRd (d + 1) w S cs x
  | 0 => fun _ _ _ _ h => h.elim
  | d + 1 => by
    intro w S cs x h
    obtain ⟨s0, e, q0, q1, g0⟩ := h
    exact ⟨s0, e, q0, q1, g0.up (fun cs x _ h => polRd_up d w S cs x h)⟩
theorem polRd_le {d e : Nat} (h : d ≤ e) {w : World} {S : Nat → Prop} {cs : List Value} {x : PolD} (hx : polRd d w S cs x) : polRd e w S cs x := by
  induction h with
  | refl => exact hx
  | step _ ih => exact polRd_up _ _ _ _ _ ih
/-- A rule, of whatever depth. -/
def polR (w : World) (S : Nat → Prop) (cs : List Value) (x : PolD) : Prop := ∃ d, polRd d w S cs x
def polO (w : World) (S : Nat → Prop) (cs : List Value) (x : PolD) : Prop := ∃ d, polOd d w S cs x
theorem polR_keeps : Keeps polR := fun w w' S T cs x ht hd ⟨d, h⟩ => ⟨d, polRd_keeps d w w' S T cs x ht hd h⟩
theorem polR_widens : Widens polR := fun w S T cs x hs ⟨d, h⟩ => ⟨d, polRd_widens d w S T cs x hs h⟩
theorem polO_keeps : Keeps polO := fun w w' S T cs x ht hd ⟨d, h⟩ => ⟨d, polOd_keeps d w w' S T cs x ht hd h⟩
theorem polO_widens : Widens polO := fun w S T cs x hs ⟨d, h⟩ => ⟨d, polOd_widens d w S T cs x hs h⟩
theorem polO_read (w : World) (S : Nat → Prop) (cs : List Value) (x : PolD) (h : polO w S cs x) : polR w S cs x := by
  obtain ⟨d, h⟩ := h; exact ⟨d, polOd_read d w S cs x h⟩
theorem polO_len {w : World} {S : Nat → Prop} {cs : List Value} {x : PolD} (h : polO w S cs x) : cs.length = 5 := by
  obtain ⟨d, h⟩ := h; exact polOd_len h
/-- A list of rules has a depth. -/
theorem pols_depth {w : World} {S : Nat → Prop} {v : Value} {l : List PolD} (h : LAt 5 polR w S v l) : ∃ d, LAt 5 (polRd d) w S v l := by
  obtain ⟨a, cap, rfl, hl, h⟩ := h
  rcases h with rfl | ⟨b, o, h1, h2, h3, h4⟩
  · exact ⟨0, a, cap, rfl, hl, .inl rfl⟩
  · have key : ∀ n, ∃ d, ∀ (i : Nat) (x : PolD), i < n → l[i]? = some x → ∃ cs, polRd d w S cs x ∧ InB w b (o + i * 5) cs := by
      intro n
      induction n with
      | zero => exact ⟨0, fun i x hi _ => absurd hi (Nat.not_lt_zero _)⟩
      | succ n ih =>
        obtain ⟨d, hd⟩ := ih
        by_cases hn : n < l.length
        · obtain ⟨cs, ⟨e, he⟩, hin⟩ := h4 n l[n] (List.getElem?_eq_getElem hn)
          refine ⟨max d e, fun i x hi hx => ?_⟩
          by_cases hin2 : i = n
          · subst hin2
            rw [List.getElem?_eq_getElem hn, Option.some.injEq] at hx
            subst hx
            exact ⟨cs, polRd_le (Nat.le_max_right _ _) he, hin⟩
          · obtain ⟨cs', g1, g2⟩ := hd i x (by omega) hx
            exact ⟨cs', polRd_le (Nat.le_max_left _ _) g1, g2⟩
        · refine ⟨d, fun i x hi hx => hd i x ?_ hx⟩
          have := (List.getElem?_eq_some_iff.1 hx).1
          omega
    obtain ⟨d, hd⟩ := key l.length
    exact ⟨d, a, cap, rfl, hl, .inr ⟨b, o, h1, h2, h3, fun i x hx => hd i x (List.getElem?_eq_some_iff.1 hx).1 hx⟩⟩
theorem pols_own {d : Nat} {w : World} {S : Nat → Prop} {v : Value} {l : List PolD} (h : LOwC 5 (polOd d) w S v l) : LOwC 5 polO w S v l := h.up (fun _ _ _ h => ⟨d, h⟩)
theorem pols_read {d : Nat} {w : World} {S : Nat → Prop} {v : Value} {l : List PolD} (h : LAtC 5 (polRd d) w S v l) : LAtC 5 polR w S v l := h.up (fun _ _ _ h => ⟨d, h⟩)
/-- What a rule's cells are. -/
theorem polR_open {w : World} {S : Nat → Prop} {cs : List Value} {x : PolD} : polR w S cs x ↔ ∃ s0, cs = [.int .i64 x.kind, .int .i64 x.n, .string x.key, .string x.text, s0] ∧ x.key.size ≤ maxLen ∧ x.text.size ≤ maxLen ∧ LAtC 5 polR w S s0 x.l := by
  constructor
  · rintro ⟨d, h⟩
    cases d with
    | zero => exact h.elim
    | succ d => obtain ⟨s0, e, q0, q1, g⟩ := h; exact ⟨s0, e, q0, q1, pols_read g⟩
  · rintro ⟨s0, e, q0, q1, g⟩
    obtain ⟨d, g'⟩ := pols_depth g.at1
    exact ⟨d + 1, s0, e, q0, q1, g', g.cap⟩
theorem polO_open {w : World} {S : Nat → Prop} {cs : List Value} {x : PolD} (h : polO w S cs x) : ∃ s0, cs = [.int .i64 x.kind, .int .i64 x.n, .string x.key, .string x.text, s0] ∧ x.key.size ≤ maxLen ∧ x.text.size ≤ maxLen ∧ LOwC 5 polO w S s0 x.l := by
  obtain ⟨d, h⟩ := h
  cases d with
  | zero => exact h.elim
  | succ d => obtain ⟨s0, e, q0, q1, g⟩ := h; exact ⟨s0, e, q0, q1, pols_own g⟩
def polXd : Nat → World → (Nat → Prop) → List Value → PolD → Prop
  | 0, _, _, _, _ => False
  | d + 1, w, S, cs, x => ∃ s0, cs = [.int .i64 x.kind, .int .i64 x.n, .string x.key, .string x.text, s0] ∧ x.key.size ≤ maxLen ∧ x.text.size ≤ maxLen ∧ LAtX 5 (polXd d) w S s0 x.l
theorem polXd_keeps : ∀ d, Keeps (polXd d)
  | 0 => fun _ _ _ _ _ _ _ _ h => h
  | d + 1 => by
    intro w w' S T cs x ht hd h
    obtain ⟨s0, e, q0, q1, g0⟩ := h
    exact ⟨s0, e, q0, q1, g0.turn (polXd_keeps d) ht hd⟩
theorem polXd_widens : ∀ d, Widens (polXd d)
  | 0 => fun _ _ _ _ _ _ h => h
  | d + 1 => by
    intro w S T cs x hs h
    obtain ⟨s0, e, q0, q1, g0⟩ := h
    exact ⟨s0, e, q0, q1, g0.widens (polXd_widens d) hs⟩
theorem polXd_up : ∀ d w S cs x, polXd d w S cs x → polXd (d + 1) w S cs x
  | 0 => fun _ _ _ _ h => h.elim
  | d + 1 => by
    intro w S cs x h
    obtain ⟨s0, e, q0, q1, g0⟩ := h
    exact ⟨s0, e, q0, q1, g0.up (fun cs x _ h => polXd_up d w S cs x h)⟩
theorem polXd_le {d e : Nat} (h : d ≤ e) {w : World} {S : Nat → Prop} {cs : List Value} {x : PolD} (hx : polXd d w S cs x) : polXd e w S cs x := by
  induction h with
  | refl => exact hx
  | step _ ih => exact polXd_up _ _ _ _ _ ih
theorem polXd_read : ∀ d w S cs x, polXd d w S cs x → polRd d w S cs x
  | 0 => fun _ _ _ _ h => h
  | d + 1 => by
    intro w S cs x h
    obtain ⟨s0, e, q0, q1, g0⟩ := h
    exact ⟨s0, e, q0, q1, g0.toC (fun cs x _ h => polXd_read d w S cs x h)⟩
theorem polOd_X : ∀ d w S cs x, polOd d w S cs x → polXd d w S cs x
  | 0 => fun _ _ _ _ h => h
  | d + 1 => by
    intro w S cs x h
    obtain ⟨s0, e, q0, q1, g0⟩ := h
    exact ⟨s0, e, q0, q1, g0.readX (polXd_widens d) (polOd_X d)⟩
/-- A rule that lies in blocks of plain cells. -/
def polX (w : World) (S : Nat → Prop) (cs : List Value) (x : PolD) : Prop := ∃ d, polXd d w S cs x
theorem polX_keeps : Keeps polX := fun w w' S T cs x ht hd ⟨d, h⟩ => ⟨d, polXd_keeps d w w' S T cs x ht hd h⟩
theorem polX_widens : Widens polX := fun w S T cs x hs ⟨d, h⟩ => ⟨d, polXd_widens d w S T cs x hs h⟩
theorem polX_read (w : World) (S : Nat → Prop) (cs : List Value) (x : PolD) (h : polX w S cs x) : polR w S cs x := by
  obtain ⟨d, h⟩ := h; exact ⟨d, polXd_read d w S cs x h⟩
theorem polO_X (w : World) (S : Nat → Prop) (cs : List Value) (x : PolD) (h : polO w S cs x) : polX w S cs x := by
  obtain ⟨d, h⟩ := h; exact ⟨d, polOd_X d w S cs x h⟩
theorem polX_open {w : World} {S : Nat → Prop} {cs : List Value} {x : PolD} (h : polX w S cs x) : ∃ s0, cs = [.int .i64 x.kind, .int .i64 x.n, .string x.key, .string x.text, s0] ∧ x.key.size ≤ maxLen ∧ x.text.size ≤ maxLen ∧ LAtX 5 polX w S s0 x.l := by
  obtain ⟨d, h⟩ := h
  cases d with
  | zero => exact h.elim
  | succ d => obtain ⟨s0, e, q0, q1, g⟩ := h; exact ⟨s0, e, q0, q1, g.up (fun _ _ _ h => ⟨d, h⟩)⟩
end Go.Proofs.Ytlhjhnjpmafceaa
