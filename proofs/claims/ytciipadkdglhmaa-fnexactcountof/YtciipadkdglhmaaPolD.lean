/-
  Pol: rules in rules, as they lie in memory, however deep.
-/
import Derived.Test.YtciipadkdglhmaaMem
import Derived.Test.YtciipadkdglhmaaAbs
namespace Go.Proofs.Ytciipadkdglhmaa
open Go.ChangeShapes Go.WideShapes Go.ChangeAt Go.RowKit
set_option linter.unusedVariables false
set_option maxRecDepth 100000

structure PolD where
  kind : Int
  n : Int
  key : ByteArray
  text : ByteArray
  l : List PolD
def polBulk : PolD → Nat
  | ⟨_, _, key, text, l⟩ => key.size + text.size + (l.length + (l.map polBulk).sum)
theorem polBulk_eq (x : PolD) : polBulk x = x.key.size + x.text.size + bulkL polBulk x.l := by
  obtain ⟨k, n, key, text, l⟩ := x
  rw [polBulk]
  rfl
def polRd : Nat → World → (Nat → Prop) → List Value → PolD → Prop
  | 0, _, _, _, _ => False
  | d + 1, w, S, cs, x => ∃ s0, cs = [.int .i64 x.kind, .int .i64 x.n, .string x.key, .string x.text, s0] ∧ x.key.size ≤ maxLen ∧ x.text.size ≤ maxLen ∧ LAt 5 (polRd d) w S s0 x.l
def polOd : Nat → World → (Nat → Prop) → List Value → PolD → Prop
  | 0, _, _, _, _ => False
  | d + 1, w, S, cs, x => ∃ s0, cs = [.int .i64 x.kind, .int .i64 x.n, .string x.key, .string x.text, s0] ∧ x.key.size ≤ maxLen ∧ x.text.size ≤ maxLen ∧ LOw 5 (polOd d) w S s0 x.l
theorem polRd_keeps : ∀ d, Keeps (polRd d)
  | 0 => fun _ _ _ _ _ _ _ _ h => h
  | d + 1 => by
    intro w w' S T cs x ht hd h
    obtain ⟨s0, e, q0, q1, g0⟩ := h
    exact ⟨s0, e, q0, q1, g0.turn (polRd_keeps d) ht hd⟩
theorem polRd_widens : ∀ d, Widens (polRd d)
  | 0 => fun _ _ _ _ _ _ h => h
  | d + 1 => by
    intro w S T cs x hs h
    obtain ⟨s0, e, q0, q1, g0⟩ := h
    exact ⟨s0, e, q0, q1, g0.widens (polRd_widens d) hs⟩
theorem polOd_keeps : ∀ d, Keeps (polOd d)
  | 0 => fun _ _ _ _ _ _ _ _ h => h
  | d + 1 => by
    intro w w' S T cs x ht hd h
    obtain ⟨s0, e, q0, q1, g0⟩ := h
    exact ⟨s0, e, q0, q1, g0.turn (polOd_keeps d) ht hd⟩
theorem polOd_widens : ∀ d, Widens (polOd d)
  | 0 => fun _ _ _ _ _ _ h => h
  | d + 1 => by
    intro w S T cs x hs h
    obtain ⟨s0, e, q0, q1, g0⟩ := h
    exact ⟨s0, e, q0, q1, g0.widens hs⟩
theorem polOd_read : ∀ d w S cs x, polOd d w S cs x → polRd d w S cs x
  | 0 => fun _ _ _ _ h => h
  | d + 1 => by
    intro w S cs x h
    obtain ⟨s0, e, q0, q1, g0⟩ := h
    exact ⟨s0, e, q0, q1, g0.read (polRd_widens d) (polOd_read d)⟩
theorem polOd_len {d : Nat} {w : World} {S : Nat → Prop} {cs : List Value} {x : PolD} (h : polOd d w S cs x) : cs.length = 5 := by
  cases d with
  | zero => exact h.elim
  | succ d => obtain ⟨s0, rfl, _, _, _⟩ := h; rfl
theorem LAt.up {α : Type} {n : Nat} {C D : World → (Nat → Prop) → List Value → α → Prop} {w : World} {S : Nat → Prop} {v : Value} {l : List α} (h : LAt n C w S v l) (hr : ∀ cs x, x ∈ l → C w S cs x → D w S cs x) : LAt n D w S v l := by
  obtain ⟨a, cap, rfl, hl, h⟩ := h
  refine ⟨a, cap, rfl, hl, ?_⟩
  rcases h with h | ⟨b, o, h1, h2, h3, h4⟩
  · exact .inl h
  · refine .inr ⟨b, o, h1, h2, h3, fun i x hx => ?_⟩
    obtain ⟨cs, hcs, hin⟩ := h4 i x hx
    exact ⟨cs, hr cs x (List.mem_of_getElem? hx) hcs, hin⟩
theorem polRd_up : ∀ d w S cs x, polRd d w S cs x → polRd (d + 1) w S cs x
  | 0 => fun _ _ _ _ h => h.elim
  | d + 1 => by
    intro w S cs x h
    obtain ⟨s0, e, q0, q1, g0⟩ := h
    exact ⟨s0, e, q0, q1, g0.up (fun cs x _ h => polRd_up d w S cs x h)⟩
theorem polRd_le {d e : Nat} (h : d ≤ e) {w : World} {S : Nat → Prop} {cs : List Value} {x : PolD} (hx : polRd d w S cs x) : polRd e w S cs x := by
  induction h with
  | refl => exact hx
  | step _ ih => exact polRd_up _ _ _ _ _ ih
/-- A rule, of whatever depth. -/
def polR (w : World) (S : Nat → Prop) (cs : List Value) (x : PolD) : Prop := ∃ d, polRd d w S cs x
def polO (w : World) (S : Nat → Prop) (cs : List Value) (x : PolD) : Prop := ∃ d, polOd d w S cs x
theorem polR_keeps : Keeps polR := fun w w' S T cs x ht hd ⟨d, h⟩ => ⟨d, polRd_keeps d w w' S T cs x ht hd h⟩
theorem polR_widens : Widens polR := fun w S T cs x hs ⟨d, h⟩ => ⟨d, polRd_widens d w S T cs x hs h⟩
theorem polO_keeps : Keeps polO := fun w w' S T cs x ht hd ⟨d, h⟩ => ⟨d, polOd_keeps d w w' S T cs x ht hd h⟩
theorem polO_widens : Widens polO := fun w S T cs x hs ⟨d, h⟩ => ⟨d, polOd_widens d w S T cs x hs h⟩
theorem polO_read (w : World) (S : Nat → Prop) (cs : List Value) (x : PolD) (h : polO w S cs x) : polR w S cs x := by
  obtain ⟨d, h⟩ := h; exact ⟨d, polOd_read d w S cs x h⟩
theorem polO_len {w : World} {S : Nat → Prop} {cs : List Value} {x : PolD} (h : polO w S cs x) : cs.length = 5 := by
  obtain ⟨d, h⟩ := h; exact polOd_len h
/-- A list of rules has a depth. -/
theorem pols_depth {w : World} {S : Nat → Prop} {v : Value} {l : List PolD} (h : LAt 5 polR w S v l) : ∃ d, LAt 5 (polRd d) w S v l := by
  obtain ⟨a, cap, rfl, hl, h⟩ := h
  rcases h with rfl | ⟨b, o, h1, h2, h3, h4⟩
  · exact ⟨0, a, cap, rfl, hl, .inl rfl⟩
  · have key : ∀ n, ∃ d, ∀ (i : Nat) (x : PolD), i < n → l[i]? = some x → ∃ cs, polRd d w S cs x ∧ InB w b (o + i * 5) cs := by
      intro n
      induction n with
      | zero => exact ⟨0, fun i x hi _ => absurd hi (Nat.not_lt_zero _)⟩
      | succ n ih =>
        obtain ⟨d, hd⟩ := ih
        by_cases hn : n < l.length
        · obtain ⟨cs, ⟨e, he⟩, hin⟩ := h4 n l[n] (List.getElem?_eq_getElem hn)
          refine ⟨max d e, fun i x hi hx => ?_⟩
          by_cases hin2 : i = n
          · subst hin2
            rw [List.getElem?_eq_getElem hn, Option.some.injEq] at hx
            subst hx
            exact ⟨cs, polRd_le (Nat.le_max_right _ _) he, hin⟩
          · obtain ⟨cs', g1, g2⟩ := hd i x (by omega) hx
            exact ⟨cs', polRd_le (Nat.le_max_left _ _) g1, g2⟩
        · refine ⟨d, fun i x hi hx => hd i x ?_ hx⟩
          have := (List.getElem?_eq_some_iff.1 hx).1
          omega
    obtain ⟨d, hd⟩ := key l.length
    exact ⟨d, a, cap, rfl, hl, .inr ⟨b, o, h1, h2, h3, fun i x hx => hd i x (List.getElem?_eq_some_iff.1 hx).1 hx⟩⟩
theorem LOw.up {α : Type} {n : Nat} {C D : World → (Nat → Prop) → List Value → α → Prop} {w : World} {S : Nat → Prop} {v : Value} {l : List α} (h : LOw n C w S v l) (hr : ∀ S cs x, C w S cs x → D w S cs x) : LOw n D w S v l := by
  obtain ⟨a, cap, rfl, hl, h⟩ := h
  refine ⟨a, cap, rfl, hl, ?_⟩
  rcases h with h | ⟨b, o, T, h1, h2, h3, h4, h5, h6⟩
  · exact .inl h
  · refine .inr ⟨b, o, T, h1, h2, h3, h4, h5, fun i x hx => ?_⟩
    obtain ⟨cs, hcs, hin⟩ := h6 i x hx
    exact ⟨cs, hr _ cs x hcs, hin⟩
theorem pols_own {d : Nat} {w : World} {S : Nat → Prop} {v : Value} {l : List PolD} (h : LOw 5 (polOd d) w S v l) : LOw 5 polO w S v l := h.up (fun _ _ _ h => ⟨d, h⟩)
theorem pols_read {d : Nat} {w : World} {S : Nat → Prop} {v : Value} {l : List PolD} (h : LAt 5 (polRd d) w S v l) : LAt 5 polR w S v l := h.up (fun _ _ _ h => ⟨d, h⟩)
/-- What a rule's cells are. -/
theorem polR_open {w : World} {S : Nat → Prop} {cs : List Value} {x : PolD} : polR w S cs x ↔ ∃ s0, cs = [.int .i64 x.kind, .int .i64 x.n, .string x.key, .string x.text, s0] ∧ x.key.size ≤ maxLen ∧ x.text.size ≤ maxLen ∧ LAt 5 polR w S s0 x.l := by
  constructor
  · rintro ⟨d, h⟩
    cases d with
    | zero => exact h.elim
    | succ d => obtain ⟨s0, e, q0, q1, g⟩ := h; exact ⟨s0, e, q0, q1, pols_read g⟩
  · rintro ⟨s0, e, q0, q1, g⟩
    obtain ⟨d, g⟩ := pols_depth g
    exact ⟨d + 1, s0, e, q0, q1, g⟩
theorem polO_open {w : World} {S : Nat → Prop} {cs : List Value} {x : PolD} (h : polO w S cs x) : ∃ s0, cs = [.int .i64 x.kind, .int .i64 x.n, .string x.key, .string x.text, s0] ∧ x.key.size ≤ maxLen ∧ x.text.size ≤ maxLen ∧ LOw 5 polO w S s0 x.l := by
  obtain ⟨d, h⟩ := h
  cases d with
  | zero => exact h.elim
  | succ d => obtain ⟨s0, e, q0, q1, g⟩ := h; exact ⟨s0, e, q0, q1, pols_own g⟩
end Go.Proofs.Ytciipadkdglhmaa
