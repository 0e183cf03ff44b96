/-
  Conf: a set-up whose rules lie in blocks of plain cells.
-/
import Derived.Test.YtlhjhnjpmafceaaAConf
import Derived.Test.YtlhjhnjpmafceaaWk5
namespace Go.Proofs.Ytlhjhnjpmafceaa
open Go.ChangeShapes Go.WideShapes Go.ChangeAt Go.RowKit
set_option linter.unusedVariables false
set_option maxRecDepth 100000

def confX (w : World) (S : Nat → Prop) (cs : List Value) (x : ConfD) : Prop := ∃ s0, cs = [.int .i64 x.stripes, .int .i64 x.wait, .int .i64 x.budget, .int .i64 x.cache, .int .i64 x.queue, .int .i64 x.rate, .int .i64 x.burst, .int .i64 x.rule.kind, .int .i64 x.rule.n, .string x.rule.key, .string x.rule.text, s0] ∧ x.rule.key.size ≤ maxLen ∧ x.rule.text.size ≤ maxLen ∧ LAtX 5 polX w S s0 x.rule.l
theorem confX_keeps : Keeps confX := by
  intro w w' S T cs x ht hd h
  obtain ⟨s0, e, q0, q1, g0⟩ := h
  exact ⟨s0, e, q0, q1, g0.turn polX_keeps ht hd⟩
theorem confX_read (w : World) (S : Nat → Prop) (cs : List Value) (x : ConfD) (h : confX w S cs x) : confR w S cs x := by
  obtain ⟨s0, e, q0, q1, g0⟩ := h
  exact ⟨s0, e, q0, q1, g0.toC (fun cs y _ h => polX_read _ _ _ _ h)⟩
theorem confO_X (w : World) (S : Nat → Prop) (cs : List Value) (x : ConfD) (h : confO w S cs x) : confX w S cs x := by
  obtain ⟨s0, e, q0, q1, g0⟩ := h
  exact ⟨s0, e, q0, q1, g0.readX polX_widens polO_X⟩
theorem confX_len {w : World} {S : Nat → Prop} {cs : List Value} {x : ConfD} (h : confX w S cs x) : cs.length = 12 := confR_len (confX_read _ _ _ _ h)
theorem confX_one {w : World} {S : Nat → Prop} {cs : List Value} {x : ConfD} (h : confX w S cs x) : One cs := confR_one (confX_read _ _ _ _ h)
theorem polX_mk {w : World} {S : Nat → Prop} {s0 : Value} {x : PolD} (q0 : x.key.size ≤ maxLen) (q1 : x.text.size ≤ maxLen) (g : LAtX 5 polX w S s0 x.l) : polX w S [.int .i64 x.kind, .int .i64 x.n, .string x.key, .string x.text, s0] x := by
  obtain ⟨a, cap, rfl⟩ := g.form
  have : ∃ d, LAtX 5 (polXd d) w S (.slice a x.l.length cap) x.l := by
    obtain ⟨a', cap', e, hl, h⟩ := g.at1
    injection e with e1 _ e3
    subst e1
    subst e3
    rcases h with h | ⟨b, o, h1, h2, h3, h4⟩
    · exact ⟨0, ⟨a, cap, rfl, hl, .inl h⟩, g.cap, g.plain⟩
    · have key : ∀ n, ∃ d, ∀ (i : Nat) (y : PolD), i < n → x.l[i]? = some y → ∃ cs, polXd d w S cs y ∧ InB w b (o + i * 5) cs := by
        intro n
        induction n with
        | zero => exact ⟨0, fun i x hi _ => absurd hi (Nat.not_lt_zero _)⟩
        | succ n ih =>
          obtain ⟨d, hd⟩ := ih
          by_cases hn : n < x.l.length
          · obtain ⟨cs, ⟨e, he⟩, hin⟩ := h4 n x.l[n] (List.getElem?_eq_getElem hn)
            refine ⟨max d e, fun i y hi hx => ?_⟩
            by_cases hin2 : i = n
            · subst hin2
              rw [List.getElem?_eq_getElem hn, Option.some.injEq] at hx
              subst hx
              exact ⟨cs, polXd_le (Nat.le_max_right _ _) he, hin⟩
            · obtain ⟨cs', g1, g2⟩ := hd i y (by omega) hx
              exact ⟨cs', polXd_le (Nat.le_max_left _ _) g1, g2⟩
          · refine ⟨d, fun i y hi hx => hd i y ?_ hx⟩
            have := (List.getElem?_eq_some_iff.1 hx).1
            omega
      obtain ⟨d, hd⟩ := key x.l.length
      exact ⟨d, ⟨a, cap, rfl, hl, .inr ⟨b, o, h1, h2, h3, fun i y hy => hd i y (List.getElem?_eq_some_iff.1 hy).1 hy⟩⟩, g.cap, g.plain⟩
  obtain ⟨d, hd⟩ := this
  exact ⟨d + 1, _, rfl, q0, q1, hd⟩
theorem confX_sub {w : World} {S : Nat → Prop} {cs : List Value} {x : ConfD} (h : confX w S cs x) : ∃ c', polX w S c' x.rule ∧ (cs.drop 7).take c'.length = c' := by
  obtain ⟨s0, rfl, q0, q1, g0⟩ := h
  exact ⟨_, polX_mk q0 q1 g0, rfl⟩
end Go.Proofs.Ytlhjhnjpmafceaa
