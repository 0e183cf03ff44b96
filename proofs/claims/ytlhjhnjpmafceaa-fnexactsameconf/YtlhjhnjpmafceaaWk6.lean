/-
  What rules have beside those in them tells them; two of them compared; the walk's step, as its two outcomes.
-/
import Derived.Test.YtlhjhnjpmafceaaWk5
namespace Go.Proofs.Ytlhjhnjpmafceaa
open Go.ChangeShapes Go.WideShapes Go.ChangeAt Go.RowKit
set_option linter.unusedVariables false
set_option maxRecDepth 100000

def basB (b c : BasD) : Bool := decide (b.kind = c.kind ∧ b.n = c.n ∧ b.key = c.key ∧ b.text = c.text ∧ b.rules = c.rules)
theorem basB_iff (b c : BasD) : basB b c = true ↔ b = c := by
  obtain ⟨b1, b2, b3, b4, b5⟩ := b
  obtain ⟨c1, c2, c3, c4, c5⟩ := c
  simp [basB]
theorem pres_inj : ∀ (n : Nat) (l m : List PolD) (r r' : List BasD), (polPres l).length ≤ n → l.length = m.length → (polPres l).map basD ++ r = (polPres m).map basD ++ r' → l = m ∧ r = r'
  | n, [], [], r, r', _, _, h => ⟨rfl, by simpa [polPres] using h⟩
  | n, x :: l, [], _, _, _, h, _ => by simp at h
  | n, [], y :: m, _, _, _, h, _ => by simp at h
  | 0, x :: l, y :: m, r, r', h0, _, _ => by rw [polPres_cons, polPre_eq] at h0; simp at h0
  | n + 1, x :: l, y :: m, r, r', h0, hl, h => by
    rw [polPres_cons, polPre_eq x] at h0 h
    rw [polPres_cons, polPre_eq y] at h
    simp only [List.cons_append, List.map_cons, List.map_append, List.append_assoc, List.length_cons, List.length_append] at h0 h
    injection h with h1 h2
    obtain ⟨xk, xn, xy, xt, xl⟩ := x
    obtain ⟨yk, yn, yy, yt, yl⟩ := y
    simp only [basD, BasD.mk.injEq] at h1
    obtain ⟨rfl, rfl, rfl, rfl, h5⟩ := h1
    obtain ⟨e1, h3⟩ := pres_inj n xl yl _ _ (by simp at h0; omega) (by omega) h2
    subst e1
    obtain ⟨e2, h4⟩ := pres_inj n l m r r' (by simp at h0; omega) (by simpa using hl) h3
    subst e2
    exact ⟨rfl, h4⟩
theorem pre_inj (x y : PolD) : (polPre x).map basD = (polPre y).map basD ↔ x = y := by
  constructor
  · intro h
    have h2 : (polPres [x]).map basD ++ [] = (polPres [y]).map basD ++ [] := by simpa [polPres] using h
    obtain ⟨e, _⟩ := pres_inj _ [x] [y] [] [] (Nat.le_refl _) rfl h2
    simpa using e
  · rintro rfl; rfl
theorem bytes_ne {a b : ByteArray} (h : ¬ a = b) : ¬ a.toList = b.toList := fun e => h (ByteArray.ext (Array.toList_inj.mp (by rw [ByteArray.toList_eq, ByteArray.toList_eq] at e; exact e)))
theorem eqBas (b c : BasD) (w : World) : (Op.equalIn 10000 57 (.agg (basC b).toArray) (.agg (basC c).toArray)).run Try.prog w = .ok (basB b c) w := by
  unfold basC basB
  obtain ⟨b1, b2, b3, b4, b5⟩ := b
  obtain ⟨c1, c2, c3, c4, c5⟩ := c
  dsimp only
  by_cases h1 : b1 = c1
  case neg => go_simp
  subst h1
  by_cases h2 : b2 = c2
  case neg => go_simp
  subst h2
  by_cases h3 : b3 = c3
  case neg => have h3' := bytes_ne h3; go_simp
  subst h3
  by_cases h4 : b4 = c4
  case neg => have h4' := bytes_ne h4; go_simp
  subst h4
  by_cases h5 : b5 = c5
  case neg => go_simp
  subst h5
  go_simp
theorem implNextEnd {w : World} {S T : Nat → Prop} {B : Nat} {st : List (List PolD)} {b : BasD} (h : WalkS (60, 27) w S T B st b) (h0 : leftS st = []) :
    Calls Try.prog 33 #[.pointer (some ⟨B, 0, none⟩)] w fun e w' => e = .returned (.bool false) ∧ Turn T w w' := by
  refine (implNext h).mono ?_
  rintro e w' ⟨ht, ⟨_, he⟩ | ⟨x, r, st', h1, _⟩⟩
  · exact ⟨he, ht⟩
  · rw [h0] at h1; cases h1
theorem implNextGo {w : World} {S T : Nat → Prop} {B : Nat} {st : List (List PolD)} {b : BasD} {y : PolD} {r : List PolD} (h : WalkS (60, 27) w S T B st b) (h0 : leftS st = y :: r) :
    Calls Try.prog 33 #[.pointer (some ⟨B, 0, none⟩)] w fun e w' => e = .returned (.bool true) ∧ Turn T w w' ∧ ∃ st', leftS st' = r ∧ WalkS (60, 27) w' S (Grown1 T w w') B st' (basD y) := by
  refine (implNext h).mono ?_
  rintro e w' ⟨ht, ⟨h1, _⟩ | ⟨x, r', st', h1, he, h2, h3⟩⟩
  · rw [h0] at h1; cases h1
  · rw [h0] at h1
    injection h1 with h4 h5
    subst h4
    subst h5
    exact ⟨he, ht, st', h2, h3⟩
end Go.Proofs.Ytlhjhnjpmafceaa
