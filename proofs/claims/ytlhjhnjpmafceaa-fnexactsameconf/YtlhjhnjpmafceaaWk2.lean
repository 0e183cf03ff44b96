/-
  A rule that is gone through is in none around it.
-/
import Derived.Test.YtlhjhnjpmafceaaWk1
import Derived.Deep.QuietTactic
import Derived.BigQuiet
import Derived.LaidEql
namespace Go.Proofs.Ytlhjhnjpmafceaa
open Go.ChangeShapes Go.WideShapes Go.ChangeAt Go.RowKit
set_option linter.unusedVariables false
set_option maxRecDepth 100000

theorem LAtX.ptr1 {α : Type} {n : Nat} {C : World → (Nat → Prop) → List Value → α → Prop} {w : World} {S : Nat → Prop} {v : Value} {x : α} {t : List α} (h : LAtX n C w S v (x :: t)) : ∃ b o cap cs, v = .slice (some ⟨b, o, none⟩) (t.length + 1) cap ∧ t.length + 1 ≤ cap ∧ Plain w b ∧ b < w.heap.size ∧ S b ∧ C w S cs x ∧ InB w b o cs := by
  obtain ⟨a, cap, rfl⟩ := h.form
  obtain ⟨b, o, cs, rfl, hb, hS, hc, hi⟩ := h.at1.at 0 (by simp)
  exact ⟨b, o, cap, cs, rfl, h.cap.le, h.plain _ _ _ _ rfl (by simp), hb, hS, hc, by simpa using hi⟩
section
variable {P : TypeId × TypeId} {w w' : World} {S T U : Nat → Prop} {B g cap : Nat} {cur : Array Value} {us : List Value} {b : BasD}
theorem WalkX.apart {x : PolD} {t : List PolD} {st : List (List PolD)} (h : WalkX P w S T B g cap cur us ((x :: t) :: st) b) {b0 o0 c0 : Nat} {u : Value} {us' : List Value} (hu : us = u :: us') (hv : u = .slice (some ⟨b0, o0, none⟩) (t.length + 1) c0)
    (j : Nat) (hj : j < us'.length) : ∃ b1 o1 n1 c1, us'[j] = .slice (some ⟨b1, o1, none⟩) (n1 + 1) c1 ∧ Plain w b1 ∧ ¬ (b0 = b1 ∧ o0 = o1) := by
  subst hu
  have hl := h.stk.len
  simp at hl
  obtain ⟨y, s, e, hlt⟩ := chain_heads st x t h.chain j (by omega)
  have h0 := h.stk.1
  have h1 := h.stk.2.at j hj (by omega)
  rw [e] at h1
  obtain ⟨b1, o1, c1, cs1, e1, _, p1, _, _, r1, i1⟩ := h1.ptr1
  obtain ⟨b2, o2, c2, cs2, e2, _, p2, _, _, r2, i2⟩ := h0.ptr1
  rw [hv] at e2
  injection e2 with e3 _ _
  injection e3 with e3
  injection e3 with e4 e5
  subst e4
  subst e5
  refine ⟨b1, o1, s.length, c1, e1, p1, ?_⟩
  rintro ⟨rfl, rfl⟩
  obtain ⟨d1, r1⟩ := polX_read _ _ _ _ r1
  obtain ⟨d2, r2⟩ := polX_read _ _ _ _ r2
  have := polRd_one_at d2 d1 w S S _ _ cs2 cs1 x y r2 r1 i2 i1
  subst this
  omega
end
theorem eqPtrs (w : World) (b o b' o' : Nat) (h1 : Plain w b) (h2 : Plain w b') (h : ¬ (b = b' ∧ o = o')) : (binOp .eql 110 (.pointer (some ⟨b, o, none⟩)) (.pointer (some ⟨b', o', none⟩))).run Try.prog w = .ok (.bool false) w := by
  obtain ⟨c, t, h1⟩ := h1
  obtain ⟨c', t', h2⟩ := h2
  have hu := Try.underlying110
  have hte : Try.prog.info? 29 = Try.prog.types[29]? := rfl
  obtain ⟨i, hi, hs⟩ : ∃ i, Try.prog.info? 29 = some i ∧ i.size = 5 := by
    have e : (Try.prog.info? 29).map (·.size) = some 5 := by kernel_rfl
    obtain ⟨i, hi, hs⟩ := Option.map_eq_some_iff.1 e
    exact ⟨i, hi, hs⟩
  have hne : (⟨b, o, none⟩ : Addr) ≠ ⟨b', o', none⟩ := fun e => by injection e with e1 e2; exact h ⟨e1, e2⟩
  have hsm := run_sameAddr_other (P := Try.prog) w hne h1 h2
  simp only [binOp]
  unfold Op.equal Op.maxDepth
  rw [show (10000 : Nat) = 9999 + 1 from rfl]
  unfold Op.equalIn
  simp [run_underlying hu, sizeOf, typeInfo, hi, hs, hsm]
set_option maxHeartbeats 2000000 in
theorem implInItself {w : World} {S T : Nat → Prop} {B g cap : Nat} {cur : Array Value} {us : List Value} {st : List (List PolD)} {b : BasD} (h : WalkX (60, 27) w S T B g cap cur us st b) :
    Calls Try.prog 50 #[.slice (some ⟨g, 0, none⟩) us.length cap] w fun e w' => e = .returned (.bool false) ∧ Below w.heap.size w w' := by
  have hd := h.deep
  have hc1 := h.cap1
  have HH := hide h
  by_cases h3 : us.length < 3
  · have h3' : (us.length : Int) - 1 < 2 := by omega
    clear h hc1
    go_enter Try.func50, Try.ntmps50
    go_wp2
    go_ret
    exact ⟨rfl, Below.refl _ _⟩
  have hlu := h.stk.len
  match us, st, h with
  | u :: us', [] :: st', h =>
    obtain ⟨a0, c0, rfl⟩ := h.stk.1.form
    have c1 := h.cellG us'.length (by simp)
    simp at c1 h3 hd hlu hc1
    have i1 : ((us'.length : Int) + 1 - 1) = (us'.length : Int) := by omega
    have i2 : ¬ (us'.length : Int) < 2 := by omega
    have hm : us'.length ≤ 1048578 := by omega
    simp only [List.length_cons, List.length_nil]
    clear HH h hd hlu
    go_enter Try.func50, Try.ntmps50
    go_wp2
    go_ret
    exact ⟨rfl, Below.refl _ _⟩
  | u :: us', (x :: t) :: st', h =>
    obtain ⟨b0, o0, c0, cs0, rfl, _, hp0, hb0, hS0, hr0, hi0⟩ := h.stk.1.ptr1
    have c1 := h.cellG us'.length (by simp)
    simp at c1 h3 hd hlu hc1
    have hp : (0 : Int) < (us'.length : Int) - 1 := by omega
    obtain ⟨l1, l2⟩ := bitLen_le (us'.length - 1) (by omega) (by omega)
    have hbl := bLen ((us'.length : Int) - 1) (h0 := by omega) (h1 := by omega)
    rw [show ((us'.length : Int) - 1).toNat = us'.length - 1 by omega] at hbl
    generalize hK : Lib.bitLen (us'.length - 1) = K at *
    have hk2 : K ≤ 21 := by
      rcases Nat.lt_or_ge K 22 with h | h
      · omega
      · have := Nat.pow_le_pow_right (show 0 < 2 by omega) (show 21 ≤ K - 1 by omega)
        have e : (2 : Nat) ^ 21 = 2097152 := by decide
        omega
    have i1 : ((us'.length : Int) + 1 - 1) = (us'.length : Int) := by omega
    have i2 : ¬ (us'.length : Int) < 2 := by omega
    have hm : us'.length ≤ 1048578 := by omega
    simp only [List.length_cons]
    have HK := hide (And.intro hK (And.intro l1 l2))
    have HBL := hide hbl
    clear HH hd hlu hK l2 hbl
    go_enter Try.func50, Try.ntmps50
    go_wp2_with (go_at_call 71; refine (unhide HBL _).mono ?_; rintro e w' ⟨rfl, hww⟩; subst w')
    obtain ⟨-, -, l2⟩ := unhide HK
    obtain ⟨M, hM⟩ : ∃ M : Nat, 2 ^ (K - 1) = M := ⟨_, rfl⟩
    rw [hM] at l2
    have hM1 : 1 ≤ M := by rw [← hM]; exact Nat.one_le_two_pow
    have hMW : wrap64 (2 ^ (K - 1)) = (M : Int) := by
      have e : (2 : Int) ^ (K - 1) = (M : Int) := by rw [← hM]; simp
      rw [e]; unfold wrap64; omega
    rw [hMW]
    clear hM hMW
    have c2 : w.cell? ⟨g, M, none⟩ = some (us'[us'.length - 1 - M]'(by omega)) := by
      have e := h.cellG M (by simp; omega)
      rw [← List.getElem?_eq_getElem] at e ⊢
      rw [List.length_cons, show us'.length + 1 - 1 - M = (us'.length - 1 - M) + 1 by omega, List.getElem?_cons_succ] at e
      exact e
    obtain ⟨b1, o1, n1, k1, e1, hp1, hne⟩ := h.apart rfl rfl (us'.length - 1 - M) (by omega)
    have hpe := eqPtrs w.drew b0 o0 b1 o1 hp0 hp1 hne
    rw [e1] at c2
    have m1 : (M : Int) < (us'.length : Int) + 1 := by omega
    have m2 : (0 : Int) ≤ (M : Int) := by omega
    clear h hne e1 HK HBL l1 hk2 l2 hr0 hi0 hS0 hb0 hp0 hp1
    have m0 : (us'.length : Int) < (us'.length : Int) + 1 := by omega
    go_region
    all_goals go_wp2
    all_goals go_ret
    all_goals exact ⟨rfl, Below.drew (Below.refl _ _)⟩
end Go.Proofs.Ytlhjhnjpmafceaa
