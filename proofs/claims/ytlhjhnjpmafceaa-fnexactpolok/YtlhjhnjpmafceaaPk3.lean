/-
  Whether a rule is right, of the specification.
-/
import Derived.Test.YtlhjhnjpmafceaaPk2
import Derived.Test.YtlhjhnjpmafceaaWk8
namespace Go.Proofs.Ytlhjhnjpmafceaa
open Go.ChangeShapes Go.WideShapes Go.ChangeAt Go.RowKit
set_option linter.unusedVariables false
set_option maxRecDepth 100000

set_option maxHeartbeats 2000000 in
theorem specOne (x : PolD) (S : Nat → Prop) (cs : List Value) (w : World) (h : polR w S cs x) :
    Calls Try.prog 53 #[.agg cs.toArray] w fun e w' => e = .returned (.bool (oneB (basD x))) ∧ Below w.heap.size w w' := by
  obtain ⟨s0, rfl, hy, ht, g0⟩ := polR_open.1 h
  obtain ⟨a0, k0, rfl⟩ := g0.form
  have hl := g0.len
  clear h g0
  obtain ⟨k, n, y, t, xl⟩ := x
  dsimp only at hy ht hl ⊢
  have hbx := bnew w (.cells #[.int .i64 k, .int .i64 n, .string y, .string t, .slice a0 xl.length k0] 29)
  by_cases k1 : k = 1
  · subst k1
    have hd : oneB (basD ⟨1, n, y, t, xl⟩) = bareOne (basD ⟨1, n, y, t, xl⟩) := by unfold oneB; simp [basD]
    rw [hd]
    clear hd
    cases c1 : decide (n = 0)
    case false =>
      have d1 : (n == 0) = false := by simpa using c1
      have HV : Hid (bareOne (basD ⟨1, n, y, t, xl⟩) = false) := hide (by unfold bareOne basD; dsimp only; rw [c1]; first | done | rfl)
      go_enter Try.func53, Try.ntmps53
      go_wp2_with (first | (go_at_call 72; refine (specIn _ _ _ _ (by assumption) _).mono ?_; rintro e w' ⟨rfl, hww⟩; subst hww) | (go_at_call 73; refine (specNameOk y _ hy).mono ?_; rintro e w' ⟨rfl, hww⟩; subst hww; rw [c2]) | (go_at_call 74; refine (specPlainOk t _ ht).mono ?_; rintro e w' ⟨rfl, hww⟩; subst hww; rw [c3]))
      go_ret
      exact ⟨ret_bool (unhide HV).symm, by (repeat (first | with_reducible assumption | with_reducible exact Below.refl _ _ | with_reducible refine Below.drew ?_ | with_reducible refine bdrewN ?_ _ | (with_reducible refine Below.alloc ?_ ?side _; case side => (first | omega | (simp [go_sem]; done) | (simp [go_sem]; omega))) | (with_reducible refine Below.setCell ?_ ?side _; case side => (first | omega | (simp [go_sem]; done) | (simp [go_sem]; omega)))))⟩
    cases c2 : y.toList.isEmpty
    case false =>
      have d1 : (n == 0) = true := by simpa using c1
      have HV : Hid (bareOne (basD ⟨1, n, y, t, xl⟩) = false) := hide (by unfold bareOne basD; dsimp only; rw [c1, c2]; first | done | rfl)
      go_enter Try.func53, Try.ntmps53
      go_wp2_with (first | (go_at_call 72; refine (specIn _ _ _ _ (by assumption) _).mono ?_; rintro e w' ⟨rfl, hww⟩; subst hww) | (go_at_call 73; refine (specNameOk y _ hy).mono ?_; rintro e w' ⟨rfl, hww⟩; subst hww; rw [c2]) | (go_at_call 74; refine (specPlainOk t _ ht).mono ?_; rintro e w' ⟨rfl, hww⟩; subst hww; rw [c3]))
      go_ret
      exact ⟨ret_bool (unhide HV).symm, by (repeat (first | with_reducible assumption | with_reducible exact Below.refl _ _ | with_reducible refine Below.drew ?_ | with_reducible refine bdrewN ?_ _ | (with_reducible refine Below.alloc ?_ ?side _; case side => (first | omega | (simp [go_sem]; done) | (simp [go_sem]; omega))) | (with_reducible refine Below.setCell ?_ ?side _; case side => (first | omega | (simp [go_sem]; done) | (simp [go_sem]; omega)))))⟩
    cases c3 : t.toList.isEmpty
    case false =>
      have d1 : (n == 0) = true := by simpa using c1
      have HV : Hid (bareOne (basD ⟨1, n, y, t, xl⟩) = false) := hide (by unfold bareOne basD; dsimp only; rw [c1, c2, c3]; first | done | rfl)
      go_enter Try.func53, Try.ntmps53
      go_wp2_with (first | (go_at_call 72; refine (specIn _ _ _ _ (by assumption) _).mono ?_; rintro e w' ⟨rfl, hww⟩; subst hww) | (go_at_call 73; refine (specNameOk y _ hy).mono ?_; rintro e w' ⟨rfl, hww⟩; subst hww; rw [c2]) | (go_at_call 74; refine (specPlainOk t _ ht).mono ?_; rintro e w' ⟨rfl, hww⟩; subst hww; rw [c3]))
      go_ret
      exact ⟨ret_bool (unhide HV).symm, by (repeat (first | with_reducible assumption | with_reducible exact Below.refl _ _ | with_reducible refine Below.drew ?_ | with_reducible refine bdrewN ?_ _ | (with_reducible refine Below.alloc ?_ ?side _; case side => (first | omega | (simp [go_sem]; done) | (simp [go_sem]; omega))) | (with_reducible refine Below.setCell ?_ ?side _; case side => (first | omega | (simp [go_sem]; done) | (simp [go_sem]; omega)))))⟩
    cases c4 : decide ((xl.length : Int) = 0)
    case false =>
      have d1 : (n == 0) = true := by simpa using c1
      have d4 : ((xl.length : Int) == 0) = false := by simpa using c4
      have HV : Hid (bareOne (basD ⟨1, n, y, t, xl⟩) = false) := hide (by unfold bareOne basD; dsimp only; rw [c1, c2, c3, c4]; first | done | rfl)
      go_enter Try.func53, Try.ntmps53
      go_wp2_with (first | (go_at_call 72; refine (specIn _ _ _ _ (by assumption) _).mono ?_; rintro e w' ⟨rfl, hww⟩; subst hww) | (go_at_call 73; refine (specNameOk y _ hy).mono ?_; rintro e w' ⟨rfl, hww⟩; subst hww; rw [c2]) | (go_at_call 74; refine (specPlainOk t _ ht).mono ?_; rintro e w' ⟨rfl, hww⟩; subst hww; rw [c3]))
      go_ret
      exact ⟨ret_bool (unhide HV).symm, by (repeat (first | with_reducible assumption | with_reducible exact Below.refl _ _ | with_reducible refine Below.drew ?_ | with_reducible refine bdrewN ?_ _ | (with_reducible refine Below.alloc ?_ ?side _; case side => (first | omega | (simp [go_sem]; done) | (simp [go_sem]; omega))) | (with_reducible refine Below.setCell ?_ ?side _; case side => (first | omega | (simp [go_sem]; done) | (simp [go_sem]; omega)))))⟩
    have d1 : (n == 0) = true := by simpa using c1
    have d4 : ((xl.length : Int) == 0) = true := by simpa using c4
    have HV : Hid (bareOne (basD ⟨1, n, y, t, xl⟩) = true) := hide (by unfold bareOne basD; dsimp only; rw [c1, c2, c3, c4]; first | done | rfl)
    go_enter Try.func53, Try.ntmps53
    go_wp2_with (first | (go_at_call 72; refine (specIn _ _ _ _ (by assumption) _).mono ?_; rintro e w' ⟨rfl, hww⟩; subst hww) | (go_at_call 73; refine (specNameOk y _ hy).mono ?_; rintro e w' ⟨rfl, hww⟩; subst hww; rw [c2]) | (go_at_call 74; refine (specPlainOk t _ ht).mono ?_; rintro e w' ⟨rfl, hww⟩; subst hww; rw [c3]))
    go_ret
    exact ⟨ret_bool (unhide HV).symm, by (repeat (first | with_reducible assumption | with_reducible exact Below.refl _ _ | with_reducible refine Below.drew ?_ | with_reducible refine bdrewN ?_ _ | (with_reducible refine Below.alloc ?_ ?side _; case side => (first | omega | (simp [go_sem]; done) | (simp [go_sem]; omega))) | (with_reducible refine Below.setCell ?_ ?side _; case side => (first | omega | (simp [go_sem]; done) | (simp [go_sem]; omega)))))⟩
  by_cases k2 : k = 2
  · subst k2
    have hd : oneB (basD ⟨2, n, y, t, xl⟩) = bareOne (basD ⟨2, n, y, t, xl⟩) := by unfold oneB; simp [basD]
    rw [hd]
    clear hd
    cases c1 : decide (n = 0)
    case false =>
      have d1 : (n == 0) = false := by simpa using c1
      have HV : Hid (bareOne (basD ⟨2, n, y, t, xl⟩) = false) := hide (by unfold bareOne basD; dsimp only; rw [c1]; first | done | rfl)
      go_enter Try.func53, Try.ntmps53
      go_wp2_with (first | (go_at_call 72; refine (specIn _ _ _ _ (by assumption) _).mono ?_; rintro e w' ⟨rfl, hww⟩; subst hww) | (go_at_call 73; refine (specNameOk y _ hy).mono ?_; rintro e w' ⟨rfl, hww⟩; subst hww; rw [c2]) | (go_at_call 74; refine (specPlainOk t _ ht).mono ?_; rintro e w' ⟨rfl, hww⟩; subst hww; rw [c3]))
      go_ret
      exact ⟨ret_bool (unhide HV).symm, by (repeat (first | with_reducible assumption | with_reducible exact Below.refl _ _ | with_reducible refine Below.drew ?_ | with_reducible refine bdrewN ?_ _ | (with_reducible refine Below.alloc ?_ ?side _; case side => (first | omega | (simp [go_sem]; done) | (simp [go_sem]; omega))) | (with_reducible refine Below.setCell ?_ ?side _; case side => (first | omega | (simp [go_sem]; done) | (simp [go_sem]; omega)))))⟩
    cases c2 : y.toList.isEmpty
    case false =>
      have d1 : (n == 0) = true := by simpa using c1
      have HV : Hid (bareOne (basD ⟨2, n, y, t, xl⟩) = false) := hide (by unfold bareOne basD; dsimp only; rw [c1, c2]; first | done | rfl)
      go_enter Try.func53, Try.ntmps53
      go_wp2_with (first | (go_at_call 72; refine (specIn _ _ _ _ (by assumption) _).mono ?_; rintro e w' ⟨rfl, hww⟩; subst hww) | (go_at_call 73; refine (specNameOk y _ hy).mono ?_; rintro e w' ⟨rfl, hww⟩; subst hww; rw [c2]) | (go_at_call 74; refine (specPlainOk t _ ht).mono ?_; rintro e w' ⟨rfl, hww⟩; subst hww; rw [c3]))
      go_ret
      exact ⟨ret_bool (unhide HV).symm, by (repeat (first | with_reducible assumption | with_reducible exact Below.refl _ _ | with_reducible refine Below.drew ?_ | with_reducible refine bdrewN ?_ _ | (with_reducible refine Below.alloc ?_ ?side _; case side => (first | omega | (simp [go_sem]; done) | (simp [go_sem]; omega))) | (with_reducible refine Below.setCell ?_ ?side _; case side => (first | omega | (simp [go_sem]; done) | (simp [go_sem]; omega)))))⟩
    cases c3 : t.toList.isEmpty
    case false =>
      have d1 : (n == 0) = true := by simpa using c1
      have HV : Hid (bareOne (basD ⟨2, n, y, t, xl⟩) = false) := hide (by unfold bareOne basD; dsimp only; rw [c1, c2, c3]; first | done | rfl)
      go_enter Try.func53, Try.ntmps53
      go_wp2_with (first | (go_at_call 72; refine (specIn _ _ _ _ (by assumption) _).mono ?_; rintro e w' ⟨rfl, hww⟩; subst hww) | (go_at_call 73; refine (specNameOk y _ hy).mono ?_; rintro e w' ⟨rfl, hww⟩; subst hww; rw [c2]) | (go_at_call 74; refine (specPlainOk t _ ht).mono ?_; rintro e w' ⟨rfl, hww⟩; subst hww; rw [c3]))
      go_ret
      exact ⟨ret_bool (unhide HV).symm, by (repeat (first | with_reducible assumption | with_reducible exact Below.refl _ _ | with_reducible refine Below.drew ?_ | with_reducible refine bdrewN ?_ _ | (with_reducible refine Below.alloc ?_ ?side _; case side => (first | omega | (simp [go_sem]; done) | (simp [go_sem]; omega))) | (with_reducible refine Below.setCell ?_ ?side _; case side => (first | omega | (simp [go_sem]; done) | (simp [go_sem]; omega)))))⟩
    cases c4 : decide ((xl.length : Int) = 0)
    case false =>
      have d1 : (n == 0) = true := by simpa using c1
      have d4 : ((xl.length : Int) == 0) = false := by simpa using c4
      have HV : Hid (bareOne (basD ⟨2, n, y, t, xl⟩) = false) := hide (by unfold bareOne basD; dsimp only; rw [c1, c2, c3, c4]; first | done | rfl)
      go_enter Try.func53, Try.ntmps53
      go_wp2_with (first | (go_at_call 72; refine (specIn _ _ _ _ (by assumption) _).mono ?_; rintro e w' ⟨rfl, hww⟩; subst hww) | (go_at_call 73; refine (specNameOk y _ hy).mono ?_; rintro e w' ⟨rfl, hww⟩; subst hww; rw [c2]) | (go_at_call 74; refine (specPlainOk t _ ht).mono ?_; rintro e w' ⟨rfl, hww⟩; subst hww; rw [c3]))
      go_ret
      exact ⟨ret_bool (unhide HV).symm, by (repeat (first | with_reducible assumption | with_reducible exact Below.refl _ _ | with_reducible refine Below.drew ?_ | with_reducible refine bdrewN ?_ _ | (with_reducible refine Below.alloc ?_ ?side _; case side => (first | omega | (simp [go_sem]; done) | (simp [go_sem]; omega))) | (with_reducible refine Below.setCell ?_ ?side _; case side => (first | omega | (simp [go_sem]; done) | (simp [go_sem]; omega)))))⟩
    have d1 : (n == 0) = true := by simpa using c1
    have d4 : ((xl.length : Int) == 0) = true := by simpa using c4
    have HV : Hid (bareOne (basD ⟨2, n, y, t, xl⟩) = true) := hide (by unfold bareOne basD; dsimp only; rw [c1, c2, c3, c4]; first | done | rfl)
    go_enter Try.func53, Try.ntmps53
    go_wp2_with (first | (go_at_call 72; refine (specIn _ _ _ _ (by assumption) _).mono ?_; rintro e w' ⟨rfl, hww⟩; subst hww) | (go_at_call 73; refine (specNameOk y _ hy).mono ?_; rintro e w' ⟨rfl, hww⟩; subst hww; rw [c2]) | (go_at_call 74; refine (specPlainOk t _ ht).mono ?_; rintro e w' ⟨rfl, hww⟩; subst hww; rw [c3]))
    go_ret
    exact ⟨ret_bool (unhide HV).symm, by (repeat (first | with_reducible assumption | with_reducible exact Below.refl _ _ | with_reducible refine Below.drew ?_ | with_reducible refine bdrewN ?_ _ | (with_reducible refine Below.alloc ?_ ?side _; case side => (first | omega | (simp [go_sem]; done) | (simp [go_sem]; omega))) | (with_reducible refine Below.setCell ?_ ?side _; case side => (first | omega | (simp [go_sem]; done) | (simp [go_sem]; omega)))))⟩
  by_cases k6 : k = 6
  · subst k6
    have hd : oneB (basD ⟨6, n, y, t, xl⟩) = bareOne (basD ⟨6, n, y, t, xl⟩) := by unfold oneB; simp [basD]
    rw [hd]
    clear hd
    cases c1 : decide (n = 0)
    case false =>
      have d1 : (n == 0) = false := by simpa using c1
      have HV : Hid (bareOne (basD ⟨6, n, y, t, xl⟩) = false) := hide (by unfold bareOne basD; dsimp only; rw [c1]; first | done | rfl)
      go_enter Try.func53, Try.ntmps53
      go_wp2_with (first | (go_at_call 72; refine (specIn _ _ _ _ (by assumption) _).mono ?_; rintro e w' ⟨rfl, hww⟩; subst hww) | (go_at_call 73; refine (specNameOk y _ hy).mono ?_; rintro e w' ⟨rfl, hww⟩; subst hww; rw [c2]) | (go_at_call 74; refine (specPlainOk t _ ht).mono ?_; rintro e w' ⟨rfl, hww⟩; subst hww; rw [c3]))
      go_ret
      exact ⟨ret_bool (unhide HV).symm, by (repeat (first | with_reducible assumption | with_reducible exact Below.refl _ _ | with_reducible refine Below.drew ?_ | with_reducible refine bdrewN ?_ _ | (with_reducible refine Below.alloc ?_ ?side _; case side => (first | omega | (simp [go_sem]; done) | (simp [go_sem]; omega))) | (with_reducible refine Below.setCell ?_ ?side _; case side => (first | omega | (simp [go_sem]; done) | (simp [go_sem]; omega)))))⟩
    cases c2 : y.toList.isEmpty
    case false =>
      have d1 : (n == 0) = true := by simpa using c1
      have HV : Hid (bareOne (basD ⟨6, n, y, t, xl⟩) = false) := hide (by unfold bareOne basD; dsimp only; rw [c1, c2]; first | done | rfl)
      go_enter Try.func53, Try.ntmps53
      go_wp2_with (first | (go_at_call 72; refine (specIn _ _ _ _ (by assumption) _).mono ?_; rintro e w' ⟨rfl, hww⟩; subst hww) | (go_at_call 73; refine (specNameOk y _ hy).mono ?_; rintro e w' ⟨rfl, hww⟩; subst hww; rw [c2]) | (go_at_call 74; refine (specPlainOk t _ ht).mono ?_; rintro e w' ⟨rfl, hww⟩; subst hww; rw [c3]))
      go_ret
      exact ⟨ret_bool (unhide HV).symm, by (repeat (first | with_reducible assumption | with_reducible exact Below.refl _ _ | with_reducible refine Below.drew ?_ | with_reducible refine bdrewN ?_ _ | (with_reducible refine Below.alloc ?_ ?side _; case side => (first | omega | (simp [go_sem]; done) | (simp [go_sem]; omega))) | (with_reducible refine Below.setCell ?_ ?side _; case side => (first | omega | (simp [go_sem]; done) | (simp [go_sem]; omega)))))⟩
    cases c3 : t.toList.isEmpty
    case false =>
      have d1 : (n == 0) = true := by simpa using c1
      have HV : Hid (bareOne (basD ⟨6, n, y, t, xl⟩) = false) := hide (by unfold bareOne basD; dsimp only; rw [c1, c2, c3]; first | done | rfl)
      go_enter Try.func53, Try.ntmps53
      go_wp2_with (first | (go_at_call 72; refine (specIn _ _ _ _ (by assumption) _).mono ?_; rintro e w' ⟨rfl, hww⟩; subst hww) | (go_at_call 73; refine (specNameOk y _ hy).mono ?_; rintro e w' ⟨rfl, hww⟩; subst hww; rw [c2]) | (go_at_call 74; refine (specPlainOk t _ ht).mono ?_; rintro e w' ⟨rfl, hww⟩; subst hww; rw [c3]))
      go_ret
      exact ⟨ret_bool (unhide HV).symm, by (repeat (first | with_reducible assumption | with_reducible exact Below.refl _ _ | with_reducible refine Below.drew ?_ | with_reducible refine bdrewN ?_ _ | (with_reducible refine Below.alloc ?_ ?side _; case side => (first | omega | (simp [go_sem]; done) | (simp [go_sem]; omega))) | (with_reducible refine Below.setCell ?_ ?side _; case side => (first | omega | (simp [go_sem]; done) | (simp [go_sem]; omega)))))⟩
    cases c4 : decide ((xl.length : Int) = 0)
    case false =>
      have d1 : (n == 0) = true := by simpa using c1
      have d4 : ((xl.length : Int) == 0) = false := by simpa using c4
      have HV : Hid (bareOne (basD ⟨6, n, y, t, xl⟩) = false) := hide (by unfold bareOne basD; dsimp only; rw [c1, c2, c3, c4]; first | done | rfl)
      go_enter Try.func53, Try.ntmps53
      go_wp2_with (first | (go_at_call 72; refine (specIn _ _ _ _ (by assumption) _).mono ?_; rintro e w' ⟨rfl, hww⟩; subst hww) | (go_at_call 73; refine (specNameOk y _ hy).mono ?_; rintro e w' ⟨rfl, hww⟩; subst hww; rw [c2]) | (go_at_call 74; refine (specPlainOk t _ ht).mono ?_; rintro e w' ⟨rfl, hww⟩; subst hww; rw [c3]))
      go_ret
      exact ⟨ret_bool (unhide HV).symm, by (repeat (first | with_reducible assumption | with_reducible exact Below.refl _ _ | with_reducible refine Below.drew ?_ | with_reducible refine bdrewN ?_ _ | (with_reducible refine Below.alloc ?_ ?side _; case side => (first | omega | (simp [go_sem]; done) | (simp [go_sem]; omega))) | (with_reducible refine Below.setCell ?_ ?side _; case side => (first | omega | (simp [go_sem]; done) | (simp [go_sem]; omega)))))⟩
    have d1 : (n == 0) = true := by simpa using c1
    have d4 : ((xl.length : Int) == 0) = true := by simpa using c4
    have HV : Hid (bareOne (basD ⟨6, n, y, t, xl⟩) = true) := hide (by unfold bareOne basD; dsimp only; rw [c1, c2, c3, c4]; first | done | rfl)
    go_enter Try.func53, Try.ntmps53
    go_wp2_with (first | (go_at_call 72; refine (specIn _ _ _ _ (by assumption) _).mono ?_; rintro e w' ⟨rfl, hww⟩; subst hww) | (go_at_call 73; refine (specNameOk y _ hy).mono ?_; rintro e w' ⟨rfl, hww⟩; subst hww; rw [c2]) | (go_at_call 74; refine (specPlainOk t _ ht).mono ?_; rintro e w' ⟨rfl, hww⟩; subst hww; rw [c3]))
    go_ret
    exact ⟨ret_bool (unhide HV).symm, by (repeat (first | with_reducible assumption | with_reducible exact Below.refl _ _ | with_reducible refine Below.drew ?_ | with_reducible refine bdrewN ?_ _ | (with_reducible refine Below.alloc ?_ ?side _; case side => (first | omega | (simp [go_sem]; done) | (simp [go_sem]; omega))) | (with_reducible refine Below.setCell ?_ ?side _; case side => (first | omega | (simp [go_sem]; done) | (simp [go_sem]; omega)))))⟩
  by_cases k3 : k = 3
  · subst k3
    have hd : oneB (basD ⟨3, n, y, t, xl⟩) = longOne (basD ⟨3, n, y, t, xl⟩) := by unfold oneB; simp [basD]
    rw [hd]
    clear hd
    cases c1 : inB n 0 2147483647
    case false =>
      have HV : Hid (longOne (basD ⟨3, n, y, t, xl⟩) = false) := hide (by unfold longOne basD; dsimp only; rw [c1]; first | done | rfl)
      go_enter Try.func53, Try.ntmps53
      go_wp2_with (first | (go_at_call 72; refine (specIn _ _ _ _ (by assumption) _).mono ?_; rintro e w' ⟨rfl, hww⟩; subst hww) | (go_at_call 73; refine (specNameOk y _ hy).mono ?_; rintro e w' ⟨rfl, hww⟩; subst hww; rw [c2]) | (go_at_call 74; refine (specPlainOk t _ ht).mono ?_; rintro e w' ⟨rfl, hww⟩; subst hww; rw [c3]))
      go_ret
      exact ⟨ret_bool (unhide HV).symm, by (repeat (first | with_reducible assumption | with_reducible exact Below.refl _ _ | with_reducible refine Below.drew ?_ | with_reducible refine bdrewN ?_ _ | (with_reducible refine Below.alloc ?_ ?side _; case side => (first | omega | (simp [go_sem]; done) | (simp [go_sem]; omega))) | (with_reducible refine Below.setCell ?_ ?side _; case side => (first | omega | (simp [go_sem]; done) | (simp [go_sem]; omega)))))⟩
    cases c2 : y.toList.isEmpty
    case false =>
      have HV : Hid (longOne (basD ⟨3, n, y, t, xl⟩) = false) := hide (by unfold longOne basD; dsimp only; rw [c1, c2]; first | done | rfl)
      go_enter Try.func53, Try.ntmps53
      go_wp2_with (first | (go_at_call 72; refine (specIn _ _ _ _ (by assumption) _).mono ?_; rintro e w' ⟨rfl, hww⟩; subst hww) | (go_at_call 73; refine (specNameOk y _ hy).mono ?_; rintro e w' ⟨rfl, hww⟩; subst hww; rw [c2]) | (go_at_call 74; refine (specPlainOk t _ ht).mono ?_; rintro e w' ⟨rfl, hww⟩; subst hww; rw [c3]))
      go_ret
      exact ⟨ret_bool (unhide HV).symm, by (repeat (first | with_reducible assumption | with_reducible exact Below.refl _ _ | with_reducible refine Below.drew ?_ | with_reducible refine bdrewN ?_ _ | (with_reducible refine Below.alloc ?_ ?side _; case side => (first | omega | (simp [go_sem]; done) | (simp [go_sem]; omega))) | (with_reducible refine Below.setCell ?_ ?side _; case side => (first | omega | (simp [go_sem]; done) | (simp [go_sem]; omega)))))⟩
    cases c3 : t.toList.isEmpty
    case false =>
      have HV : Hid (longOne (basD ⟨3, n, y, t, xl⟩) = false) := hide (by unfold longOne basD; dsimp only; rw [c1, c2, c3]; first | done | rfl)
      go_enter Try.func53, Try.ntmps53
      go_wp2_with (first | (go_at_call 72; refine (specIn _ _ _ _ (by assumption) _).mono ?_; rintro e w' ⟨rfl, hww⟩; subst hww) | (go_at_call 73; refine (specNameOk y _ hy).mono ?_; rintro e w' ⟨rfl, hww⟩; subst hww; rw [c2]) | (go_at_call 74; refine (specPlainOk t _ ht).mono ?_; rintro e w' ⟨rfl, hww⟩; subst hww; rw [c3]))
      go_ret
      exact ⟨ret_bool (unhide HV).symm, by (repeat (first | with_reducible assumption | with_reducible exact Below.refl _ _ | with_reducible refine Below.drew ?_ | with_reducible refine bdrewN ?_ _ | (with_reducible refine Below.alloc ?_ ?side _; case side => (first | omega | (simp [go_sem]; done) | (simp [go_sem]; omega))) | (with_reducible refine Below.setCell ?_ ?side _; case side => (first | omega | (simp [go_sem]; done) | (simp [go_sem]; omega)))))⟩
    cases c4 : decide ((xl.length : Int) = 0)
    case false =>
      have d4 : ((xl.length : Int) == 0) = false := by simpa using c4
      have HV : Hid (longOne (basD ⟨3, n, y, t, xl⟩) = false) := hide (by unfold longOne basD; dsimp only; rw [c1, c2, c3, c4]; first | done | rfl)
      go_enter Try.func53, Try.ntmps53
      go_wp2_with (first | (go_at_call 72; refine (specIn _ _ _ _ (by assumption) _).mono ?_; rintro e w' ⟨rfl, hww⟩; subst hww) | (go_at_call 73; refine (specNameOk y _ hy).mono ?_; rintro e w' ⟨rfl, hww⟩; subst hww; rw [c2]) | (go_at_call 74; refine (specPlainOk t _ ht).mono ?_; rintro e w' ⟨rfl, hww⟩; subst hww; rw [c3]))
      go_ret
      exact ⟨ret_bool (unhide HV).symm, by (repeat (first | with_reducible assumption | with_reducible exact Below.refl _ _ | with_reducible refine Below.drew ?_ | with_reducible refine bdrewN ?_ _ | (with_reducible refine Below.alloc ?_ ?side _; case side => (first | omega | (simp [go_sem]; done) | (simp [go_sem]; omega))) | (with_reducible refine Below.setCell ?_ ?side _; case side => (first | omega | (simp [go_sem]; done) | (simp [go_sem]; omega)))))⟩
    have d4 : ((xl.length : Int) == 0) = true := by simpa using c4
    have HV : Hid (longOne (basD ⟨3, n, y, t, xl⟩) = true) := hide (by unfold longOne basD; dsimp only; rw [c1, c2, c3, c4]; first | done | rfl)
    go_enter Try.func53, Try.ntmps53
    go_wp2_with (first | (go_at_call 72; refine (specIn _ _ _ _ (by assumption) _).mono ?_; rintro e w' ⟨rfl, hww⟩; subst hww) | (go_at_call 73; refine (specNameOk y _ hy).mono ?_; rintro e w' ⟨rfl, hww⟩; subst hww; rw [c2]) | (go_at_call 74; refine (specPlainOk t _ ht).mono ?_; rintro e w' ⟨rfl, hww⟩; subst hww; rw [c3]))
    go_ret
    exact ⟨ret_bool (unhide HV).symm, by (repeat (first | with_reducible assumption | with_reducible exact Below.refl _ _ | with_reducible refine Below.drew ?_ | with_reducible refine bdrewN ?_ _ | (with_reducible refine Below.alloc ?_ ?side _; case side => (first | omega | (simp [go_sem]; done) | (simp [go_sem]; omega))) | (with_reducible refine Below.setCell ?_ ?side _; case side => (first | omega | (simp [go_sem]; done) | (simp [go_sem]; omega)))))⟩
  by_cases k4 : k = 4
  · subst k4
    have hd : oneB (basD ⟨4, n, y, t, xl⟩) = textOne (basD ⟨4, n, y, t, xl⟩) := by unfold oneB; simp [basD]
    rw [hd]
    clear hd
    cases c1 : decide (n = 0)
    case false =>
      have d1 : (n == 0) = false := by simpa using c1
      have HV : Hid (textOne (basD ⟨4, n, y, t, xl⟩) = false) := hide (by unfold textOne basD; dsimp only; rw [c1]; first | done | rfl)
      go_enter Try.func53, Try.ntmps53
      go_wp2_with (first | (go_at_call 72; refine (specIn _ _ _ _ (by assumption) _).mono ?_; rintro e w' ⟨rfl, hww⟩; subst hww) | (go_at_call 73; refine (specNameOk y _ hy).mono ?_; rintro e w' ⟨rfl, hww⟩; subst hww; rw [c2]) | (go_at_call 74; refine (specPlainOk t _ ht).mono ?_; rintro e w' ⟨rfl, hww⟩; subst hww; rw [c3]))
      go_ret
      exact ⟨ret_bool (unhide HV).symm, by (repeat (first | with_reducible assumption | with_reducible exact Below.refl _ _ | with_reducible refine Below.drew ?_ | with_reducible refine bdrewN ?_ _ | (with_reducible refine Below.alloc ?_ ?side _; case side => (first | omega | (simp [go_sem]; done) | (simp [go_sem]; omega))) | (with_reducible refine Below.setCell ?_ ?side _; case side => (first | omega | (simp [go_sem]; done) | (simp [go_sem]; omega)))))⟩
    cases c2 : nameB y
    case false =>
      have d1 : (n == 0) = true := by simpa using c1
      have HV : Hid (textOne (basD ⟨4, n, y, t, xl⟩) = false) := hide (by unfold textOne basD; dsimp only; rw [c1, c2]; first | done | rfl)
      go_enter Try.func53, Try.ntmps53
      go_wp2_with (first | (go_at_call 72; refine (specIn _ _ _ _ (by assumption) _).mono ?_; rintro e w' ⟨rfl, hww⟩; subst hww) | (go_at_call 73; refine (specNameOk y _ hy).mono ?_; rintro e w' ⟨rfl, hww⟩; subst hww; rw [c2]) | (go_at_call 74; refine (specPlainOk t _ ht).mono ?_; rintro e w' ⟨rfl, hww⟩; subst hww; rw [c3]))
      go_ret
      exact ⟨ret_bool (unhide HV).symm, by (repeat (first | with_reducible assumption | with_reducible exact Below.refl _ _ | with_reducible refine Below.drew ?_ | with_reducible refine bdrewN ?_ _ | (with_reducible refine Below.alloc ?_ ?side _; case side => (first | omega | (simp [go_sem]; done) | (simp [go_sem]; omega))) | (with_reducible refine Below.setCell ?_ ?side _; case side => (first | omega | (simp [go_sem]; done) | (simp [go_sem]; omega)))))⟩
    cases c3 : plainB t
    case false =>
      have d1 : (n == 0) = true := by simpa using c1
      have HV : Hid (textOne (basD ⟨4, n, y, t, xl⟩) = false) := hide (by unfold textOne basD; dsimp only; rw [c1, c2, c3]; first | done | rfl)
      go_enter Try.func53, Try.ntmps53
      go_wp2_with (first | (go_at_call 72; refine (specIn _ _ _ _ (by assumption) _).mono ?_; rintro e w' ⟨rfl, hww⟩; subst hww) | (go_at_call 73; refine (specNameOk y _ hy).mono ?_; rintro e w' ⟨rfl, hww⟩; subst hww; rw [c2]) | (go_at_call 74; refine (specPlainOk t _ ht).mono ?_; rintro e w' ⟨rfl, hww⟩; subst hww; rw [c3]))
      go_ret
      exact ⟨ret_bool (unhide HV).symm, by (repeat (first | with_reducible assumption | with_reducible exact Below.refl _ _ | with_reducible refine Below.drew ?_ | with_reducible refine bdrewN ?_ _ | (with_reducible refine Below.alloc ?_ ?side _; case side => (first | omega | (simp [go_sem]; done) | (simp [go_sem]; omega))) | (with_reducible refine Below.setCell ?_ ?side _; case side => (first | omega | (simp [go_sem]; done) | (simp [go_sem]; omega)))))⟩
    cases c4 : decide ((xl.length : Int) = 0)
    case false =>
      have d1 : (n == 0) = true := by simpa using c1
      have d4 : ((xl.length : Int) == 0) = false := by simpa using c4
      have HV : Hid (textOne (basD ⟨4, n, y, t, xl⟩) = false) := hide (by unfold textOne basD; dsimp only; rw [c1, c2, c3, c4]; first | done | rfl)
      go_enter Try.func53, Try.ntmps53
      go_wp2_with (first | (go_at_call 72; refine (specIn _ _ _ _ (by assumption) _).mono ?_; rintro e w' ⟨rfl, hww⟩; subst hww) | (go_at_call 73; refine (specNameOk y _ hy).mono ?_; rintro e w' ⟨rfl, hww⟩; subst hww; rw [c2]) | (go_at_call 74; refine (specPlainOk t _ ht).mono ?_; rintro e w' ⟨rfl, hww⟩; subst hww; rw [c3]))
      go_ret
      exact ⟨ret_bool (unhide HV).symm, by (repeat (first | with_reducible assumption | with_reducible exact Below.refl _ _ | with_reducible refine Below.drew ?_ | with_reducible refine bdrewN ?_ _ | (with_reducible refine Below.alloc ?_ ?side _; case side => (first | omega | (simp [go_sem]; done) | (simp [go_sem]; omega))) | (with_reducible refine Below.setCell ?_ ?side _; case side => (first | omega | (simp [go_sem]; done) | (simp [go_sem]; omega)))))⟩
    have d1 : (n == 0) = true := by simpa using c1
    have d4 : ((xl.length : Int) == 0) = true := by simpa using c4
    have HV : Hid (textOne (basD ⟨4, n, y, t, xl⟩) = true) := hide (by unfold textOne basD; dsimp only; rw [c1, c2, c3, c4]; first | done | rfl)
    go_enter Try.func53, Try.ntmps53
    go_wp2_with (first | (go_at_call 72; refine (specIn _ _ _ _ (by assumption) _).mono ?_; rintro e w' ⟨rfl, hww⟩; subst hww) | (go_at_call 73; refine (specNameOk y _ hy).mono ?_; rintro e w' ⟨rfl, hww⟩; subst hww; rw [c2]) | (go_at_call 74; refine (specPlainOk t _ ht).mono ?_; rintro e w' ⟨rfl, hww⟩; subst hww; rw [c3]))
    go_ret
    exact ⟨ret_bool (unhide HV).symm, by (repeat (first | with_reducible assumption | with_reducible exact Below.refl _ _ | with_reducible refine Below.drew ?_ | with_reducible refine bdrewN ?_ _ | (with_reducible refine Below.alloc ?_ ?side _; case side => (first | omega | (simp [go_sem]; done) | (simp [go_sem]; omega))) | (with_reducible refine Below.setCell ?_ ?side _; case side => (first | omega | (simp [go_sem]; done) | (simp [go_sem]; omega)))))⟩
  by_cases k5 : k = 5
  · subst k5
    have hd : oneB (basD ⟨5, n, y, t, xl⟩) = numOne (basD ⟨5, n, y, t, xl⟩) := by unfold oneB; simp [basD]
    rw [hd]
    clear hd
    cases c1 : inB n 0 2147483647
    case false =>
      have HV : Hid (numOne (basD ⟨5, n, y, t, xl⟩) = false) := hide (by unfold numOne basD; dsimp only; rw [c1]; first | done | rfl)
      go_enter Try.func53, Try.ntmps53
      go_wp2_with (first | (go_at_call 72; refine (specIn _ _ _ _ (by assumption) _).mono ?_; rintro e w' ⟨rfl, hww⟩; subst hww) | (go_at_call 73; refine (specNameOk y _ hy).mono ?_; rintro e w' ⟨rfl, hww⟩; subst hww; rw [c2]) | (go_at_call 74; refine (specPlainOk t _ ht).mono ?_; rintro e w' ⟨rfl, hww⟩; subst hww; rw [c3]))
      go_ret
      exact ⟨ret_bool (unhide HV).symm, by (repeat (first | with_reducible assumption | with_reducible exact Below.refl _ _ | with_reducible refine Below.drew ?_ | with_reducible refine bdrewN ?_ _ | (with_reducible refine Below.alloc ?_ ?side _; case side => (first | omega | (simp [go_sem]; done) | (simp [go_sem]; omega))) | (with_reducible refine Below.setCell ?_ ?side _; case side => (first | omega | (simp [go_sem]; done) | (simp [go_sem]; omega)))))⟩
    cases c2 : nameB y
    case false =>
      have HV : Hid (numOne (basD ⟨5, n, y, t, xl⟩) = false) := hide (by unfold numOne basD; dsimp only; rw [c1, c2]; first | done | rfl)
      go_enter Try.func53, Try.ntmps53
      go_wp2_with (first | (go_at_call 72; refine (specIn _ _ _ _ (by assumption) _).mono ?_; rintro e w' ⟨rfl, hww⟩; subst hww) | (go_at_call 73; refine (specNameOk y _ hy).mono ?_; rintro e w' ⟨rfl, hww⟩; subst hww; rw [c2]) | (go_at_call 74; refine (specPlainOk t _ ht).mono ?_; rintro e w' ⟨rfl, hww⟩; subst hww; rw [c3]))
      go_ret
      exact ⟨ret_bool (unhide HV).symm, by (repeat (first | with_reducible assumption | with_reducible exact Below.refl _ _ | with_reducible refine Below.drew ?_ | with_reducible refine bdrewN ?_ _ | (with_reducible refine Below.alloc ?_ ?side _; case side => (first | omega | (simp [go_sem]; done) | (simp [go_sem]; omega))) | (with_reducible refine Below.setCell ?_ ?side _; case side => (first | omega | (simp [go_sem]; done) | (simp [go_sem]; omega)))))⟩
    cases c3 : t.toList.isEmpty
    case false =>
      have HV : Hid (numOne (basD ⟨5, n, y, t, xl⟩) = false) := hide (by unfold numOne basD; dsimp only; rw [c1, c2, c3]; first | done | rfl)
      go_enter Try.func53, Try.ntmps53
      go_wp2_with (first | (go_at_call 72; refine (specIn _ _ _ _ (by assumption) _).mono ?_; rintro e w' ⟨rfl, hww⟩; subst hww) | (go_at_call 73; refine (specNameOk y _ hy).mono ?_; rintro e w' ⟨rfl, hww⟩; subst hww; rw [c2]) | (go_at_call 74; refine (specPlainOk t _ ht).mono ?_; rintro e w' ⟨rfl, hww⟩; subst hww; rw [c3]))
      go_ret
      exact ⟨ret_bool (unhide HV).symm, by (repeat (first | with_reducible assumption | with_reducible exact Below.refl _ _ | with_reducible refine Below.drew ?_ | with_reducible refine bdrewN ?_ _ | (with_reducible refine Below.alloc ?_ ?side _; case side => (first | omega | (simp [go_sem]; done) | (simp [go_sem]; omega))) | (with_reducible refine Below.setCell ?_ ?side _; case side => (first | omega | (simp [go_sem]; done) | (simp [go_sem]; omega)))))⟩
    cases c4 : decide ((xl.length : Int) = 0)
    case false =>
      have d4 : ((xl.length : Int) == 0) = false := by simpa using c4
      have HV : Hid (numOne (basD ⟨5, n, y, t, xl⟩) = false) := hide (by unfold numOne basD; dsimp only; rw [c1, c2, c3, c4]; first | done | rfl)
      go_enter Try.func53, Try.ntmps53
      go_wp2_with (first | (go_at_call 72; refine (specIn _ _ _ _ (by assumption) _).mono ?_; rintro e w' ⟨rfl, hww⟩; subst hww) | (go_at_call 73; refine (specNameOk y _ hy).mono ?_; rintro e w' ⟨rfl, hww⟩; subst hww; rw [c2]) | (go_at_call 74; refine (specPlainOk t _ ht).mono ?_; rintro e w' ⟨rfl, hww⟩; subst hww; rw [c3]))
      go_ret
      exact ⟨ret_bool (unhide HV).symm, by (repeat (first | with_reducible assumption | with_reducible exact Below.refl _ _ | with_reducible refine Below.drew ?_ | with_reducible refine bdrewN ?_ _ | (with_reducible refine Below.alloc ?_ ?side _; case side => (first | omega | (simp [go_sem]; done) | (simp [go_sem]; omega))) | (with_reducible refine Below.setCell ?_ ?side _; case side => (first | omega | (simp [go_sem]; done) | (simp [go_sem]; omega)))))⟩
    have d4 : ((xl.length : Int) == 0) = true := by simpa using c4
    have HV : Hid (numOne (basD ⟨5, n, y, t, xl⟩) = true) := hide (by unfold numOne basD; dsimp only; rw [c1, c2, c3, c4]; first | done | rfl)
    go_enter Try.func53, Try.ntmps53
    go_wp2_with (first | (go_at_call 72; refine (specIn _ _ _ _ (by assumption) _).mono ?_; rintro e w' ⟨rfl, hww⟩; subst hww) | (go_at_call 73; refine (specNameOk y _ hy).mono ?_; rintro e w' ⟨rfl, hww⟩; subst hww; rw [c2]) | (go_at_call 74; refine (specPlainOk t _ ht).mono ?_; rintro e w' ⟨rfl, hww⟩; subst hww; rw [c3]))
    go_ret
    exact ⟨ret_bool (unhide HV).symm, by (repeat (first | with_reducible assumption | with_reducible exact Below.refl _ _ | with_reducible refine Below.drew ?_ | with_reducible refine bdrewN ?_ _ | (with_reducible refine Below.alloc ?_ ?side _; case side => (first | omega | (simp [go_sem]; done) | (simp [go_sem]; omega))) | (with_reducible refine Below.setCell ?_ ?side _; case side => (first | omega | (simp [go_sem]; done) | (simp [go_sem]; omega)))))⟩
  by_cases k7 : k = 7
  · subst k7
    have hd : oneB (basD ⟨7, n, y, t, xl⟩) = joinOne (basD ⟨7, n, y, t, xl⟩) 4 := by unfold oneB; simp [basD]
    rw [hd]
    clear hd
    cases c1 : decide (n = 0)
    case false =>
      have d1 : (n == 0) = false := by simpa using c1
      have HV : Hid (joinOne (basD ⟨7, n, y, t, xl⟩) 4 = false) := hide (by unfold joinOne basD; dsimp only; rw [c1]; first | done | rfl)
      go_enter Try.func53, Try.ntmps53
      go_wp2_with (first | (go_at_call 72; refine (specIn _ _ _ _ (by assumption) _).mono ?_; rintro e w' ⟨rfl, hww⟩; subst hww) | (go_at_call 73; refine (specNameOk y _ hy).mono ?_; rintro e w' ⟨rfl, hww⟩; subst hww; rw [c2]) | (go_at_call 74; refine (specPlainOk t _ ht).mono ?_; rintro e w' ⟨rfl, hww⟩; subst hww; rw [c3]))
      go_ret
      exact ⟨ret_bool (unhide HV).symm, by (repeat (first | with_reducible assumption | with_reducible exact Below.refl _ _ | with_reducible refine Below.drew ?_ | with_reducible refine bdrewN ?_ _ | (with_reducible refine Below.alloc ?_ ?side _; case side => (first | omega | (simp [go_sem]; done) | (simp [go_sem]; omega))) | (with_reducible refine Below.setCell ?_ ?side _; case side => (first | omega | (simp [go_sem]; done) | (simp [go_sem]; omega)))))⟩
    cases c2 : y.toList.isEmpty
    case false =>
      have d1 : (n == 0) = true := by simpa using c1
      have HV : Hid (joinOne (basD ⟨7, n, y, t, xl⟩) 4 = false) := hide (by unfold joinOne basD; dsimp only; rw [c1, c2]; first | done | rfl)
      go_enter Try.func53, Try.ntmps53
      go_wp2_with (first | (go_at_call 72; refine (specIn _ _ _ _ (by assumption) _).mono ?_; rintro e w' ⟨rfl, hww⟩; subst hww) | (go_at_call 73; refine (specNameOk y _ hy).mono ?_; rintro e w' ⟨rfl, hww⟩; subst hww; rw [c2]) | (go_at_call 74; refine (specPlainOk t _ ht).mono ?_; rintro e w' ⟨rfl, hww⟩; subst hww; rw [c3]))
      go_ret
      exact ⟨ret_bool (unhide HV).symm, by (repeat (first | with_reducible assumption | with_reducible exact Below.refl _ _ | with_reducible refine Below.drew ?_ | with_reducible refine bdrewN ?_ _ | (with_reducible refine Below.alloc ?_ ?side _; case side => (first | omega | (simp [go_sem]; done) | (simp [go_sem]; omega))) | (with_reducible refine Below.setCell ?_ ?side _; case side => (first | omega | (simp [go_sem]; done) | (simp [go_sem]; omega)))))⟩
    cases c3 : t.toList.isEmpty
    case false =>
      have d1 : (n == 0) = true := by simpa using c1
      have HV : Hid (joinOne (basD ⟨7, n, y, t, xl⟩) 4 = false) := hide (by unfold joinOne basD; dsimp only; rw [c1, c2, c3]; first | done | rfl)
      go_enter Try.func53, Try.ntmps53
      go_wp2_with (first | (go_at_call 72; refine (specIn _ _ _ _ (by assumption) _).mono ?_; rintro e w' ⟨rfl, hww⟩; subst hww) | (go_at_call 73; refine (specNameOk y _ hy).mono ?_; rintro e w' ⟨rfl, hww⟩; subst hww; rw [c2]) | (go_at_call 74; refine (specPlainOk t _ ht).mono ?_; rintro e w' ⟨rfl, hww⟩; subst hww; rw [c3]))
      go_ret
      exact ⟨ret_bool (unhide HV).symm, by (repeat (first | with_reducible assumption | with_reducible exact Below.refl _ _ | with_reducible refine Below.drew ?_ | with_reducible refine bdrewN ?_ _ | (with_reducible refine Below.alloc ?_ ?side _; case side => (first | omega | (simp [go_sem]; done) | (simp [go_sem]; omega))) | (with_reducible refine Below.setCell ?_ ?side _; case side => (first | omega | (simp [go_sem]; done) | (simp [go_sem]; omega)))))⟩
    cases c4 : inB (xl.length : Int) 1 4
    case false =>
      have d1 : (n == 0) = true := by simpa using c1
      have HV : Hid (joinOne (basD ⟨7, n, y, t, xl⟩) 4 = false) := hide (by unfold joinOne basD; dsimp only; rw [c1, c2, c3, c4]; first | done | rfl)
      go_enter Try.func53, Try.ntmps53
      go_wp2_with (first | (go_at_call 72; refine (specIn _ _ _ _ (by assumption) _).mono ?_; rintro e w' ⟨rfl, hww⟩; subst hww) | (go_at_call 73; refine (specNameOk y _ hy).mono ?_; rintro e w' ⟨rfl, hww⟩; subst hww; rw [c2]) | (go_at_call 74; refine (specPlainOk t _ ht).mono ?_; rintro e w' ⟨rfl, hww⟩; subst hww; rw [c3]))
      go_ret
      exact ⟨ret_bool (unhide HV).symm, by (repeat (first | with_reducible assumption | with_reducible exact Below.refl _ _ | with_reducible refine Below.drew ?_ | with_reducible refine bdrewN ?_ _ | (with_reducible refine Below.alloc ?_ ?side _; case side => (first | omega | (simp [go_sem]; done) | (simp [go_sem]; omega))) | (with_reducible refine Below.setCell ?_ ?side _; case side => (first | omega | (simp [go_sem]; done) | (simp [go_sem]; omega)))))⟩
    have d1 : (n == 0) = true := by simpa using c1
    have HV : Hid (joinOne (basD ⟨7, n, y, t, xl⟩) 4 = true) := hide (by unfold joinOne basD; dsimp only; rw [c1, c2, c3, c4]; first | done | rfl)
    go_enter Try.func53, Try.ntmps53
    go_wp2_with (first | (go_at_call 72; refine (specIn _ _ _ _ (by assumption) _).mono ?_; rintro e w' ⟨rfl, hww⟩; subst hww) | (go_at_call 73; refine (specNameOk y _ hy).mono ?_; rintro e w' ⟨rfl, hww⟩; subst hww; rw [c2]) | (go_at_call 74; refine (specPlainOk t _ ht).mono ?_; rintro e w' ⟨rfl, hww⟩; subst hww; rw [c3]))
    go_ret
    exact ⟨ret_bool (unhide HV).symm, by (repeat (first | with_reducible assumption | with_reducible exact Below.refl _ _ | with_reducible refine Below.drew ?_ | with_reducible refine bdrewN ?_ _ | (with_reducible refine Below.alloc ?_ ?side _; case side => (first | omega | (simp [go_sem]; done) | (simp [go_sem]; omega))) | (with_reducible refine Below.setCell ?_ ?side _; case side => (first | omega | (simp [go_sem]; done) | (simp [go_sem]; omega)))))⟩
  by_cases k8 : k = 8
  · subst k8
    have hd : oneB (basD ⟨8, n, y, t, xl⟩) = joinOne (basD ⟨8, n, y, t, xl⟩) 4 := by unfold oneB; simp [basD]
    rw [hd]
    clear hd
    cases c1 : decide (n = 0)
    case false =>
      have d1 : (n == 0) = false := by simpa using c1
      have HV : Hid (joinOne (basD ⟨8, n, y, t, xl⟩) 4 = false) := hide (by unfold joinOne basD; dsimp only; rw [c1]; first | done | rfl)
      go_enter Try.func53, Try.ntmps53
      go_wp2_with (first | (go_at_call 72; refine (specIn _ _ _ _ (by assumption) _).mono ?_; rintro e w' ⟨rfl, hww⟩; subst hww) | (go_at_call 73; refine (specNameOk y _ hy).mono ?_; rintro e w' ⟨rfl, hww⟩; subst hww; rw [c2]) | (go_at_call 74; refine (specPlainOk t _ ht).mono ?_; rintro e w' ⟨rfl, hww⟩; subst hww; rw [c3]))
      go_ret
      exact ⟨ret_bool (unhide HV).symm, by (repeat (first | with_reducible assumption | with_reducible exact Below.refl _ _ | with_reducible refine Below.drew ?_ | with_reducible refine bdrewN ?_ _ | (with_reducible refine Below.alloc ?_ ?side _; case side => (first | omega | (simp [go_sem]; done) | (simp [go_sem]; omega))) | (with_reducible refine Below.setCell ?_ ?side _; case side => (first | omega | (simp [go_sem]; done) | (simp [go_sem]; omega)))))⟩
    cases c2 : y.toList.isEmpty
    case false =>
      have d1 : (n == 0) = true := by simpa using c1
      have HV : Hid (joinOne (basD ⟨8, n, y, t, xl⟩) 4 = false) := hide (by unfold joinOne basD; dsimp only; rw [c1, c2]; first | done | rfl)
      go_enter Try.func53, Try.ntmps53
      go_wp2_with (first | (go_at_call 72; refine (specIn _ _ _ _ (by assumption) _).mono ?_; rintro e w' ⟨rfl, hww⟩; subst hww) | (go_at_call 73; refine (specNameOk y _ hy).mono ?_; rintro e w' ⟨rfl, hww⟩; subst hww; rw [c2]) | (go_at_call 74; refine (specPlainOk t _ ht).mono ?_; rintro e w' ⟨rfl, hww⟩; subst hww; rw [c3]))
      go_ret
      exact ⟨ret_bool (unhide HV).symm, by (repeat (first | with_reducible assumption | with_reducible exact Below.refl _ _ | with_reducible refine Below.drew ?_ | with_reducible refine bdrewN ?_ _ | (with_reducible refine Below.alloc ?_ ?side _; case side => (first | omega | (simp [go_sem]; done) | (simp [go_sem]; omega))) | (with_reducible refine Below.setCell ?_ ?side _; case side => (first | omega | (simp [go_sem]; done) | (simp [go_sem]; omega)))))⟩
    cases c3 : t.toList.isEmpty
    case false =>
      have d1 : (n == 0) = true := by simpa using c1
      have HV : Hid (joinOne (basD ⟨8, n, y, t, xl⟩) 4 = false) := hide (by unfold joinOne basD; dsimp only; rw [c1, c2, c3]; first | done | rfl)
      go_enter Try.func53, Try.ntmps53
      go_wp2_with (first | (go_at_call 72; refine (specIn _ _ _ _ (by assumption) _).mono ?_; rintro e w' ⟨rfl, hww⟩; subst hww) | (go_at_call 73; refine (specNameOk y _ hy).mono ?_; rintro e w' ⟨rfl, hww⟩; subst hww; rw [c2]) | (go_at_call 74; refine (specPlainOk t _ ht).mono ?_; rintro e w' ⟨rfl, hww⟩; subst hww; rw [c3]))
      go_ret
      exact ⟨ret_bool (unhide HV).symm, by (repeat (first | with_reducible assumption | with_reducible exact Below.refl _ _ | with_reducible refine Below.drew ?_ | with_reducible refine bdrewN ?_ _ | (with_reducible refine Below.alloc ?_ ?side _; case side => (first | omega | (simp [go_sem]; done) | (simp [go_sem]; omega))) | (with_reducible refine Below.setCell ?_ ?side _; case side => (first | omega | (simp [go_sem]; done) | (simp [go_sem]; omega)))))⟩
    cases c4 : inB (xl.length : Int) 1 4
    case false =>
      have d1 : (n == 0) = true := by simpa using c1
      have HV : Hid (joinOne (basD ⟨8, n, y, t, xl⟩) 4 = false) := hide (by unfold joinOne basD; dsimp only; rw [c1, c2, c3, c4]; first | done | rfl)
      go_enter Try.func53, Try.ntmps53
      go_wp2_with (first | (go_at_call 72; refine (specIn _ _ _ _ (by assumption) _).mono ?_; rintro e w' ⟨rfl, hww⟩; subst hww) | (go_at_call 73; refine (specNameOk y _ hy).mono ?_; rintro e w' ⟨rfl, hww⟩; subst hww; rw [c2]) | (go_at_call 74; refine (specPlainOk t _ ht).mono ?_; rintro e w' ⟨rfl, hww⟩; subst hww; rw [c3]))
      go_ret
      exact ⟨ret_bool (unhide HV).symm, by (repeat (first | with_reducible assumption | with_reducible exact Below.refl _ _ | with_reducible refine Below.drew ?_ | with_reducible refine bdrewN ?_ _ | (with_reducible refine Below.alloc ?_ ?side _; case side => (first | omega | (simp [go_sem]; done) | (simp [go_sem]; omega))) | (with_reducible refine Below.setCell ?_ ?side _; case side => (first | omega | (simp [go_sem]; done) | (simp [go_sem]; omega)))))⟩
    have d1 : (n == 0) = true := by simpa using c1
    have HV : Hid (joinOne (basD ⟨8, n, y, t, xl⟩) 4 = true) := hide (by unfold joinOne basD; dsimp only; rw [c1, c2, c3, c4]; first | done | rfl)
    go_enter Try.func53, Try.ntmps53
    go_wp2_with (first | (go_at_call 72; refine (specIn _ _ _ _ (by assumption) _).mono ?_; rintro e w' ⟨rfl, hww⟩; subst hww) | (go_at_call 73; refine (specNameOk y _ hy).mono ?_; rintro e w' ⟨rfl, hww⟩; subst hww; rw [c2]) | (go_at_call 74; refine (specPlainOk t _ ht).mono ?_; rintro e w' ⟨rfl, hww⟩; subst hww; rw [c3]))
    go_ret
    exact ⟨ret_bool (unhide HV).symm, by (repeat (first | with_reducible assumption | with_reducible exact Below.refl _ _ | with_reducible refine Below.drew ?_ | with_reducible refine bdrewN ?_ _ | (with_reducible refine Below.alloc ?_ ?side _; case side => (first | omega | (simp [go_sem]; done) | (simp [go_sem]; omega))) | (with_reducible refine Below.setCell ?_ ?side _; case side => (first | omega | (simp [go_sem]; done) | (simp [go_sem]; omega)))))⟩
  by_cases k9 : k = 9
  · subst k9
    have hd : oneB (basD ⟨9, n, y, t, xl⟩) = joinOne (basD ⟨9, n, y, t, xl⟩) 1 := by unfold oneB; simp [basD]
    rw [hd]
    clear hd
    cases c1 : decide (n = 0)
    case false =>
      have d1 : (n == 0) = false := by simpa using c1
      have HV : Hid (joinOne (basD ⟨9, n, y, t, xl⟩) 1 = false) := hide (by unfold joinOne basD; dsimp only; rw [c1]; first | done | rfl)
      go_enter Try.func53, Try.ntmps53
      go_wp2_with (first | (go_at_call 72; refine (specIn _ _ _ _ (by assumption) _).mono ?_; rintro e w' ⟨rfl, hww⟩; subst hww) | (go_at_call 73; refine (specNameOk y _ hy).mono ?_; rintro e w' ⟨rfl, hww⟩; subst hww; rw [c2]) | (go_at_call 74; refine (specPlainOk t _ ht).mono ?_; rintro e w' ⟨rfl, hww⟩; subst hww; rw [c3]))
      go_ret
      exact ⟨ret_bool (unhide HV).symm, by (repeat (first | with_reducible assumption | with_reducible exact Below.refl _ _ | with_reducible refine Below.drew ?_ | with_reducible refine bdrewN ?_ _ | (with_reducible refine Below.alloc ?_ ?side _; case side => (first | omega | (simp [go_sem]; done) | (simp [go_sem]; omega))) | (with_reducible refine Below.setCell ?_ ?side _; case side => (first | omega | (simp [go_sem]; done) | (simp [go_sem]; omega)))))⟩
    cases c2 : y.toList.isEmpty
    case false =>
      have d1 : (n == 0) = true := by simpa using c1
      have HV : Hid (joinOne (basD ⟨9, n, y, t, xl⟩) 1 = false) := hide (by unfold joinOne basD; dsimp only; rw [c1, c2]; first | done | rfl)
      go_enter Try.func53, Try.ntmps53
      go_wp2_with (first | (go_at_call 72; refine (specIn _ _ _ _ (by assumption) _).mono ?_; rintro e w' ⟨rfl, hww⟩; subst hww) | (go_at_call 73; refine (specNameOk y _ hy).mono ?_; rintro e w' ⟨rfl, hww⟩; subst hww; rw [c2]) | (go_at_call 74; refine (specPlainOk t _ ht).mono ?_; rintro e w' ⟨rfl, hww⟩; subst hww; rw [c3]))
      go_ret
      exact ⟨ret_bool (unhide HV).symm, by (repeat (first | with_reducible assumption | with_reducible exact Below.refl _ _ | with_reducible refine Below.drew ?_ | with_reducible refine bdrewN ?_ _ | (with_reducible refine Below.alloc ?_ ?side _; case side => (first | omega | (simp [go_sem]; done) | (simp [go_sem]; omega))) | (with_reducible refine Below.setCell ?_ ?side _; case side => (first | omega | (simp [go_sem]; done) | (simp [go_sem]; omega)))))⟩
    cases c3 : t.toList.isEmpty
    case false =>
      have d1 : (n == 0) = true := by simpa using c1
      have HV : Hid (joinOne (basD ⟨9, n, y, t, xl⟩) 1 = false) := hide (by unfold joinOne basD; dsimp only; rw [c1, c2, c3]; first | done | rfl)
      go_enter Try.func53, Try.ntmps53
      go_wp2_with (first | (go_at_call 72; refine (specIn _ _ _ _ (by assumption) _).mono ?_; rintro e w' ⟨rfl, hww⟩; subst hww) | (go_at_call 73; refine (specNameOk y _ hy).mono ?_; rintro e w' ⟨rfl, hww⟩; subst hww; rw [c2]) | (go_at_call 74; refine (specPlainOk t _ ht).mono ?_; rintro e w' ⟨rfl, hww⟩; subst hww; rw [c3]))
      go_ret
      exact ⟨ret_bool (unhide HV).symm, by (repeat (first | with_reducible assumption | with_reducible exact Below.refl _ _ | with_reducible refine Below.drew ?_ | with_reducible refine bdrewN ?_ _ | (with_reducible refine Below.alloc ?_ ?side _; case side => (first | omega | (simp [go_sem]; done) | (simp [go_sem]; omega))) | (with_reducible refine Below.setCell ?_ ?side _; case side => (first | omega | (simp [go_sem]; done) | (simp [go_sem]; omega)))))⟩
    cases c4 : inB (xl.length : Int) 1 1
    case false =>
      have d1 : (n == 0) = true := by simpa using c1
      have d4 : ((xl.length : Int) == 1) = false := by cases hq : ((xl.length : Int) == 1) <;> simp_all [inB] <;> omega
      have HV : Hid (joinOne (basD ⟨9, n, y, t, xl⟩) 1 = false) := hide (by unfold joinOne basD; dsimp only; rw [c1, c2, c3, c4]; first | done | rfl)
      go_enter Try.func53, Try.ntmps53
      go_wp2_with (first | (go_at_call 72; refine (specIn _ _ _ _ (by assumption) _).mono ?_; rintro e w' ⟨rfl, hww⟩; subst hww) | (go_at_call 73; refine (specNameOk y _ hy).mono ?_; rintro e w' ⟨rfl, hww⟩; subst hww; rw [c2]) | (go_at_call 74; refine (specPlainOk t _ ht).mono ?_; rintro e w' ⟨rfl, hww⟩; subst hww; rw [c3]))
      go_ret
      exact ⟨ret_bool (unhide HV).symm, by (repeat (first | with_reducible assumption | with_reducible exact Below.refl _ _ | with_reducible refine Below.drew ?_ | with_reducible refine bdrewN ?_ _ | (with_reducible refine Below.alloc ?_ ?side _; case side => (first | omega | (simp [go_sem]; done) | (simp [go_sem]; omega))) | (with_reducible refine Below.setCell ?_ ?side _; case side => (first | omega | (simp [go_sem]; done) | (simp [go_sem]; omega)))))⟩
    have d1 : (n == 0) = true := by simpa using c1
    have d4 : ((xl.length : Int) == 1) = true := by cases hq : ((xl.length : Int) == 1) <;> simp_all [inB] <;> omega
    have HV : Hid (joinOne (basD ⟨9, n, y, t, xl⟩) 1 = true) := hide (by unfold joinOne basD; dsimp only; rw [c1, c2, c3, c4]; first | done | rfl)
    go_enter Try.func53, Try.ntmps53
    go_wp2_with (first | (go_at_call 72; refine (specIn _ _ _ _ (by assumption) _).mono ?_; rintro e w' ⟨rfl, hww⟩; subst hww) | (go_at_call 73; refine (specNameOk y _ hy).mono ?_; rintro e w' ⟨rfl, hww⟩; subst hww; rw [c2]) | (go_at_call 74; refine (specPlainOk t _ ht).mono ?_; rintro e w' ⟨rfl, hww⟩; subst hww; rw [c3]))
    go_ret
    exact ⟨ret_bool (unhide HV).symm, by (repeat (first | with_reducible assumption | with_reducible exact Below.refl _ _ | with_reducible refine Below.drew ?_ | with_reducible refine bdrewN ?_ _ | (with_reducible refine Below.alloc ?_ ?side _; case side => (first | omega | (simp [go_sem]; done) | (simp [go_sem]; omega))) | (with_reducible refine Below.setCell ?_ ?side _; case side => (first | omega | (simp [go_sem]; done) | (simp [go_sem]; omega)))))⟩
  have e : oneB (basD ⟨k, n, y, t, xl⟩) = false := by unfold oneB; simp [basD, k1, k2, k3, k4, k5, k6, k7, k8, k9]
  rw [e]
  clear e
  go_enter Try.func53, Try.ntmps53
  go_wp2
  go_ret
  exact ⟨rfl, by (repeat (first | with_reducible assumption | with_reducible exact Below.refl _ _ | with_reducible refine Below.drew ?_ | with_reducible refine bdrewN ?_ _ | (with_reducible refine Below.alloc ?_ ?side _; case side => (first | omega | (simp [go_sem]; done) | (simp [go_sem]; omega))) | (with_reducible refine Below.setCell ?_ ?side _; case side => (first | omega | (simp [go_sem]; done) | (simp [go_sem]; omega)))))⟩
def DpP (d : Nat) : Prop := ∀ (x : PolD) (S : Nat → Prop) (cs : List Value) (m a : Nat) (w : World), a + m = 5 → polRd d w S cs x →
    Calls Try.prog 35 #[.agg cs.toArray, .int .i64 a] w fun e w' => e = .returned (.bool (okTo m x)) ∧ Below w.heap.size w w'
set_option maxHeartbeats 2000000 in
theorem dDpP (d : Nat) (ih : DpP d) : DpP (d + 1) := by
  intro x S cs m a w hm h
  have hR : polR w S cs x := ⟨d + 1, h⟩
  obtain ⟨s0, rfl, q0, q1, g0⟩ := h
  obtain ⟨a0, k0, rfl⟩ := g0.form
  have P0 := Held.new w [.int .i64 x.kind, .int .i64 x.n, .string x.key, .string x.text, .slice a0 x.l.length k0] 29
  have B0 := bnew w (.cells #[.int .i64 x.kind, .int .i64 x.n, .string x.key, .string x.text, .slice a0 x.l.length k0] 29)
  have hl := g0.len
  match m, hm with
  | 0, hm =>
    have ha : ¬ (a : Int) ≤ 4 := by omega
    clear g0 hR
    go_enter Try.func35, Try.ntmps35
    go_upto_region 1 with fail
    generalize World.alloc w _ = w0 at *
    go_wp2
    go_ret
    exact ⟨rfl, B0⟩
  | m + 1, hm =>
    have HG := hide (g0.keep (polRd_keeps d) B0)
    have HX := hide (specOne x S _ _ (polR_keeps _ _ _ _ _ _ (Below.turn B0) none_off hR))
    have hrw : RowT Try.prog 29 [Value.int .i64 x.kind, .int .i64 x.n, .string x.key, .string x.text, .slice a0 x.l.length k0].length := rowIPol
    have ha : decide ((4 : Int) < (a : Int)) = false := decide_eq_false (by omega)
    have ha2 : (a : Int) ≤ 4 := by omega
    have ham : a + 1 + m = 5 := by omega
    have HAM := hide ham
    clear g0 hR ham hm
    cases hone : oneB (basD x)
    · have HV : Hid (okTo (m + 1) x = false) := hide (by unfold okTo; rw [hone]; rfl)
      go_enter Try.func35, Try.ntmps35
      go_upto_region 1 with fail
      generalize World.alloc w _ = w0 at *
      go_wp2_with (first | (refine wpl_loadG (by rfl) 29 _ rfl _ 0 rfl _ P0.inB hrw ?_) | (go_at_call 53; refine (unhide HX).mono ?_; rintro e w1 ⟨rfl, hb1⟩; rw [hone]))
      go_ret
      exact ⟨ret_bool (unhide HV).symm, bthen B0 hb1⟩
    · have HV : Hid (okTo (m + 1) x = x.l.all (okTo m)) := hide (by show (oneB (basD x) && _) = _; rw [hone]; rfl)
      go_enter Try.func35, Try.ntmps35
      go_upto_region 1 with fail
      generalize World.alloc w _ = w0 at *
      go_upto_region 3 with (first | (refine wpl_loadG (by rfl) 29 _ rfl _ 0 rfl _ P0.inB hrw ?_) | (go_at_call 53; refine (unhide HX).mono ?_; rintro e w1 ⟨rfl, hb1⟩; rw [hone]))
      have P1 := P0.keep hb1
      have HG1 := hide ((unhide HG).keep (polRd_keeps d) hb1)
      have B1 := bthen B0 hb1
      clear hb1 P0 HX hone hrw HG
      go_wp2
      go_loopw [5] (fun i wk => ∃ k : Nat, k ≤ x.l.length ∧ i = .int .i64 k ∧ Hid (∀ j (hj : j < x.l.length), j < k → okTo m x.l[j] = true) ∧ Below w1.heap.size w1 wk) (fun i _ => x.l.length - (intOf i).toNat)
      case atStart => exact ⟨0, Nat.zero_le _, rfl, hide (fun j _ hj => absurd hj (Nat.not_lt_zero _)), Below.refl _ _⟩
      case round =>
        obtain ⟨k, hk, rfl, hall, hbl⟩ := hrel
        have hbs := hbl.size
        have p4 := (P1.keep hbl).2 4 _ rfl
        by_cases hlt : k < x.l.length
        · have hki : (k : Int) < (x.l.length : Int) := by omega
          obtain ⟨b, o, cs, rfl, hbk, hSb, hcs, hin⟩ := (unhide HG1).at1.at k hlt
          have hcs := polRd_keeps d _ _ S None1 cs _ (Below.turn hbl) none_off hcs
          have hin := hin.turn hbk (Below.turn hbl) (fun e => e)
          have hrw : RowT Try.prog 29 cs.length := by rw [polRd_len hcs]; exact rowIPol
          generalize hX : x.l[k] = X at *
          have HI := hide (ih X S cs m (a + 1) wr (unhide HAM) hcs)
          have hai : ((a + 1 : Nat) : Int) = (a : Int) + 1 := by omega
          rw [hai] at HI
          have HXE := hide hX
          clear hX hcs hai
          cases hok : okTo m X
          · have HK := hide hok
            clear hok
            go_wp2_with (first | (refine wpl_load rfl 29 _ rfl _ _ rfl cs hin hrw ?_))
            refine (unhide HI).mono ?_
            rintro e w4 ⟨rfl, hb4⟩
            rw [unhide HK]
            go_wp2
            go_ret
            exact ⟨ret_bool (by rw [unhide HV]; exact (all_take hlt (by rw [unhide HXE]; exact unhide HK)).symm), bthen B1 (bthen hbl hb4)⟩
          · have HK := hide hok
            clear hok
            go_wp2_with (first | (refine wpl_load rfl 29 _ rfl _ _ rfl cs hin hrw ?_))
            refine (unhide HI).mono ?_
            rintro e w4 ⟨rfl, hb4⟩
            rw [unhide HK]
            clear hin hrw HI
            go_wp2
            go_roundw
            case rel =>
              refine ⟨k + 1, by omega, by go_num, hide (fun j hj hjk => ?_), bthen hbl hb4⟩
              by_cases e : j = k
              · subst e; rw [unhide HXE]; exact unhide HK
              · exact unhide hall j hj (by omega)
            case measure => simp [intOf]; omega
        · have hki : ¬ (k : Int) < (x.l.length : Int) := by omega
          obtain rfl : k = x.l.length := by omega
          have HAL := hide (all_upto (unhide hall))
          go_wp2
          go_ret
          exact ⟨ret_bool (by rw [unhide HV, unhide HAL]), bthen B1 hbl⟩
theorem dpP : ∀ d, DpP d
  | 0 => fun _ _ _ _ _ _ _ h => h.elim
  | d + 1 => dDpP d (dpP d)
set_option maxHeartbeats 1000000 in
theorem specPolOk (x : PolD) (S0 : Nat → Prop) (cs : List Value) (w : World) (h0 : polR w S0 cs x) (b0 : polBulk x ≤ 1048576) :
    Calls Try.prog 18 #[.agg cs.toArray] w fun e w' => e = .returned (.bool (polOkB x)) ∧ Below w.heap.size w w' := by
  have P0 := Held.new w cs 29
  have B0 := bnew w (.cells cs.toArray 29)
  have hrw : RowT Try.prog 29 cs.length := by rw [polR_len h0]; exact rowIPol
  have hx := polR_keeps _ _ _ _ _ _ (Below.turn B0) none_off h0
  have HW := hide (specPolCount x _ cs _ hx b0)
  have HX := hide hx
  have hpl : (polPre x).length ≤ 1048577 := by have := pre_bulk x; omega
  have HP : Hid (polOkB x = (decide ((polPre x).length ≤ 12) && okTo 4 x)) := hide (by unfold polOkB; rw [Bool.and_comm])
  clear h0 hx
  by_cases hc : (polPre x).length ≤ 12
  case neg =>
    have HV : Hid (polOkB x = false) := hide (by rw [unhide HP, decide_eq_false hc]; rfl)
    have hc1 : ¬ ((polPre x).length : Int) ≤ 12 := by omega
    generalize (polPre x).length = c at *
    go_enter Try.func18, Try.ntmps18
    go_upto_region 1 with fail
    generalize w.alloc (.cells cs.toArray 29) = w0 at *
    go_wp2_with (first | (refine wpl_load rfl 29 _ rfl _ 0 rfl cs P0.inB hrw ?_))
    refine (unhide HW).mono ?_
    rintro e w1 ⟨rfl, hb1⟩
    go_wp2
    go_ret
    exact ⟨ret_bool (unhide HV).symm, bthen B0 hb1⟩
  have HV : Hid (polOkB x = okTo 4 x) := hide (by rw [unhide HP, decide_eq_true hc]; rfl)
  have hc1 : ((polPre x).length : Int) ≤ 12 := by omega
  generalize (polPre x).length = c at *
  go_enter Try.func18, Try.ntmps18
  go_upto_region 1 with fail
  generalize w.alloc (.cells cs.toArray 29) = w0 at *
  go_wp2_with (first | (refine wpl_load rfl 29 _ rfl _ 0 rfl cs P0.inB hrw ?_))
  refine (unhide HW).mono ?_
  rintro e w1 ⟨rfl, hb1⟩
  have P1 := P0.keep hb1
  obtain ⟨d, hd⟩ := polR_keeps _ _ _ _ _ _ (Below.turn hb1) none_off (unhide HX)
  have HX1 := hide (dpP d x _ cs 4 1 _ rfl hd)
  clear HW HX hd
  go_wp2_with (first | (refine wpl_loadG (by rfl) 29 _ rfl _ 0 rfl cs P1.inB hrw ?_))
  refine (unhide HX1).mono ?_
  rintro e w2 ⟨rfl, hb2⟩
  clear HX1
  go_wp2
  go_ret
  exact ⟨ret_bool (unhide HV).symm, bthen B0 (bthen hb1 hb2)⟩
end Go.Proofs.Ytlhjhnjpmafceaa
