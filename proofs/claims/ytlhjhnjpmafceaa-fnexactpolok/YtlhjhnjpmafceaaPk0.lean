/-
  Whether a rule is right, apart from those in it: of the program, by the methods of its kind, and of the specification.
-/
import Derived.Test.YtlhjhnjpmafceaaWk1
import Derived.Test.YtlhjhnjpmafceaaStr1
import Derived.Test.YtlhjhnjpmafceaaTPol
namespace Go.Proofs.Ytlhjhnjpmafceaa
open Go.ChangeShapes Go.WideShapes Go.ChangeAt Go.RowKit
set_option linter.unusedVariables false
set_option maxRecDepth 100000

def bareOne (b : BasD) : Bool := decide (b.n = 0) && (b.key.toList.isEmpty && (b.text.toList.isEmpty && decide (b.rules = 0)))
def longOne (b : BasD) : Bool := inB b.n 0 2147483647 && (b.key.toList.isEmpty && (b.text.toList.isEmpty && decide (b.rules = 0)))
def textOne (b : BasD) : Bool := decide (b.n = 0) && (nameB b.key && (plainB b.text && decide (b.rules = 0)))
def numOne (b : BasD) : Bool := inB b.n 0 2147483647 && (nameB b.key && (b.text.toList.isEmpty && decide (b.rules = 0)))
def joinOne (b : BasD) (most : Int) : Bool := decide (b.n = 0) && (b.key.toList.isEmpty && (b.text.toList.isEmpty && inB b.rules 1 most))
def oneB (b : BasD) : Bool :=
  if b.kind = 1 ∨ b.kind = 2 ∨ b.kind = 6 then bareOne b else if b.kind = 3 then longOne b else if b.kind = 4 then textOne b else if b.kind = 5 then numOne b
  else if b.kind = 7 ∨ b.kind = 8 then joinOne b 4 else if b.kind = 9 then joinOne b 1 else false
theorem in_le {r m : Int} (h0 : 0 ≤ r) : (!decide (r = 0) && decide (r ≤ m)) = inB r 1 m := by
  unfold inB
  by_cases h : r = 0
  · subst h; simp
  · have : 1 ≤ r := by omega
    simp [h, this]
theorem implNoNumber (k n : Int) (y t : ByteArray) (r : Int) (v : Bool) (h : decide (n = 0) = v) (w : World) :
    Calls Try.prog 103 #[.agg #[.int .i64 k, .int .i64 n, .string y, .string t, .int .i64 r]] w fun e w' => e = .returned (.bool v) ∧ w' = w.alloc (.cells #[.int .i64 k, .int .i64 n, .string y, .string t, .int .i64 r] 57) := by
  subst h
  go_enter Try.func103, Try.ntmps103
  go_wp2
  go_ret
  exact ⟨ret_bool (by first | rfl | (rw [Bool.eq_iff_iff]; simp)), rfl⟩
theorem implNoKey (k n : Int) (y t : ByteArray) (r : Int) (v : Bool) (h : y.toList.isEmpty = v) (w : World) :
    Calls Try.prog 101 #[.agg #[.int .i64 k, .int .i64 n, .string y, .string t, .int .i64 r]] w fun e w' => e = .returned (.bool v) ∧ w' = w.alloc (.cells #[.int .i64 k, .int .i64 n, .string y, .string t, .int .i64 r] 57) := by
  subst h
  go_enter Try.func101, Try.ntmps101
  go_wp2
  go_ret
  exact ⟨ret_bool (by first | rfl | (rw [Bool.eq_iff_iff]; simp)), rfl⟩
theorem implNoText (k n : Int) (y t : ByteArray) (r : Int) (v : Bool) (h : t.toList.isEmpty = v) (w : World) :
    Calls Try.prog 104 #[.agg #[.int .i64 k, .int .i64 n, .string y, .string t, .int .i64 r]] w fun e w' => e = .returned (.bool v) ∧ w' = w.alloc (.cells #[.int .i64 k, .int .i64 n, .string y, .string t, .int .i64 r] 57) := by
  subst h
  go_enter Try.func104, Try.ntmps104
  go_wp2
  go_ret
  exact ⟨ret_bool (by first | rfl | (rw [Bool.eq_iff_iff]; simp)), rfl⟩
theorem implNoRules (k n : Int) (y t : ByteArray) (r : Int) (v : Bool) (h : decide (r = 0) = v) (w : World) :
    Calls Try.prog 105 #[.agg #[.int .i64 k, .int .i64 n, .string y, .string t, .int .i64 r]] w fun e w' => e = .returned (.bool v) ∧ w' = w.alloc (.cells #[.int .i64 k, .int .i64 n, .string y, .string t, .int .i64 r] 57) := by
  subst h
  go_enter Try.func105, Try.ntmps105
  go_wp2
  go_ret
  exact ⟨ret_bool (by first | rfl | (rw [Bool.eq_iff_iff]; simp)), rfl⟩
set_option maxHeartbeats 1000000 in
theorem implBare (k n : Int) (y t : ByteArray) (r : Int) (w : World) :
    Calls Try.prog 102 #[.agg #[.int .i64 k, .int .i64 n, .string y, .string t, .int .i64 r]] w fun e w' => e = .returned (.bool (bareOne ⟨k, n, y, t, r⟩)) ∧ Below w.heap.size w w' := by
  have hbx := bnew w (.cells #[.int .i64 k, .int .i64 n, .string y, .string t, .int .i64 r] 57)
  cases c1 : decide (n = 0)
  case false =>
    have HV : Hid (bareOne ⟨k, n, y, t, r⟩ = false) := hide (by unfold bareOne; dsimp only; rw [c1]; first | done | rfl)
    go_enter Try.func102, Try.ntmps102
    go_wp2_with (first | (go_at_call 103; refine (implNoNumber _ _ _ _ _ _ (by assumption) _).mono ?_; rintro e w' ⟨rfl, rfl⟩) | (go_at_call 101; refine (implNoKey _ _ _ _ _ _ (by assumption) _).mono ?_; rintro e w' ⟨rfl, rfl⟩) | (go_at_call 104; refine (implNoText _ _ _ _ _ _ (by assumption) _).mono ?_; rintro e w' ⟨rfl, rfl⟩) | (go_at_call 105; refine (implNoRules _ _ _ _ _ _ (by assumption) _).mono ?_; rintro e w' ⟨rfl, rfl⟩))
    go_ret
    exact ⟨ret_bool (unhide HV).symm, by (repeat (first | with_reducible assumption | with_reducible exact Below.refl _ _ | with_reducible refine Below.drew ?_ | with_reducible refine bdrewN ?_ _ | (with_reducible refine Below.alloc ?_ ?side _; case side => (first | omega | (simp [go_sem]; done) | (simp [go_sem]; omega))) | (with_reducible refine Below.setCell ?_ ?side _; case side => (first | omega | (simp [go_sem]; done) | (simp [go_sem]; omega)))))⟩
  cases c2 : y.toList.isEmpty
  case false =>
    have HV : Hid (bareOne ⟨k, n, y, t, r⟩ = false) := hide (by unfold bareOne; dsimp only; rw [c1, c2]; first | done | rfl)
    go_enter Try.func102, Try.ntmps102
    go_wp2_with (first | (go_at_call 103; refine (implNoNumber _ _ _ _ _ _ (by assumption) _).mono ?_; rintro e w' ⟨rfl, rfl⟩) | (go_at_call 101; refine (implNoKey _ _ _ _ _ _ (by assumption) _).mono ?_; rintro e w' ⟨rfl, rfl⟩) | (go_at_call 104; refine (implNoText _ _ _ _ _ _ (by assumption) _).mono ?_; rintro e w' ⟨rfl, rfl⟩) | (go_at_call 105; refine (implNoRules _ _ _ _ _ _ (by assumption) _).mono ?_; rintro e w' ⟨rfl, rfl⟩))
    go_ret
    exact ⟨ret_bool (unhide HV).symm, by (repeat (first | with_reducible assumption | with_reducible exact Below.refl _ _ | with_reducible refine Below.drew ?_ | with_reducible refine bdrewN ?_ _ | (with_reducible refine Below.alloc ?_ ?side _; case side => (first | omega | (simp [go_sem]; done) | (simp [go_sem]; omega))) | (with_reducible refine Below.setCell ?_ ?side _; case side => (first | omega | (simp [go_sem]; done) | (simp [go_sem]; omega)))))⟩
  cases c3 : t.toList.isEmpty
  case false =>
    have HV : Hid (bareOne ⟨k, n, y, t, r⟩ = false) := hide (by unfold bareOne; dsimp only; rw [c1, c2, c3]; first | done | rfl)
    go_enter Try.func102, Try.ntmps102
    go_wp2_with (first | (go_at_call 103; refine (implNoNumber _ _ _ _ _ _ (by assumption) _).mono ?_; rintro e w' ⟨rfl, rfl⟩) | (go_at_call 101; refine (implNoKey _ _ _ _ _ _ (by assumption) _).mono ?_; rintro e w' ⟨rfl, rfl⟩) | (go_at_call 104; refine (implNoText _ _ _ _ _ _ (by assumption) _).mono ?_; rintro e w' ⟨rfl, rfl⟩) | (go_at_call 105; refine (implNoRules _ _ _ _ _ _ (by assumption) _).mono ?_; rintro e w' ⟨rfl, rfl⟩))
    go_ret
    exact ⟨ret_bool (unhide HV).symm, by (repeat (first | with_reducible assumption | with_reducible exact Below.refl _ _ | with_reducible refine Below.drew ?_ | with_reducible refine bdrewN ?_ _ | (with_reducible refine Below.alloc ?_ ?side _; case side => (first | omega | (simp [go_sem]; done) | (simp [go_sem]; omega))) | (with_reducible refine Below.setCell ?_ ?side _; case side => (first | omega | (simp [go_sem]; done) | (simp [go_sem]; omega)))))⟩
  cases c4 : decide (r = 0)
  case false =>
    have HV : Hid (bareOne ⟨k, n, y, t, r⟩ = false) := hide (by unfold bareOne; dsimp only; rw [c1, c2, c3, c4]; first | done | rfl)
    go_enter Try.func102, Try.ntmps102
    go_wp2_with (first | (go_at_call 103; refine (implNoNumber _ _ _ _ _ _ (by assumption) _).mono ?_; rintro e w' ⟨rfl, rfl⟩) | (go_at_call 101; refine (implNoKey _ _ _ _ _ _ (by assumption) _).mono ?_; rintro e w' ⟨rfl, rfl⟩) | (go_at_call 104; refine (implNoText _ _ _ _ _ _ (by assumption) _).mono ?_; rintro e w' ⟨rfl, rfl⟩) | (go_at_call 105; refine (implNoRules _ _ _ _ _ _ (by assumption) _).mono ?_; rintro e w' ⟨rfl, rfl⟩))
    go_ret
    exact ⟨ret_bool (unhide HV).symm, by (repeat (first | with_reducible assumption | with_reducible exact Below.refl _ _ | with_reducible refine Below.drew ?_ | with_reducible refine bdrewN ?_ _ | (with_reducible refine Below.alloc ?_ ?side _; case side => (first | omega | (simp [go_sem]; done) | (simp [go_sem]; omega))) | (with_reducible refine Below.setCell ?_ ?side _; case side => (first | omega | (simp [go_sem]; done) | (simp [go_sem]; omega)))))⟩
  have HV : Hid (bareOne ⟨k, n, y, t, r⟩ = true) := hide (by unfold bareOne; dsimp only; rw [c1, c2, c3, c4]; first | done | rfl)
  go_enter Try.func102, Try.ntmps102
  go_wp2_with (first | (go_at_call 103; refine (implNoNumber _ _ _ _ _ _ (by assumption) _).mono ?_; rintro e w' ⟨rfl, rfl⟩) | (go_at_call 101; refine (implNoKey _ _ _ _ _ _ (by assumption) _).mono ?_; rintro e w' ⟨rfl, rfl⟩) | (go_at_call 104; refine (implNoText _ _ _ _ _ _ (by assumption) _).mono ?_; rintro e w' ⟨rfl, rfl⟩) | (go_at_call 105; refine (implNoRules _ _ _ _ _ _ (by assumption) _).mono ?_; rintro e w' ⟨rfl, rfl⟩))
  go_ret
  exact ⟨ret_bool (unhide HV).symm, by (repeat (first | with_reducible assumption | with_reducible exact Below.refl _ _ | with_reducible refine Below.drew ?_ | with_reducible refine bdrewN ?_ _ | (with_reducible refine Below.alloc ?_ ?side _; case side => (first | omega | (simp [go_sem]; done) | (simp [go_sem]; omega))) | (with_reducible refine Below.setCell ?_ ?side _; case side => (first | omega | (simp [go_sem]; done) | (simp [go_sem]; omega)))))⟩
set_option maxHeartbeats 1000000 in
theorem implLong (k n : Int) (y t : ByteArray) (r : Int) (w : World) :
    Calls Try.prog 107 #[.agg #[.int .i64 k, .int .i64 n, .string y, .string t, .int .i64 r]] w fun e w' => e = .returned (.bool (longOne ⟨k, n, y, t, r⟩)) ∧ Below w.heap.size w w' := by
  have hbx := bnew w (.cells #[.int .i64 k, .int .i64 n, .string y, .string t, .int .i64 r] 115)
  cases c1 : inB n 0 2147483647
  case false =>
    have HV : Hid (longOne ⟨k, n, y, t, r⟩ = false) := hide (by unfold longOne; dsimp only; rw [c1]; first | done | rfl)
    go_enter Try.func107, Try.ntmps107
    go_wp2_with (first | (go_at_call 109; refine (implAmountOk _ _ (by assumption) _).mono ?_; rintro e w' ⟨rfl, hww⟩; subst hww) | (go_at_call 101; refine (implNoKey _ _ _ _ _ _ (by assumption) _).mono ?_; rintro e w' ⟨rfl, rfl⟩) | (go_at_call 104; refine (implNoText _ _ _ _ _ _ (by assumption) _).mono ?_; rintro e w' ⟨rfl, rfl⟩) | (go_at_call 105; refine (implNoRules _ _ _ _ _ _ (by assumption) _).mono ?_; rintro e w' ⟨rfl, rfl⟩))
    go_ret
    exact ⟨ret_bool (unhide HV).symm, by (repeat (first | with_reducible assumption | with_reducible exact Below.refl _ _ | with_reducible refine Below.drew ?_ | with_reducible refine bdrewN ?_ _ | (with_reducible refine Below.alloc ?_ ?side _; case side => (first | omega | (simp [go_sem]; done) | (simp [go_sem]; omega))) | (with_reducible refine Below.setCell ?_ ?side _; case side => (first | omega | (simp [go_sem]; done) | (simp [go_sem]; omega)))))⟩
  cases c2 : y.toList.isEmpty
  case false =>
    have HV : Hid (longOne ⟨k, n, y, t, r⟩ = false) := hide (by unfold longOne; dsimp only; rw [c1, c2]; first | done | rfl)
    go_enter Try.func107, Try.ntmps107
    go_wp2_with (first | (go_at_call 109; refine (implAmountOk _ _ (by assumption) _).mono ?_; rintro e w' ⟨rfl, hww⟩; subst hww) | (go_at_call 101; refine (implNoKey _ _ _ _ _ _ (by assumption) _).mono ?_; rintro e w' ⟨rfl, rfl⟩) | (go_at_call 104; refine (implNoText _ _ _ _ _ _ (by assumption) _).mono ?_; rintro e w' ⟨rfl, rfl⟩) | (go_at_call 105; refine (implNoRules _ _ _ _ _ _ (by assumption) _).mono ?_; rintro e w' ⟨rfl, rfl⟩))
    go_ret
    exact ⟨ret_bool (unhide HV).symm, by (repeat (first | with_reducible assumption | with_reducible exact Below.refl _ _ | with_reducible refine Below.drew ?_ | with_reducible refine bdrewN ?_ _ | (with_reducible refine Below.alloc ?_ ?side _; case side => (first | omega | (simp [go_sem]; done) | (simp [go_sem]; omega))) | (with_reducible refine Below.setCell ?_ ?side _; case side => (first | omega | (simp [go_sem]; done) | (simp [go_sem]; omega)))))⟩
  cases c3 : t.toList.isEmpty
  case false =>
    have HV : Hid (longOne ⟨k, n, y, t, r⟩ = false) := hide (by unfold longOne; dsimp only; rw [c1, c2, c3]; first | done | rfl)
    go_enter Try.func107, Try.ntmps107
    go_wp2_with (first | (go_at_call 109; refine (implAmountOk _ _ (by assumption) _).mono ?_; rintro e w' ⟨rfl, hww⟩; subst hww) | (go_at_call 101; refine (implNoKey _ _ _ _ _ _ (by assumption) _).mono ?_; rintro e w' ⟨rfl, rfl⟩) | (go_at_call 104; refine (implNoText _ _ _ _ _ _ (by assumption) _).mono ?_; rintro e w' ⟨rfl, rfl⟩) | (go_at_call 105; refine (implNoRules _ _ _ _ _ _ (by assumption) _).mono ?_; rintro e w' ⟨rfl, rfl⟩))
    go_ret
    exact ⟨ret_bool (unhide HV).symm, by (repeat (first | with_reducible assumption | with_reducible exact Below.refl _ _ | with_reducible refine Below.drew ?_ | with_reducible refine bdrewN ?_ _ | (with_reducible refine Below.alloc ?_ ?side _; case side => (first | omega | (simp [go_sem]; done) | (simp [go_sem]; omega))) | (with_reducible refine Below.setCell ?_ ?side _; case side => (first | omega | (simp [go_sem]; done) | (simp [go_sem]; omega)))))⟩
  cases c4 : decide (r = 0)
  case false =>
    have HV : Hid (longOne ⟨k, n, y, t, r⟩ = false) := hide (by unfold longOne; dsimp only; rw [c1, c2, c3, c4]; first | done | rfl)
    go_enter Try.func107, Try.ntmps107
    go_wp2_with (first | (go_at_call 109; refine (implAmountOk _ _ (by assumption) _).mono ?_; rintro e w' ⟨rfl, hww⟩; subst hww) | (go_at_call 101; refine (implNoKey _ _ _ _ _ _ (by assumption) _).mono ?_; rintro e w' ⟨rfl, rfl⟩) | (go_at_call 104; refine (implNoText _ _ _ _ _ _ (by assumption) _).mono ?_; rintro e w' ⟨rfl, rfl⟩) | (go_at_call 105; refine (implNoRules _ _ _ _ _ _ (by assumption) _).mono ?_; rintro e w' ⟨rfl, rfl⟩))
    go_ret
    exact ⟨ret_bool (unhide HV).symm, by (repeat (first | with_reducible assumption | with_reducible exact Below.refl _ _ | with_reducible refine Below.drew ?_ | with_reducible refine bdrewN ?_ _ | (with_reducible refine Below.alloc ?_ ?side _; case side => (first | omega | (simp [go_sem]; done) | (simp [go_sem]; omega))) | (with_reducible refine Below.setCell ?_ ?side _; case side => (first | omega | (simp [go_sem]; done) | (simp [go_sem]; omega)))))⟩
  have HV : Hid (longOne ⟨k, n, y, t, r⟩ = true) := hide (by unfold longOne; dsimp only; rw [c1, c2, c3, c4]; first | done | rfl)
  go_enter Try.func107, Try.ntmps107
  go_wp2_with (first | (go_at_call 109; refine (implAmountOk _ _ (by assumption) _).mono ?_; rintro e w' ⟨rfl, hww⟩; subst hww) | (go_at_call 101; refine (implNoKey _ _ _ _ _ _ (by assumption) _).mono ?_; rintro e w' ⟨rfl, rfl⟩) | (go_at_call 104; refine (implNoText _ _ _ _ _ _ (by assumption) _).mono ?_; rintro e w' ⟨rfl, rfl⟩) | (go_at_call 105; refine (implNoRules _ _ _ _ _ _ (by assumption) _).mono ?_; rintro e w' ⟨rfl, rfl⟩))
  go_ret
  exact ⟨ret_bool (unhide HV).symm, by (repeat (first | with_reducible assumption | with_reducible exact Below.refl _ _ | with_reducible refine Below.drew ?_ | with_reducible refine bdrewN ?_ _ | (with_reducible refine Below.alloc ?_ ?side _; case side => (first | omega | (simp [go_sem]; done) | (simp [go_sem]; omega))) | (with_reducible refine Below.setCell ?_ ?side _; case side => (first | omega | (simp [go_sem]; done) | (simp [go_sem]; omega)))))⟩
set_option maxHeartbeats 1000000 in
theorem implText (k n : Int) (y t : ByteArray) (r : Int) (hy : y.size ≤ maxLen) (ht : t.size ≤ maxLen) (w : World) :
    Calls Try.prog 110 #[.agg #[.int .i64 k, .int .i64 n, .string y, .string t, .int .i64 r]] w fun e w' => e = .returned (.bool (textOne ⟨k, n, y, t, r⟩)) ∧ Below w.heap.size w w' := by
  have hbx := bnew w (.cells #[.int .i64 k, .int .i64 n, .string y, .string t, .int .i64 r] 116)
  cases c1 : decide (n = 0)
  case false =>
    have HV : Hid (textOne ⟨k, n, y, t, r⟩ = false) := hide (by unfold textOne; dsimp only; rw [c1]; first | done | rfl)
    go_enter Try.func110, Try.ntmps110
    go_wp2_with (first | (go_at_call 109; refine (implAmountOk _ _ (by assumption) _).mono ?_; rintro e w' ⟨rfl, hww⟩; subst hww) | (go_at_call 103; refine (implNoNumber _ _ _ _ _ _ (by assumption) _).mono ?_; rintro e w' ⟨rfl, rfl⟩) | (go_at_call 104; refine (implNoText _ _ _ _ _ _ (by assumption) _).mono ?_; rintro e w' ⟨rfl, rfl⟩) | (go_at_call 105; refine (implNoRules _ _ _ _ _ _ (by assumption) _).mono ?_; rintro e w' ⟨rfl, rfl⟩))
    go_ret
    exact ⟨ret_bool (unhide HV).symm, by (repeat (first | with_reducible assumption | with_reducible exact Below.refl _ _ | with_reducible refine Below.drew ?_ | with_reducible refine bdrewN ?_ _ | (with_reducible refine Below.alloc ?_ ?side _; case side => (first | omega | (simp [go_sem]; done) | (simp [go_sem]; omega))) | (with_reducible refine Below.setCell ?_ ?side _; case side => (first | omega | (simp [go_sem]; done) | (simp [go_sem]; omega)))))⟩
  cases c2 : nameB y
  case false =>
    have HV : Hid (textOne ⟨k, n, y, t, r⟩ = false) := hide (by unfold textOne; dsimp only; rw [c1, c2]; first | done | rfl)
    go_enter Try.func110, Try.ntmps110
    go_wp2_with (first | (go_at_call 109; refine (implAmountOk _ _ (by assumption) _).mono ?_; rintro e w' ⟨rfl, hww⟩; subst hww) | (go_at_call 103; refine (implNoNumber _ _ _ _ _ _ (by assumption) _).mono ?_; rintro e w' ⟨rfl, rfl⟩) | (go_at_call 104; refine (implNoText _ _ _ _ _ _ (by assumption) _).mono ?_; rintro e w' ⟨rfl, rfl⟩) | (go_at_call 105; refine (implNoRules _ _ _ _ _ _ (by assumption) _).mono ?_; rintro e w' ⟨rfl, rfl⟩))
    refine (implNameOk y _ hy).mono ?_
    rintro e w2 ⟨rfl, hb2⟩
    rw [c2]
    have B2 : Below w.heap.size w w2 := bthen (by (repeat (first | with_reducible assumption | with_reducible exact Below.refl _ _ | with_reducible refine Below.drew ?_ | with_reducible refine bdrewN ?_ _ | (with_reducible refine Below.alloc ?_ ?side _; case side => (first | omega | (simp [go_sem]; done) | (simp [go_sem]; omega))) | (with_reducible refine Below.setCell ?_ ?side _; case side => (first | omega | (simp [go_sem]; done) | (simp [go_sem]; omega)))))) hb2
    have hz2 : w.heap.size < w2.heap.size := by have := hb2.size; simp at this; omega
    have a20 : w2.cell? ⟨w.heap.size, 0, none⟩ = some (.int .i64 k) := by rw [hb2.cell (by simp [go_sem])]; simp [go_sem]
    have a21 : w2.cell? ⟨w.heap.size, 1, none⟩ = some (.int .i64 n) := by rw [hb2.cell (by simp [go_sem])]; simp [go_sem]
    have a22 : w2.cell? ⟨w.heap.size, 2, none⟩ = some (.string y) := by rw [hb2.cell (by simp [go_sem])]; simp [go_sem]
    have a23 : w2.cell? ⟨w.heap.size, 3, none⟩ = some (.string t) := by rw [hb2.cell (by simp [go_sem])]; simp [go_sem]
    have a24 : w2.cell? ⟨w.heap.size, 4, none⟩ = some (.int .i64 r) := by rw [hb2.cell (by simp [go_sem])]; simp [go_sem]
    clear hb2
    go_wp2_with (first | (go_at_call 109; refine (implAmountOk _ _ (by assumption) _).mono ?_; rintro e w' ⟨rfl, hww⟩; subst hww) | (go_at_call 103; refine (implNoNumber _ _ _ _ _ _ (by assumption) _).mono ?_; rintro e w' ⟨rfl, rfl⟩) | (go_at_call 104; refine (implNoText _ _ _ _ _ _ (by assumption) _).mono ?_; rintro e w' ⟨rfl, rfl⟩) | (go_at_call 105; refine (implNoRules _ _ _ _ _ _ (by assumption) _).mono ?_; rintro e w' ⟨rfl, rfl⟩))
    go_ret
    exact ⟨ret_bool (unhide HV).symm, by first | exact B2 | exact bthen B2 (bnew _ _) | exact bthen B2 (bthen (bnew _ _) (bnew _ _))⟩
  cases c3 : plainB t
  case false =>
    have HV : Hid (textOne ⟨k, n, y, t, r⟩ = false) := hide (by unfold textOne; dsimp only; rw [c1, c2, c3]; first | done | rfl)
    go_enter Try.func110, Try.ntmps110
    go_wp2_with (first | (go_at_call 109; refine (implAmountOk _ _ (by assumption) _).mono ?_; rintro e w' ⟨rfl, hww⟩; subst hww) | (go_at_call 103; refine (implNoNumber _ _ _ _ _ _ (by assumption) _).mono ?_; rintro e w' ⟨rfl, rfl⟩) | (go_at_call 104; refine (implNoText _ _ _ _ _ _ (by assumption) _).mono ?_; rintro e w' ⟨rfl, rfl⟩) | (go_at_call 105; refine (implNoRules _ _ _ _ _ _ (by assumption) _).mono ?_; rintro e w' ⟨rfl, rfl⟩))
    refine (implNameOk y _ hy).mono ?_
    rintro e w2 ⟨rfl, hb2⟩
    rw [c2]
    have B2 : Below w.heap.size w w2 := bthen (by (repeat (first | with_reducible assumption | with_reducible exact Below.refl _ _ | with_reducible refine Below.drew ?_ | with_reducible refine bdrewN ?_ _ | (with_reducible refine Below.alloc ?_ ?side _; case side => (first | omega | (simp [go_sem]; done) | (simp [go_sem]; omega))) | (with_reducible refine Below.setCell ?_ ?side _; case side => (first | omega | (simp [go_sem]; done) | (simp [go_sem]; omega)))))) hb2
    have hz2 : w.heap.size < w2.heap.size := by have := hb2.size; simp at this; omega
    have a20 : w2.cell? ⟨w.heap.size, 0, none⟩ = some (.int .i64 k) := by rw [hb2.cell (by simp [go_sem])]; simp [go_sem]
    have a21 : w2.cell? ⟨w.heap.size, 1, none⟩ = some (.int .i64 n) := by rw [hb2.cell (by simp [go_sem])]; simp [go_sem]
    have a22 : w2.cell? ⟨w.heap.size, 2, none⟩ = some (.string y) := by rw [hb2.cell (by simp [go_sem])]; simp [go_sem]
    have a23 : w2.cell? ⟨w.heap.size, 3, none⟩ = some (.string t) := by rw [hb2.cell (by simp [go_sem])]; simp [go_sem]
    have a24 : w2.cell? ⟨w.heap.size, 4, none⟩ = some (.int .i64 r) := by rw [hb2.cell (by simp [go_sem])]; simp [go_sem]
    clear hb2
    go_wp2_with (first | (go_at_call 109; refine (implAmountOk _ _ (by assumption) _).mono ?_; rintro e w' ⟨rfl, hww⟩; subst hww) | (go_at_call 103; refine (implNoNumber _ _ _ _ _ _ (by assumption) _).mono ?_; rintro e w' ⟨rfl, rfl⟩) | (go_at_call 104; refine (implNoText _ _ _ _ _ _ (by assumption) _).mono ?_; rintro e w' ⟨rfl, rfl⟩) | (go_at_call 105; refine (implNoRules _ _ _ _ _ _ (by assumption) _).mono ?_; rintro e w' ⟨rfl, rfl⟩))
    refine (implPlainOk t _ ht).mono ?_
    rintro e w3 ⟨rfl, hb3⟩
    rw [c3]
    have B3 := bthen B2 hb3
    have hz3 : w.heap.size < w3.heap.size := by have := hb3.size; omega
    have a30 := (hb3.cell (p := ⟨w.heap.size, 0, none⟩) hz2).trans a20
    have a31 := (hb3.cell (p := ⟨w.heap.size, 1, none⟩) hz2).trans a21
    have a32 := (hb3.cell (p := ⟨w.heap.size, 2, none⟩) hz2).trans a22
    have a33 := (hb3.cell (p := ⟨w.heap.size, 3, none⟩) hz2).trans a23
    have a34 := (hb3.cell (p := ⟨w.heap.size, 4, none⟩) hz2).trans a24
    clear hb3 a20 a21 a22 a23 a24 hz2
    go_wp2_with (first | (go_at_call 109; refine (implAmountOk _ _ (by assumption) _).mono ?_; rintro e w' ⟨rfl, hww⟩; subst hww) | (go_at_call 103; refine (implNoNumber _ _ _ _ _ _ (by assumption) _).mono ?_; rintro e w' ⟨rfl, rfl⟩) | (go_at_call 104; refine (implNoText _ _ _ _ _ _ (by assumption) _).mono ?_; rintro e w' ⟨rfl, rfl⟩) | (go_at_call 105; refine (implNoRules _ _ _ _ _ _ (by assumption) _).mono ?_; rintro e w' ⟨rfl, rfl⟩))
    go_ret
    exact ⟨ret_bool (unhide HV).symm, by first | exact B3 | exact bthen B3 (bnew _ _) | exact bthen B3 (bthen (bnew _ _) (bnew _ _))⟩
  cases c4 : decide (r = 0)
  case false =>
    have HV : Hid (textOne ⟨k, n, y, t, r⟩ = false) := hide (by unfold textOne; dsimp only; rw [c1, c2, c3, c4]; first | done | rfl)
    go_enter Try.func110, Try.ntmps110
    go_wp2_with (first | (go_at_call 109; refine (implAmountOk _ _ (by assumption) _).mono ?_; rintro e w' ⟨rfl, hww⟩; subst hww) | (go_at_call 103; refine (implNoNumber _ _ _ _ _ _ (by assumption) _).mono ?_; rintro e w' ⟨rfl, rfl⟩) | (go_at_call 104; refine (implNoText _ _ _ _ _ _ (by assumption) _).mono ?_; rintro e w' ⟨rfl, rfl⟩) | (go_at_call 105; refine (implNoRules _ _ _ _ _ _ (by assumption) _).mono ?_; rintro e w' ⟨rfl, rfl⟩))
    refine (implNameOk y _ hy).mono ?_
    rintro e w2 ⟨rfl, hb2⟩
    rw [c2]
    have B2 : Below w.heap.size w w2 := bthen (by (repeat (first | with_reducible assumption | with_reducible exact Below.refl _ _ | with_reducible refine Below.drew ?_ | with_reducible refine bdrewN ?_ _ | (with_reducible refine Below.alloc ?_ ?side _; case side => (first | omega | (simp [go_sem]; done) | (simp [go_sem]; omega))) | (with_reducible refine Below.setCell ?_ ?side _; case side => (first | omega | (simp [go_sem]; done) | (simp [go_sem]; omega)))))) hb2
    have hz2 : w.heap.size < w2.heap.size := by have := hb2.size; simp at this; omega
    have a20 : w2.cell? ⟨w.heap.size, 0, none⟩ = some (.int .i64 k) := by rw [hb2.cell (by simp [go_sem])]; simp [go_sem]
    have a21 : w2.cell? ⟨w.heap.size, 1, none⟩ = some (.int .i64 n) := by rw [hb2.cell (by simp [go_sem])]; simp [go_sem]
    have a22 : w2.cell? ⟨w.heap.size, 2, none⟩ = some (.string y) := by rw [hb2.cell (by simp [go_sem])]; simp [go_sem]
    have a23 : w2.cell? ⟨w.heap.size, 3, none⟩ = some (.string t) := by rw [hb2.cell (by simp [go_sem])]; simp [go_sem]
    have a24 : w2.cell? ⟨w.heap.size, 4, none⟩ = some (.int .i64 r) := by rw [hb2.cell (by simp [go_sem])]; simp [go_sem]
    clear hb2
    go_wp2_with (first | (go_at_call 109; refine (implAmountOk _ _ (by assumption) _).mono ?_; rintro e w' ⟨rfl, hww⟩; subst hww) | (go_at_call 103; refine (implNoNumber _ _ _ _ _ _ (by assumption) _).mono ?_; rintro e w' ⟨rfl, rfl⟩) | (go_at_call 104; refine (implNoText _ _ _ _ _ _ (by assumption) _).mono ?_; rintro e w' ⟨rfl, rfl⟩) | (go_at_call 105; refine (implNoRules _ _ _ _ _ _ (by assumption) _).mono ?_; rintro e w' ⟨rfl, rfl⟩))
    refine (implPlainOk t _ ht).mono ?_
    rintro e w3 ⟨rfl, hb3⟩
    rw [c3]
    have B3 := bthen B2 hb3
    have hz3 : w.heap.size < w3.heap.size := by have := hb3.size; omega
    have a30 := (hb3.cell (p := ⟨w.heap.size, 0, none⟩) hz2).trans a20
    have a31 := (hb3.cell (p := ⟨w.heap.size, 1, none⟩) hz2).trans a21
    have a32 := (hb3.cell (p := ⟨w.heap.size, 2, none⟩) hz2).trans a22
    have a33 := (hb3.cell (p := ⟨w.heap.size, 3, none⟩) hz2).trans a23
    have a34 := (hb3.cell (p := ⟨w.heap.size, 4, none⟩) hz2).trans a24
    clear hb3 a20 a21 a22 a23 a24 hz2
    go_wp2_with (first | (go_at_call 109; refine (implAmountOk _ _ (by assumption) _).mono ?_; rintro e w' ⟨rfl, hww⟩; subst hww) | (go_at_call 103; refine (implNoNumber _ _ _ _ _ _ (by assumption) _).mono ?_; rintro e w' ⟨rfl, rfl⟩) | (go_at_call 104; refine (implNoText _ _ _ _ _ _ (by assumption) _).mono ?_; rintro e w' ⟨rfl, rfl⟩) | (go_at_call 105; refine (implNoRules _ _ _ _ _ _ (by assumption) _).mono ?_; rintro e w' ⟨rfl, rfl⟩))
    go_ret
    exact ⟨ret_bool (unhide HV).symm, by first | exact B3 | exact bthen B3 (bnew _ _) | exact bthen B3 (bthen (bnew _ _) (bnew _ _))⟩
  have HV : Hid (textOne ⟨k, n, y, t, r⟩ = true) := hide (by unfold textOne; dsimp only; rw [c1, c2, c3, c4]; first | done | rfl)
  go_enter Try.func110, Try.ntmps110
  go_wp2_with (first | (go_at_call 109; refine (implAmountOk _ _ (by assumption) _).mono ?_; rintro e w' ⟨rfl, hww⟩; subst hww) | (go_at_call 103; refine (implNoNumber _ _ _ _ _ _ (by assumption) _).mono ?_; rintro e w' ⟨rfl, rfl⟩) | (go_at_call 104; refine (implNoText _ _ _ _ _ _ (by assumption) _).mono ?_; rintro e w' ⟨rfl, rfl⟩) | (go_at_call 105; refine (implNoRules _ _ _ _ _ _ (by assumption) _).mono ?_; rintro e w' ⟨rfl, rfl⟩))
  refine (implNameOk y _ hy).mono ?_
  rintro e w2 ⟨rfl, hb2⟩
  rw [c2]
  have B2 : Below w.heap.size w w2 := bthen (by (repeat (first | with_reducible assumption | with_reducible exact Below.refl _ _ | with_reducible refine Below.drew ?_ | with_reducible refine bdrewN ?_ _ | (with_reducible refine Below.alloc ?_ ?side _; case side => (first | omega | (simp [go_sem]; done) | (simp [go_sem]; omega))) | (with_reducible refine Below.setCell ?_ ?side _; case side => (first | omega | (simp [go_sem]; done) | (simp [go_sem]; omega)))))) hb2
  have hz2 : w.heap.size < w2.heap.size := by have := hb2.size; simp at this; omega
  have a20 : w2.cell? ⟨w.heap.size, 0, none⟩ = some (.int .i64 k) := by rw [hb2.cell (by simp [go_sem])]; simp [go_sem]
  have a21 : w2.cell? ⟨w.heap.size, 1, none⟩ = some (.int .i64 n) := by rw [hb2.cell (by simp [go_sem])]; simp [go_sem]
  have a22 : w2.cell? ⟨w.heap.size, 2, none⟩ = some (.string y) := by rw [hb2.cell (by simp [go_sem])]; simp [go_sem]
  have a23 : w2.cell? ⟨w.heap.size, 3, none⟩ = some (.string t) := by rw [hb2.cell (by simp [go_sem])]; simp [go_sem]
  have a24 : w2.cell? ⟨w.heap.size, 4, none⟩ = some (.int .i64 r) := by rw [hb2.cell (by simp [go_sem])]; simp [go_sem]
  clear hb2
  go_wp2_with (first | (go_at_call 109; refine (implAmountOk _ _ (by assumption) _).mono ?_; rintro e w' ⟨rfl, hww⟩; subst hww) | (go_at_call 103; refine (implNoNumber _ _ _ _ _ _ (by assumption) _).mono ?_; rintro e w' ⟨rfl, rfl⟩) | (go_at_call 104; refine (implNoText _ _ _ _ _ _ (by assumption) _).mono ?_; rintro e w' ⟨rfl, rfl⟩) | (go_at_call 105; refine (implNoRules _ _ _ _ _ _ (by assumption) _).mono ?_; rintro e w' ⟨rfl, rfl⟩))
  refine (implPlainOk t _ ht).mono ?_
  rintro e w3 ⟨rfl, hb3⟩
  rw [c3]
  have B3 := bthen B2 hb3
  have hz3 : w.heap.size < w3.heap.size := by have := hb3.size; omega
  have a30 := (hb3.cell (p := ⟨w.heap.size, 0, none⟩) hz2).trans a20
  have a31 := (hb3.cell (p := ⟨w.heap.size, 1, none⟩) hz2).trans a21
  have a32 := (hb3.cell (p := ⟨w.heap.size, 2, none⟩) hz2).trans a22
  have a33 := (hb3.cell (p := ⟨w.heap.size, 3, none⟩) hz2).trans a23
  have a34 := (hb3.cell (p := ⟨w.heap.size, 4, none⟩) hz2).trans a24
  clear hb3 a20 a21 a22 a23 a24 hz2
  go_wp2_with (first | (go_at_call 109; refine (implAmountOk _ _ (by assumption) _).mono ?_; rintro e w' ⟨rfl, hww⟩; subst hww) | (go_at_call 103; refine (implNoNumber _ _ _ _ _ _ (by assumption) _).mono ?_; rintro e w' ⟨rfl, rfl⟩) | (go_at_call 104; refine (implNoText _ _ _ _ _ _ (by assumption) _).mono ?_; rintro e w' ⟨rfl, rfl⟩) | (go_at_call 105; refine (implNoRules _ _ _ _ _ _ (by assumption) _).mono ?_; rintro e w' ⟨rfl, rfl⟩))
  go_ret
  exact ⟨ret_bool (unhide HV).symm, by first | exact B3 | exact bthen B3 (bnew _ _) | exact bthen B3 (bthen (bnew _ _) (bnew _ _))⟩
set_option maxHeartbeats 1000000 in
theorem implNum (k n : Int) (y t : ByteArray) (r : Int) (hy : y.size ≤ maxLen) (ht : t.size ≤ maxLen) (w : World) :
    Calls Try.prog 114 #[.agg #[.int .i64 k, .int .i64 n, .string y, .string t, .int .i64 r]] w fun e w' => e = .returned (.bool (numOne ⟨k, n, y, t, r⟩)) ∧ Below w.heap.size w w' := by
  have hbx := bnew w (.cells #[.int .i64 k, .int .i64 n, .string y, .string t, .int .i64 r] 117)
  cases c1 : inB n 0 2147483647
  case false =>
    have HV : Hid (numOne ⟨k, n, y, t, r⟩ = false) := hide (by unfold numOne; dsimp only; rw [c1]; first | done | rfl)
    go_enter Try.func114, Try.ntmps114
    go_wp2_with (first | (go_at_call 109; refine (implAmountOk _ _ (by assumption) _).mono ?_; rintro e w' ⟨rfl, hww⟩; subst hww) | (go_at_call 103; refine (implNoNumber _ _ _ _ _ _ (by assumption) _).mono ?_; rintro e w' ⟨rfl, rfl⟩) | (go_at_call 104; refine (implNoText _ _ _ _ _ _ (by assumption) _).mono ?_; rintro e w' ⟨rfl, rfl⟩) | (go_at_call 105; refine (implNoRules _ _ _ _ _ _ (by assumption) _).mono ?_; rintro e w' ⟨rfl, rfl⟩))
    go_ret
    exact ⟨ret_bool (unhide HV).symm, by (repeat (first | with_reducible assumption | with_reducible exact Below.refl _ _ | with_reducible refine Below.drew ?_ | with_reducible refine bdrewN ?_ _ | (with_reducible refine Below.alloc ?_ ?side _; case side => (first | omega | (simp [go_sem]; done) | (simp [go_sem]; omega))) | (with_reducible refine Below.setCell ?_ ?side _; case side => (first | omega | (simp [go_sem]; done) | (simp [go_sem]; omega)))))⟩
  cases c2 : nameB y
  case false =>
    have HV : Hid (numOne ⟨k, n, y, t, r⟩ = false) := hide (by unfold numOne; dsimp only; rw [c1, c2]; first | done | rfl)
    go_enter Try.func114, Try.ntmps114
    go_wp2_with (first | (go_at_call 109; refine (implAmountOk _ _ (by assumption) _).mono ?_; rintro e w' ⟨rfl, hww⟩; subst hww) | (go_at_call 103; refine (implNoNumber _ _ _ _ _ _ (by assumption) _).mono ?_; rintro e w' ⟨rfl, rfl⟩) | (go_at_call 104; refine (implNoText _ _ _ _ _ _ (by assumption) _).mono ?_; rintro e w' ⟨rfl, rfl⟩) | (go_at_call 105; refine (implNoRules _ _ _ _ _ _ (by assumption) _).mono ?_; rintro e w' ⟨rfl, rfl⟩))
    refine (implNameOk y _ hy).mono ?_
    rintro e w2 ⟨rfl, hb2⟩
    rw [c2]
    have B2 : Below w.heap.size w w2 := bthen (by (repeat (first | with_reducible assumption | with_reducible exact Below.refl _ _ | with_reducible refine Below.drew ?_ | with_reducible refine bdrewN ?_ _ | (with_reducible refine Below.alloc ?_ ?side _; case side => (first | omega | (simp [go_sem]; done) | (simp [go_sem]; omega))) | (with_reducible refine Below.setCell ?_ ?side _; case side => (first | omega | (simp [go_sem]; done) | (simp [go_sem]; omega)))))) hb2
    have hz2 : w.heap.size < w2.heap.size := by have := hb2.size; simp at this; omega
    have a20 : w2.cell? ⟨w.heap.size, 0, none⟩ = some (.int .i64 k) := by rw [hb2.cell (by simp [go_sem])]; simp [go_sem]
    have a21 : w2.cell? ⟨w.heap.size, 1, none⟩ = some (.int .i64 n) := by rw [hb2.cell (by simp [go_sem])]; simp [go_sem]
    have a22 : w2.cell? ⟨w.heap.size, 2, none⟩ = some (.string y) := by rw [hb2.cell (by simp [go_sem])]; simp [go_sem]
    have a23 : w2.cell? ⟨w.heap.size, 3, none⟩ = some (.string t) := by rw [hb2.cell (by simp [go_sem])]; simp [go_sem]
    have a24 : w2.cell? ⟨w.heap.size, 4, none⟩ = some (.int .i64 r) := by rw [hb2.cell (by simp [go_sem])]; simp [go_sem]
    clear hb2
    go_wp2_with (first | (go_at_call 109; refine (implAmountOk _ _ (by assumption) _).mono ?_; rintro e w' ⟨rfl, hww⟩; subst hww) | (go_at_call 103; refine (implNoNumber _ _ _ _ _ _ (by assumption) _).mono ?_; rintro e w' ⟨rfl, rfl⟩) | (go_at_call 104; refine (implNoText _ _ _ _ _ _ (by assumption) _).mono ?_; rintro e w' ⟨rfl, rfl⟩) | (go_at_call 105; refine (implNoRules _ _ _ _ _ _ (by assumption) _).mono ?_; rintro e w' ⟨rfl, rfl⟩))
    go_ret
    exact ⟨ret_bool (unhide HV).symm, by first | exact B2 | exact bthen B2 (bnew _ _) | exact bthen B2 (bthen (bnew _ _) (bnew _ _))⟩
  cases c3 : t.toList.isEmpty
  case false =>
    have HV : Hid (numOne ⟨k, n, y, t, r⟩ = false) := hide (by unfold numOne; dsimp only; rw [c1, c2, c3]; first | done | rfl)
    go_enter Try.func114, Try.ntmps114
    go_wp2_with (first | (go_at_call 109; refine (implAmountOk _ _ (by assumption) _).mono ?_; rintro e w' ⟨rfl, hww⟩; subst hww) | (go_at_call 103; refine (implNoNumber _ _ _ _ _ _ (by assumption) _).mono ?_; rintro e w' ⟨rfl, rfl⟩) | (go_at_call 104; refine (implNoText _ _ _ _ _ _ (by assumption) _).mono ?_; rintro e w' ⟨rfl, rfl⟩) | (go_at_call 105; refine (implNoRules _ _ _ _ _ _ (by assumption) _).mono ?_; rintro e w' ⟨rfl, rfl⟩))
    refine (implNameOk y _ hy).mono ?_
    rintro e w2 ⟨rfl, hb2⟩
    rw [c2]
    have B2 : Below w.heap.size w w2 := bthen (by (repeat (first | with_reducible assumption | with_reducible exact Below.refl _ _ | with_reducible refine Below.drew ?_ | with_reducible refine bdrewN ?_ _ | (with_reducible refine Below.alloc ?_ ?side _; case side => (first | omega | (simp [go_sem]; done) | (simp [go_sem]; omega))) | (with_reducible refine Below.setCell ?_ ?side _; case side => (first | omega | (simp [go_sem]; done) | (simp [go_sem]; omega)))))) hb2
    have hz2 : w.heap.size < w2.heap.size := by have := hb2.size; simp at this; omega
    have a20 : w2.cell? ⟨w.heap.size, 0, none⟩ = some (.int .i64 k) := by rw [hb2.cell (by simp [go_sem])]; simp [go_sem]
    have a21 : w2.cell? ⟨w.heap.size, 1, none⟩ = some (.int .i64 n) := by rw [hb2.cell (by simp [go_sem])]; simp [go_sem]
    have a22 : w2.cell? ⟨w.heap.size, 2, none⟩ = some (.string y) := by rw [hb2.cell (by simp [go_sem])]; simp [go_sem]
    have a23 : w2.cell? ⟨w.heap.size, 3, none⟩ = some (.string t) := by rw [hb2.cell (by simp [go_sem])]; simp [go_sem]
    have a24 : w2.cell? ⟨w.heap.size, 4, none⟩ = some (.int .i64 r) := by rw [hb2.cell (by simp [go_sem])]; simp [go_sem]
    clear hb2
    go_wp2_with (first | (go_at_call 109; refine (implAmountOk _ _ (by assumption) _).mono ?_; rintro e w' ⟨rfl, hww⟩; subst hww) | (go_at_call 103; refine (implNoNumber _ _ _ _ _ _ (by assumption) _).mono ?_; rintro e w' ⟨rfl, rfl⟩) | (go_at_call 104; refine (implNoText _ _ _ _ _ _ (by assumption) _).mono ?_; rintro e w' ⟨rfl, rfl⟩) | (go_at_call 105; refine (implNoRules _ _ _ _ _ _ (by assumption) _).mono ?_; rintro e w' ⟨rfl, rfl⟩))
    go_ret
    exact ⟨ret_bool (unhide HV).symm, by first | exact B2 | exact bthen B2 (bnew _ _) | exact bthen B2 (bthen (bnew _ _) (bnew _ _))⟩
  cases c4 : decide (r = 0)
  case false =>
    have HV : Hid (numOne ⟨k, n, y, t, r⟩ = false) := hide (by unfold numOne; dsimp only; rw [c1, c2, c3, c4]; first | done | rfl)
    go_enter Try.func114, Try.ntmps114
    go_wp2_with (first | (go_at_call 109; refine (implAmountOk _ _ (by assumption) _).mono ?_; rintro e w' ⟨rfl, hww⟩; subst hww) | (go_at_call 103; refine (implNoNumber _ _ _ _ _ _ (by assumption) _).mono ?_; rintro e w' ⟨rfl, rfl⟩) | (go_at_call 104; refine (implNoText _ _ _ _ _ _ (by assumption) _).mono ?_; rintro e w' ⟨rfl, rfl⟩) | (go_at_call 105; refine (implNoRules _ _ _ _ _ _ (by assumption) _).mono ?_; rintro e w' ⟨rfl, rfl⟩))
    refine (implNameOk y _ hy).mono ?_
    rintro e w2 ⟨rfl, hb2⟩
    rw [c2]
    have B2 : Below w.heap.size w w2 := bthen (by (repeat (first | with_reducible assumption | with_reducible exact Below.refl _ _ | with_reducible refine Below.drew ?_ | with_reducible refine bdrewN ?_ _ | (with_reducible refine Below.alloc ?_ ?side _; case side => (first | omega | (simp [go_sem]; done) | (simp [go_sem]; omega))) | (with_reducible refine Below.setCell ?_ ?side _; case side => (first | omega | (simp [go_sem]; done) | (simp [go_sem]; omega)))))) hb2
    have hz2 : w.heap.size < w2.heap.size := by have := hb2.size; simp at this; omega
    have a20 : w2.cell? ⟨w.heap.size, 0, none⟩ = some (.int .i64 k) := by rw [hb2.cell (by simp [go_sem])]; simp [go_sem]
    have a21 : w2.cell? ⟨w.heap.size, 1, none⟩ = some (.int .i64 n) := by rw [hb2.cell (by simp [go_sem])]; simp [go_sem]
    have a22 : w2.cell? ⟨w.heap.size, 2, none⟩ = some (.string y) := by rw [hb2.cell (by simp [go_sem])]; simp [go_sem]
    have a23 : w2.cell? ⟨w.heap.size, 3, none⟩ = some (.string t) := by rw [hb2.cell (by simp [go_sem])]; simp [go_sem]
    have a24 : w2.cell? ⟨w.heap.size, 4, none⟩ = some (.int .i64 r) := by rw [hb2.cell (by simp [go_sem])]; simp [go_sem]
    clear hb2
    go_wp2_with (first | (go_at_call 109; refine (implAmountOk _ _ (by assumption) _).mono ?_; rintro e w' ⟨rfl, hww⟩; subst hww) | (go_at_call 103; refine (implNoNumber _ _ _ _ _ _ (by assumption) _).mono ?_; rintro e w' ⟨rfl, rfl⟩) | (go_at_call 104; refine (implNoText _ _ _ _ _ _ (by assumption) _).mono ?_; rintro e w' ⟨rfl, rfl⟩) | (go_at_call 105; refine (implNoRules _ _ _ _ _ _ (by assumption) _).mono ?_; rintro e w' ⟨rfl, rfl⟩))
    go_ret
    exact ⟨ret_bool (unhide HV).symm, by first | exact B2 | exact bthen B2 (bnew _ _) | exact bthen B2 (bthen (bnew _ _) (bnew _ _))⟩
  have HV : Hid (numOne ⟨k, n, y, t, r⟩ = true) := hide (by unfold numOne; dsimp only; rw [c1, c2, c3, c4]; first | done | rfl)
  go_enter Try.func114, Try.ntmps114
  go_wp2_with (first | (go_at_call 109; refine (implAmountOk _ _ (by assumption) _).mono ?_; rintro e w' ⟨rfl, hww⟩; subst hww) | (go_at_call 103; refine (implNoNumber _ _ _ _ _ _ (by assumption) _).mono ?_; rintro e w' ⟨rfl, rfl⟩) | (go_at_call 104; refine (implNoText _ _ _ _ _ _ (by assumption) _).mono ?_; rintro e w' ⟨rfl, rfl⟩) | (go_at_call 105; refine (implNoRules _ _ _ _ _ _ (by assumption) _).mono ?_; rintro e w' ⟨rfl, rfl⟩))
  refine (implNameOk y _ hy).mono ?_
  rintro e w2 ⟨rfl, hb2⟩
  rw [c2]
  have B2 : Below w.heap.size w w2 := bthen (by (repeat (first | with_reducible assumption | with_reducible exact Below.refl _ _ | with_reducible refine Below.drew ?_ | with_reducible refine bdrewN ?_ _ | (with_reducible refine Below.alloc ?_ ?side _; case side => (first | omega | (simp [go_sem]; done) | (simp [go_sem]; omega))) | (with_reducible refine Below.setCell ?_ ?side _; case side => (first | omega | (simp [go_sem]; done) | (simp [go_sem]; omega)))))) hb2
  have hz2 : w.heap.size < w2.heap.size := by have := hb2.size; simp at this; omega
  have a20 : w2.cell? ⟨w.heap.size, 0, none⟩ = some (.int .i64 k) := by rw [hb2.cell (by simp [go_sem])]; simp [go_sem]
  have a21 : w2.cell? ⟨w.heap.size, 1, none⟩ = some (.int .i64 n) := by rw [hb2.cell (by simp [go_sem])]; simp [go_sem]
  have a22 : w2.cell? ⟨w.heap.size, 2, none⟩ = some (.string y) := by rw [hb2.cell (by simp [go_sem])]; simp [go_sem]
  have a23 : w2.cell? ⟨w.heap.size, 3, none⟩ = some (.string t) := by rw [hb2.cell (by simp [go_sem])]; simp [go_sem]
  have a24 : w2.cell? ⟨w.heap.size, 4, none⟩ = some (.int .i64 r) := by rw [hb2.cell (by simp [go_sem])]; simp [go_sem]
  clear hb2
  go_wp2_with (first | (go_at_call 109; refine (implAmountOk _ _ (by assumption) _).mono ?_; rintro e w' ⟨rfl, hww⟩; subst hww) | (go_at_call 103; refine (implNoNumber _ _ _ _ _ _ (by assumption) _).mono ?_; rintro e w' ⟨rfl, rfl⟩) | (go_at_call 104; refine (implNoText _ _ _ _ _ _ (by assumption) _).mono ?_; rintro e w' ⟨rfl, rfl⟩) | (go_at_call 105; refine (implNoRules _ _ _ _ _ _ (by assumption) _).mono ?_; rintro e w' ⟨rfl, rfl⟩))
  go_ret
  exact ⟨ret_bool (unhide HV).symm, by first | exact B2 | exact bthen B2 (bnew _ _) | exact bthen B2 (bthen (bnew _ _) (bnew _ _))⟩
set_option maxHeartbeats 1000000 in
theorem implJoin (k n : Int) (y t : ByteArray) (r : Int) (m : Int) (hr : 0 ≤ r) (w : World) :
    Calls Try.prog 116 #[.agg #[.int .i64 k, .int .i64 n, .string y, .string t, .int .i64 r, .int .i64 m]] w fun e w' => e = .returned (.bool (joinOne ⟨k, n, y, t, r⟩ m)) ∧ Below w.heap.size w w' := by
  have hbx := bnew w (.cells #[.int .i64 k, .int .i64 n, .string y, .string t, .int .i64 r, .int .i64 m] 119)
  have hin := in_le (m := m) hr
  cases c1 : decide (n = 0)
  case false =>
    have HV : Hid (joinOne ⟨k, n, y, t, r⟩ m = false) := hide (by unfold joinOne; dsimp only; rw [← hin, c1]; first | done | rfl)
    go_enter Try.func116, Try.ntmps116
    go_wp2_with (first | (go_at_call 103; refine (implNoNumber _ _ _ _ _ _ (by assumption) _).mono ?_; rintro e w' ⟨rfl, rfl⟩) | (go_at_call 101; refine (implNoKey _ _ _ _ _ _ (by assumption) _).mono ?_; rintro e w' ⟨rfl, rfl⟩) | (go_at_call 104; refine (implNoText _ _ _ _ _ _ (by assumption) _).mono ?_; rintro e w' ⟨rfl, rfl⟩) | (go_at_call 105; refine (implNoRules _ _ _ _ _ _ (by assumption) _).mono ?_; rintro e w' ⟨rfl, rfl⟩))
    go_ret
    exact ⟨ret_bool (unhide HV).symm, by (repeat (first | with_reducible assumption | with_reducible exact Below.refl _ _ | with_reducible refine Below.drew ?_ | with_reducible refine bdrewN ?_ _ | (with_reducible refine Below.alloc ?_ ?side _; case side => (first | omega | (simp [go_sem]; done) | (simp [go_sem]; omega))) | (with_reducible refine Below.setCell ?_ ?side _; case side => (first | omega | (simp [go_sem]; done) | (simp [go_sem]; omega)))))⟩
  cases c2 : y.toList.isEmpty
  case false =>
    have HV : Hid (joinOne ⟨k, n, y, t, r⟩ m = false) := hide (by unfold joinOne; dsimp only; rw [← hin, c1, c2]; first | done | rfl)
    go_enter Try.func116, Try.ntmps116
    go_wp2_with (first | (go_at_call 103; refine (implNoNumber _ _ _ _ _ _ (by assumption) _).mono ?_; rintro e w' ⟨rfl, rfl⟩) | (go_at_call 101; refine (implNoKey _ _ _ _ _ _ (by assumption) _).mono ?_; rintro e w' ⟨rfl, rfl⟩) | (go_at_call 104; refine (implNoText _ _ _ _ _ _ (by assumption) _).mono ?_; rintro e w' ⟨rfl, rfl⟩) | (go_at_call 105; refine (implNoRules _ _ _ _ _ _ (by assumption) _).mono ?_; rintro e w' ⟨rfl, rfl⟩))
    go_ret
    exact ⟨ret_bool (unhide HV).symm, by (repeat (first | with_reducible assumption | with_reducible exact Below.refl _ _ | with_reducible refine Below.drew ?_ | with_reducible refine bdrewN ?_ _ | (with_reducible refine Below.alloc ?_ ?side _; case side => (first | omega | (simp [go_sem]; done) | (simp [go_sem]; omega))) | (with_reducible refine Below.setCell ?_ ?side _; case side => (first | omega | (simp [go_sem]; done) | (simp [go_sem]; omega)))))⟩
  cases c3 : t.toList.isEmpty
  case false =>
    have HV : Hid (joinOne ⟨k, n, y, t, r⟩ m = false) := hide (by unfold joinOne; dsimp only; rw [← hin, c1, c2, c3]; first | done | rfl)
    go_enter Try.func116, Try.ntmps116
    go_wp2_with (first | (go_at_call 103; refine (implNoNumber _ _ _ _ _ _ (by assumption) _).mono ?_; rintro e w' ⟨rfl, rfl⟩) | (go_at_call 101; refine (implNoKey _ _ _ _ _ _ (by assumption) _).mono ?_; rintro e w' ⟨rfl, rfl⟩) | (go_at_call 104; refine (implNoText _ _ _ _ _ _ (by assumption) _).mono ?_; rintro e w' ⟨rfl, rfl⟩) | (go_at_call 105; refine (implNoRules _ _ _ _ _ _ (by assumption) _).mono ?_; rintro e w' ⟨rfl, rfl⟩))
    go_ret
    exact ⟨ret_bool (unhide HV).symm, by (repeat (first | with_reducible assumption | with_reducible exact Below.refl _ _ | with_reducible refine Below.drew ?_ | with_reducible refine bdrewN ?_ _ | (with_reducible refine Below.alloc ?_ ?side _; case side => (first | omega | (simp [go_sem]; done) | (simp [go_sem]; omega))) | (with_reducible refine Below.setCell ?_ ?side _; case side => (first | omega | (simp [go_sem]; done) | (simp [go_sem]; omega)))))⟩
  cases c4 : decide (r = 0)
  case true =>
    have HV : Hid (joinOne ⟨k, n, y, t, r⟩ m = false) := hide (by unfold joinOne; dsimp only; rw [← hin, c1, c2, c3, c4]; first | done | rfl)
    go_enter Try.func116, Try.ntmps116
    go_wp2_with (first | (go_at_call 103; refine (implNoNumber _ _ _ _ _ _ (by assumption) _).mono ?_; rintro e w' ⟨rfl, rfl⟩) | (go_at_call 101; refine (implNoKey _ _ _ _ _ _ (by assumption) _).mono ?_; rintro e w' ⟨rfl, rfl⟩) | (go_at_call 104; refine (implNoText _ _ _ _ _ _ (by assumption) _).mono ?_; rintro e w' ⟨rfl, rfl⟩) | (go_at_call 105; refine (implNoRules _ _ _ _ _ _ (by assumption) _).mono ?_; rintro e w' ⟨rfl, rfl⟩))
    go_ret
    exact ⟨ret_bool (unhide HV).symm, by (repeat (first | with_reducible assumption | with_reducible exact Below.refl _ _ | with_reducible refine Below.drew ?_ | with_reducible refine bdrewN ?_ _ | (with_reducible refine Below.alloc ?_ ?side _; case side => (first | omega | (simp [go_sem]; done) | (simp [go_sem]; omega))) | (with_reducible refine Below.setCell ?_ ?side _; case side => (first | omega | (simp [go_sem]; done) | (simp [go_sem]; omega)))))⟩
  cases c5 : decide (r ≤ m)
  case false =>
    have c5n : ¬ r ≤ m := of_decide_eq_false c5
    have HV : Hid (joinOne ⟨k, n, y, t, r⟩ m = false) := hide (by unfold joinOne; dsimp only; rw [← hin, c1, c2, c3, c4, c5]; first | done | rfl)
    go_enter Try.func116, Try.ntmps116
    go_wp2_with (first | (go_at_call 103; refine (implNoNumber _ _ _ _ _ _ (by assumption) _).mono ?_; rintro e w' ⟨rfl, rfl⟩) | (go_at_call 101; refine (implNoKey _ _ _ _ _ _ (by assumption) _).mono ?_; rintro e w' ⟨rfl, rfl⟩) | (go_at_call 104; refine (implNoText _ _ _ _ _ _ (by assumption) _).mono ?_; rintro e w' ⟨rfl, rfl⟩) | (go_at_call 105; refine (implNoRules _ _ _ _ _ _ (by assumption) _).mono ?_; rintro e w' ⟨rfl, rfl⟩))
    go_ret
    exact ⟨ret_bool (unhide HV).symm, by (repeat (first | with_reducible assumption | with_reducible exact Below.refl _ _ | with_reducible refine Below.drew ?_ | with_reducible refine bdrewN ?_ _ | (with_reducible refine Below.alloc ?_ ?side _; case side => (first | omega | (simp [go_sem]; done) | (simp [go_sem]; omega))) | (with_reducible refine Below.setCell ?_ ?side _; case side => (first | omega | (simp [go_sem]; done) | (simp [go_sem]; omega)))))⟩
  have c5y : r ≤ m := of_decide_eq_true c5
  have HV : Hid (joinOne ⟨k, n, y, t, r⟩ m = true) := hide (by unfold joinOne; dsimp only; rw [← hin, c1, c2, c3, c4, c5]; first | done | rfl)
  go_enter Try.func116, Try.ntmps116
  go_wp2_with (first | (go_at_call 103; refine (implNoNumber _ _ _ _ _ _ (by assumption) _).mono ?_; rintro e w' ⟨rfl, rfl⟩) | (go_at_call 101; refine (implNoKey _ _ _ _ _ _ (by assumption) _).mono ?_; rintro e w' ⟨rfl, rfl⟩) | (go_at_call 104; refine (implNoText _ _ _ _ _ _ (by assumption) _).mono ?_; rintro e w' ⟨rfl, rfl⟩) | (go_at_call 105; refine (implNoRules _ _ _ _ _ _ (by assumption) _).mono ?_; rintro e w' ⟨rfl, rfl⟩))
  go_ret
  exact ⟨ret_bool (unhide HV).symm, by (repeat (first | with_reducible assumption | with_reducible exact Below.refl _ _ | with_reducible refine Below.drew ?_ | with_reducible refine bdrewN ?_ _ | (with_reducible refine Below.alloc ?_ ?side _; case side => (first | omega | (simp [go_sem]; done) | (simp [go_sem]; omega))) | (with_reducible refine Below.setCell ?_ ?side _; case side => (first | omega | (simp [go_sem]; done) | (simp [go_sem]; omega)))))⟩
theorem implNoR (k n : Int) (y t : ByteArray) (r : Int) (w : World) :
    Calls Try.prog 118 #[.agg #[.int .i64 k, .int .i64 n, .string y, .string t, .int .i64 r]] w fun e w' => e = .returned (.bool false) ∧ Below w.heap.size w w' := by
  go_enter Try.func118, Try.ntmps118
  go_wp2
  go_ret
  exact ⟨rfl, by (repeat (first | with_reducible assumption | with_reducible exact Below.refl _ _ | with_reducible refine Below.drew ?_ | with_reducible refine bdrewN ?_ _ | (with_reducible refine Below.alloc ?_ ?side _; case side => (first | omega | (simp [go_sem]; done) | (simp [go_sem]; omega))) | (with_reducible refine Below.setCell ?_ ?side _; case side => (first | omega | (simp [go_sem]; done) | (simp [go_sem]; omega)))))⟩
end Go.Proofs.Ytlhjhnjpmafceaa
