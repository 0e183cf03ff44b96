/-
  Contracts of chapter 4's Mix and StripeOf, of the program and of the specification: each call returns just what the plain functions mixv and stripev say, and the world stands.
-/
import Derived.Test.YtjhlammjnggghaaNum
import Derived.Laws.BitsAllLaws
namespace Go.Proofs.Ytjhlammjnggghaa
open Go.ChangeShapes Go.WideShapes Go.ChangeAt Go.RowKit
set_option linter.unusedVariables false
set_option maxRecDepth 100000

theorem bits_xor_i64_nat (a b : Nat) (ha : a < 4611686018427387904) (hb : b < 4611686018427387904) :
    bits .xor .i64 (a : Int) (b : Int) = ((a ^^^ b : Nat) : Int) := by
  have hx : a ^^^ b < 2 ^ 62 := Nat.xor_lt_two_pow (by omega) (by omega)
  have h1 : (BitVec.ofInt 64 (a : Int)).toNat = a := by
    rw [BitVec.ofInt_natCast, BitVec.toNat_ofNat]; exact Nat.mod_eq_of_lt (by omega)
  have h2 : (BitVec.ofInt 64 (b : Int)).toNat = b := by
    rw [BitVec.ofInt_natCast, BitVec.toNat_ofNat]; exact Nat.mod_eq_of_lt (by omega)
  show IntKind.i64.wrap ((BitVec.ofInt 64 (a : Int) ^^^ BitVec.ofInt 64 (b : Int)).toNat : Int) = _
  rw [BitVec.toNat_xor, h1, h2, IntKind.wrap_i64]
  omega
theorem bits_and16 (n : Int) : bits .and .i64 n 65535 = n % 65536 := by
  have h2 : (BitVec.ofInt 64 (65535 : Int)).toNat = 65535 := by decide
  show IntKind.i64.wrap ((BitVec.ofInt 64 n &&& BitVec.ofInt 64 (65535 : Int)).toNat : Int) = _
  rw [BitVec.toNat_and, h2]
  have h3 : (BitVec.ofInt 64 n).toNat &&& 65535 = (BitVec.ofInt 64 n).toNat % 2 ^ 16 := Nat.and_two_pow_sub_one_eq_mod _ 16
  rw [h3, BitVec.toNat_ofInt, IntKind.wrap_i64]
  omega
def low16 (n : Int) : Nat := (n % 65536).toNat
theorem low16_lt (n : Int) : low16 n < 65536 := by unfold low16; omega
theorem low16_eq (n : Int) : n % 65536 = (low16 n : Int) := by unfold low16; omega
def mix1 (x : Nat) : Nat := (x ^^^ (x * 128 % 65536))
def mix2 (x : Nat) : Nat := x ^^^ x / 512
def mix3 (x : Nat) : Nat := (x ^^^ (x * 256 % 65536))
theorem mix1_lt (x : Nat) (h : x < 65536) : mix1 x < 65536 := by
  have : x ^^^ (x * 128 % 65536) < 2 ^ 16 := Nat.xor_lt_two_pow (by omega) (by omega)
  unfold mix1; omega
theorem mix2_lt (x : Nat) (h : x < 65536) : mix2 x < 65536 := by
  have : x ^^^ x / 512 < 2 ^ 16 := Nat.xor_lt_two_pow (by omega) (by omega)
  unfold mix2; omega
theorem mix3_lt (x : Nat) (h : x < 65536) : mix3 x < 65536 := by
  have : x ^^^ (x * 256 % 65536) < 2 ^ 16 := Nat.xor_lt_two_pow (by omega) (by omega)
  unfold mix3; omega
theorem xor_low (x y : Nat) (h : x < 65536) : (x ^^^ y) % 65536 = x ^^^ (y % 65536) := by
  have e := Nat.xor_mod_two_pow (a := x) (b := y) (n := 16)
  have e1 : x % 2 ^ 16 = x := Nat.mod_eq_of_lt (by omega)
  rw [e1] at e
  exact e
def mixn (n : Int) : Nat := mix3 (mix2 (mix1 (low16 n)))
def mixv (n : Int) : Int := (mixn n : Int)
theorem mixn_lt (n : Int) : mixn n < 65536 := mix3_lt _ (mix2_lt _ (mix1_lt _ (low16_lt n)))
theorem mixv_lo (n : Int) : 0 ≤ mixv n := Int.natCast_nonneg _
theorem mixv_hi (n : Int) : mixv n < 65536 := by have := mixn_lt n; unfold mixv; omega
def stripev (t n : Int) : Int := if n < 1 then 0 else (mixv t).tmod n
theorem wmul (x : Nat) (h : x < 65536) (c : Nat) (hc : c < 65536) : wrap64 ((x : Int) * (c : Int)) = ((x * c : Nat) : Int) := by
  have : x * c < 65536 * 65536 := Nat.mul_lt_mul'' h hc
  have e : ((x : Int) * (c : Int)) = ((x * c : Nat) : Int) := by simp
  rw [e]
  unfold wrap64
  omega
theorem sA (x : Nat) (h : x < 65536) : bits .and .i64 (bits .xor .i64 (x : Int) (wrap64 ((x : Int) * 128))) 65535 = (mix1 x : Int) := by
  have e := wmul x h 128 (by omega)
  simp only [Int.cast_ofNat_Int] at e
  rw [e, bits_xor_i64_nat _ _ (by omega) (by omega), bits_and16]
  unfold mix1
  rw [← xor_low x _ h]
  rfl
theorem sB (x : Nat) (h : x < 65536) : bits .xor .i64 (x : Int) ((x : Int) / 512) = (mix2 x : Int) := by
  have e : ((x : Int) / 512) = ((x / 512 : Nat) : Int) := by simp
  rw [e, bits_xor_i64_nat _ _ (by omega) (by omega)]
  rfl
theorem sC (x : Nat) (h : x < 65536) : bits .and .i64 (bits .xor .i64 (x : Int) (wrap64 ((x : Int) * 256))) 65535 = (mix3 x : Int) := by
  have e := wmul x h 256 (by omega)
  simp only [Int.cast_ofNat_Int] at e
  rw [e, bits_xor_i64_nat _ _ (by omega) (by omega), bits_and16]
  unfold mix3
  rw [← xor_low x _ h]
  rfl
theorem iA (x : Nat) (h : x < 65536) : bits .xor .u16 (x : Int) (IntKind.u16.wrap ((x : Int) * 128)) = (mix1 x : Int) := by
  have e : IntKind.u16.wrap ((x : Int) * 128) = ((x * 128 % 65536 : Nat) : Int) := by rw [IntKind.wrap_u16]; simp
  rw [e, u16_xor_nat _ _ h (by omega)]
  rfl
theorem iB (x : Nat) (h : x < 65536) : bits .xor .u16 (x : Int) ((x : Int) / 512) = (mix2 x : Int) := by
  have e : ((x : Int) / 512) = ((x / 512 : Nat) : Int) := by simp
  rw [e, u16_xor_nat _ _ h (by omega)]
  rfl
theorem iC (x : Nat) (h : x < 65536) : bits .xor .u16 (x : Int) (IntKind.u16.wrap ((x : Int) * 256)) = (mix3 x : Int) := by
  have e : IntKind.u16.wrap ((x : Int) * 256) = ((x * 256 % 65536 : Nat) : Int) := by rw [IntKind.wrap_u16]; simp
  rw [e, u16_xor_nat _ _ h (by omega)]
  rfl

theorem specMix (n : Int) (w : World) :
    Calls Try.prog 206 #[.int .i64 n] w fun e w' => e = .returned (.int .i64 (mixv n)) ∧ w' = w := by
  go_enter Try.func206, Try.ntmps206
  go_wp2
  go_ret
  have h0 := low16_lt n
  have h1 := mix1_lt _ h0
  have h2 := mix2_lt _ h1
  refine ⟨ret_int ?_, rfl⟩
  rw [bits_and16 n, low16_eq, sA _ h0, sB _ h1, sC _ h2]
  rfl

theorem implMix (n : Int) (w : World) :
    Calls Try.prog 197 #[.int .i64 n] w fun e w' => e = .returned (.int .i64 (mixv n)) ∧ w' = w := by
  go_enter Try.func197, Try.ntmps197
  go_wp2
  go_ret
  have h0 := low16_lt n
  have h1 := mix1_lt _ h0
  have h2 := mix2_lt _ h1
  refine ⟨ret_int ?_, rfl⟩
  rw [IntKind.wrap_u16 n, low16_eq, iA _ h0, iB _ h1, iC _ h2]
  have h3 := mix3_lt _ h2
  show wrap64 ((mixn n : Nat) : Int) = mixv n
  have h4 := mixn_lt n
  unfold mixv wrap64
  omega

theorem specStripeOf (t n : Int) (w : World) :
    Calls Try.prog 146 #[.int .i64 t, .int .i64 n] w fun e w' => e = .returned (.int .i64 (stripev t n)) ∧ w' = w := by
  unfold stripev
  by_cases h : n < 1
  · rw [if_pos h]
    go_enter Try.func146, Try.ntmps146
    go_wp2
    go_ret
    exact ⟨rfl, rfl⟩
  · rw [if_neg h]
    go_enter Try.func146, Try.ntmps146
    go_wp2_with (go_at_call 206; refine (specMix _ _).mono ?_; rintro e w' ⟨rfl, rfl⟩)
    go_ret
    exact ⟨rfl, rfl⟩

theorem implStripeOf (t n : Int) (w : World) :
    Calls Try.prog 135 #[.int .i64 t, .int .i64 n] w fun e w' => e = .returned (.int .i64 (stripev t n)) ∧ w' = w := by
  unfold stripev
  by_cases h : n < 1
  · rw [if_pos h]
    go_enter Try.func135, Try.ntmps135
    go_wp2
    go_ret
    exact ⟨rfl, rfl⟩
  · rw [if_neg h]
    go_enter Try.func135, Try.ntmps135
    go_wp2_with (go_at_call 197; refine (implMix _ _).mono ?_; rintro e w' ⟨rfl, rfl⟩)
    go_ret
    exact ⟨rfl, rfl⟩

end Go.Proofs.Ytjhlammjnggghaa
