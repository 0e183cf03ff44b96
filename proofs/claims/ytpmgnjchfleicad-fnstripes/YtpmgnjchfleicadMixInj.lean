/-
  Mix is one-to-one over the numbers of 16 bits.
-/
import Derived.Test.YtpmgnjchfleicadMix
namespace Go.Proofs.Ytpmgnjchfleicad
set_option linter.unusedVariables false

theorem shl_xor (x y s : Nat) : (x ^^^ y) * 2 ^ s = (x * 2 ^ s) ^^^ (y * 2 ^ s) := by
  rw [← Nat.shiftLeft_eq, ← Nat.shiftLeft_eq, ← Nat.shiftLeft_eq, Nat.shiftLeft_xor_distrib]
theorem shr_xor (x y s : Nat) : (x ^^^ y) / 2 ^ s = (x / 2 ^ s) ^^^ (y / 2 ^ s) := by
  rw [← Nat.shiftRight_eq_div_pow, ← Nat.shiftRight_eq_div_pow, ← Nat.shiftRight_eq_div_pow, Nat.shiftRight_xor_distrib]
theorem xor_self_of {a b c d : Nat} (h : a ^^^ c = b ^^^ d) : a ^^^ b = c ^^^ d := by
  have : (a ^^^ c) ^^^ (b ^^^ c) = (b ^^^ d) ^^^ (b ^^^ c) := by rw [h]
  have e1 : (a ^^^ c) ^^^ (b ^^^ c) = a ^^^ b := by
    rw [Nat.xor_comm b c, Nat.xor_assoc, ← Nat.xor_assoc c c b, Nat.xor_self, Nat.zero_xor]
  have e2 : (b ^^^ d) ^^^ (b ^^^ c) = c ^^^ d := by
    rw [Nat.xor_comm b d, Nat.xor_assoc, ← Nat.xor_assoc b b c, Nat.xor_self, Nat.zero_xor, Nat.xor_comm]
  rw [e1, e2] at this
  exact this
theorem eq_of_xor {x y : Nat} (h : x ^^^ y = 0) : x = y := by
  have : (x ^^^ y) ^^^ y = 0 ^^^ y := by rw [h]
  rwa [Nat.xor_assoc, Nat.xor_self, Nat.xor_zero, Nat.zero_xor] at this
theorem mix1_inj {x y : Nat} (hx : x < 65536) (hy : y < 65536) (h : mix1 x = mix1 y) : x = y := by
  have h1 := xor_self_of h
  have h2 : (x * 128 % 65536) ^^^ (y * 128 % 65536) = (x ^^^ y) * 128 % 65536 := by
    have := Nat.xor_mod_two_pow (a := x * 128) (b := y * 128) (n := 16)
    have s := shl_xor x y 7
    rw [show (2 : Nat) ^ 7 = 128 from rfl] at s
    rw [show (2 : Nat) ^ 16 = 65536 from rfl] at this
    rw [← this, ← s]
  rw [h2] at h1
  have hz : x ^^^ y < 2 ^ 16 := Nat.xor_lt_two_pow (by omega) (by omega)
  apply eq_of_xor
  generalize x ^^^ y = z at *
  omega
theorem mix2_inj {x y : Nat} (hx : x < 65536) (hy : y < 65536) (h : mix2 x = mix2 y) : x = y := by
  have h1 := xor_self_of h
  have s := shr_xor x y 9
  rw [show (2 : Nat) ^ 9 = 512 from rfl] at s
  rw [← s] at h1
  apply eq_of_xor
  generalize x ^^^ y = z at *
  omega
theorem mix3_inj {x y : Nat} (hx : x < 65536) (hy : y < 65536) (h : mix3 x = mix3 y) : x = y := by
  have h1 := xor_self_of h
  have h2 : (x * 256 % 65536) ^^^ (y * 256 % 65536) = (x ^^^ y) * 256 % 65536 := by
    have := Nat.xor_mod_two_pow (a := x * 256) (b := y * 256) (n := 16)
    have s := shl_xor x y 8
    rw [show (2 : Nat) ^ 8 = 256 from rfl] at s
    rw [show (2 : Nat) ^ 16 = 65536 from rfl] at this
    rw [← this, ← s]
  rw [h2] at h1
  have hz : x ^^^ y < 2 ^ 16 := Nat.xor_lt_two_pow (by omega) (by omega)
  apply eq_of_xor
  generalize x ^^^ y = z at *
  omega
theorem mixn_inj {x y : Int} (h : mixn x = mixn y) : x % 65536 = y % 65536 := by
  have hx := low16_lt x
  have hy := low16_lt y
  have h2 := mix3_inj (mix2_lt _ (mix1_lt _ hx)) (mix2_lt _ (mix1_lt _ hy)) h
  have h1 := mix2_inj (mix1_lt _ hx) (mix1_lt _ hy) h2
  have h0 := mix1_inj hx hy h1
  rw [low16_eq, low16_eq, h0]

end Go.Proofs.Ytpmgnjchfleicad
