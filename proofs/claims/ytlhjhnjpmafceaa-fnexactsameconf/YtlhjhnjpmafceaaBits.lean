/-
  How many bits a number has.
-/
import Derived.Test.YtlhjhnjpmafceaaNum
import Derived.Lib.Strings
import Derived.Lib.Slices
import Derived.Lib.Small
import Derived.Lib.Walk
import Derived.Lib.BitFns
namespace Go.Proofs.Ytlhjhnjpmafceaa
open Go.ChangeShapes Go.WideShapes Go.ChangeAt Go.RowKit
set_option linter.unusedVariables false
set_option maxRecDepth 100000

set_option maxHeartbeats 4000000 in
set_option maxRecDepth 100000 in
theorem bLen64a (x : Int) (w : World) (h0 : 0 ≤ x) (h1 : x ≤ 255) :
    Calls Try.prog 83 #[.int .u64 x] w fun e w' => e = .returned (.int .i64 (Lib.bitLen x.toNat)) ∧ w' = w := by
  have HR : Hid (wrap64 (wrap64 (Lib.len8 (x))) = Lib.bitLen x.toNat) := by
    rw [Lib.len8_of (x) (by omega) (by omega)]
    have e : (x).toNat = x.toNat := by omega
    have l := Lib.bitLen_le8' (x) (by omega) (by omega)
    skip
    rw [e] at l ⊢
    refine hide ?_
    unfold wrap64
    omega
  go_enter Try.func83, Try.ntmps83
  go_wp2
  go_ret
  exact ⟨ret_int (unhide HR), rfl⟩
set_option maxHeartbeats 4000000 in
set_option maxRecDepth 100000 in
theorem bLen64b (x : Int) (w : World) (h0 : 256 ≤ x) (h1 : x ≤ 65535) :
    Calls Try.prog 83 #[.int .u64 x] w fun e w' => e = .returned (.int .i64 (Lib.bitLen x.toNat)) ∧ w' = w := by
  have f0 : 0 ≤ x / 256 := by omega
  have f1 : x / 256 ≤ 255 := by omega
  have HR : Hid (wrap64 (8 + wrap64 (Lib.len8 (x / 256))) = Lib.bitLen x.toNat) := by
    rw [Lib.len8_of (x / 256) (by omega) (by omega)]
    have e : (x / 256).toNat = x.toNat / 256 := by omega
    have l := Lib.bitLen_le8' (x / 256) (by omega) (by omega)
    have s := Lib.bitLen_shift8 x.toNat (by omega) (by omega)
    rw [e] at l ⊢
    refine hide ?_
    unfold wrap64
    omega
  go_enter Try.func83, Try.ntmps83
  go_wp2
  go_ret
  exact ⟨ret_int (unhide HR), rfl⟩
set_option maxHeartbeats 4000000 in
set_option maxRecDepth 100000 in
theorem bLen64c (x : Int) (w : World) (h0 : 65536 ≤ x) (h1 : x ≤ 16777215) :
    Calls Try.prog 83 #[.int .u64 x] w fun e w' => e = .returned (.int .i64 (Lib.bitLen x.toNat)) ∧ w' = w := by
  have f0 : 0 ≤ x / 65536 := by omega
  have f1 : x / 65536 ≤ 255 := by omega
  have HR : Hid (wrap64 (16 + wrap64 (Lib.len8 (x / 65536))) = Lib.bitLen x.toNat) := by
    rw [Lib.len8_of (x / 65536) (by omega) (by omega)]
    have e : (x / 65536).toNat = x.toNat / 65536 := by omega
    have l := Lib.bitLen_le8' (x / 65536) (by omega) (by omega)
    have s := Lib.bitLen_shift16 x.toNat (by omega) (by omega)
    rw [e] at l ⊢
    refine hide ?_
    unfold wrap64
    omega
  go_enter Try.func83, Try.ntmps83
  go_wp2
  go_ret
  exact ⟨ret_int (unhide HR), rfl⟩
set_option maxHeartbeats 4000000 in
set_option maxRecDepth 100000 in
theorem bLen64d (x : Int) (w : World) (h0 : 16777216 ≤ x) (h1 : x ≤ 4294967295) :
    Calls Try.prog 83 #[.int .u64 x] w fun e w' => e = .returned (.int .i64 (Lib.bitLen x.toNat)) ∧ w' = w := by
  have f2 : 256 ≤ x / 65536 := by omega
  have f3 : x / 65536 ≤ 65535 := by omega
  have f0 : 0 ≤ x / 65536 / 256 := by omega
  have f1 : x / 65536 / 256 ≤ 255 := by omega
  have HR : Hid (wrap64 (24 + wrap64 (Lib.len8 (x / 65536 / 256))) = Lib.bitLen x.toNat) := by
    rw [Lib.len8_of (x / 65536 / 256) (by omega) (by omega)]
    have e : (x / 65536 / 256).toNat = x.toNat / 16777216 := by omega
    have l := Lib.bitLen_le8' (x / 65536 / 256) (by omega) (by omega)
    have s := Lib.bitLen_shift24 x.toNat (by omega) (by omega)
    rw [e] at l ⊢
    refine hide ?_
    unfold wrap64
    omega
  go_enter Try.func83, Try.ntmps83
  go_wp2
  go_ret
  exact ⟨ret_int (unhide HR), rfl⟩
theorem bLen64 (x : Int) (w : World) (h0 : 0 ≤ x) (h1 : x ≤ 4294967295) :
    Calls Try.prog 83 #[.int .u64 x] w fun e w' => e = .returned (.int .i64 (Lib.bitLen x.toNat)) ∧ w' = w := by
  by_cases c1 : x ≤ 255
  · exact bLen64a x w h0 c1
  by_cases c2 : x ≤ 65535
  · exact bLen64b x w (by omega) c2
  by_cases c3 : x ≤ 16777215
  · exact bLen64c x w (by omega) c3
  exact bLen64d x w (by omega) h1
theorem bLen (x : Int) (w : World) (h0 : 0 ≤ x) (h1 : x ≤ 4294967295) :
    Calls Try.prog 71 #[.int .u64 x] w fun e w' => e = .returned (.int .i64 (Lib.bitLen x.toNat)) ∧ w' = w := by
  go_enter Try.func71, Try.ntmps71
  go_wp2_with (go_at_call 83; refine (bLen64 x _ h0 h1).mono ?_; rintro e w' ⟨rfl, rfl⟩)
  go_ret
  exact ⟨rfl, rfl⟩
theorem bitLen_pow : ∀ (f x : Nat), x < 2 ^ f → 0 < x → 1 ≤ Lib.bitLenAux f x ∧ 2 ^ (Lib.bitLenAux f x - 1) ≤ x
  | 0, x, h, h0 => by simp at h; omega
  | f + 1, x, h, h0 => by
    unfold Lib.bitLenAux
    rw [if_neg (by omega)]
    by_cases hx : x / 2 = 0
    · have e : Lib.bitLenAux f (x / 2) = 0 := by rw [hx]; cases f <;> simp [Lib.bitLenAux]
      rw [e]
      simp
      omega
    · obtain ⟨i1, i2⟩ := bitLen_pow f (x / 2) (by rw [Nat.pow_succ] at h; omega) (by omega)
      refine ⟨by omega, ?_⟩
      have e : 1 + Lib.bitLenAux f (x / 2) - 1 = (Lib.bitLenAux f (x / 2) - 1) + 1 := by omega
      rw [e, Nat.pow_succ]
      omega
theorem bitLen_le (x : Nat) (h : x < 4294967296) (h0 : 0 < x) : 1 ≤ Lib.bitLen x ∧ 2 ^ (Lib.bitLen x - 1) ≤ x := bitLen_pow 64 x (by omega) h0
end Go.Proofs.Ytlhjhnjpmafceaa
