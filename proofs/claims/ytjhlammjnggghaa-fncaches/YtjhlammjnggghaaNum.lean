/-
  Contracts of chapter 1's functions (amounts), of the program and of the specification, over this seat's translation: each call returns just what the plain function says, and the world stands (or has at most new blocks).
-/
import Derived.Test.YtjhlammjnggghaaRows
import Derived.WalkKit
import Derived.ProofKit
import Derived.OpenShut
import Derived.Deep.Draws
namespace Go.Proofs.Ytjhlammjnggghaa
open Go.ChangeShapes Go.WideShapes Go.ChangeAt Go.RowKit
set_option linter.unusedVariables false
set_option maxRecDepth 100000

theorem hide {p : Prop} (h : p) : Hid p := h
theorem unhide {p : Prop} (h : Hid p) : p := h
theorem ret_bool {a b : Bool} (h : a = b) : Ending.returned (.bool a) = .returned (.bool b) := by rw [h]
theorem ret_int {k : IntKind} {a b : Int} (h : a = b) : Ending.returned (.int k a) = .returned (.int k b) := by rw [h]
theorem bthen {a b c : World} (h : Below a.heap.size a b) (k : Below b.heap.size b c) : Below a.heap.size a c := h.trans (k.mono h.size)
theorem bnew (w : World) (o : Obj) : Below w.heap.size w (w.alloc o) := (Below.refl _ _).alloc (Nat.le_refl _) _
theorem bdrewN {B : Nat} {a w : World} (h : Below B a w) (n : Nat) : Below B a (w.drewN n) := ⟨h.os, h.tape, h.output, h.size, h.block⟩
theorem own : ownKnob Try.prog.godebug = none := by kernel_rfl

def capv (n : Int) : Int := if n < 0 then 0 else if 2147483647 < n then 2147483647 else n
theorem capv_lo (n : Int) : 0 ≤ capv n := by unfold capv; split <;> (try split) <;> omega
theorem capv_hi (n : Int) : capv n ≤ 2147483647 := by unfold capv; split <;> (try split) <;> omega
theorem capv_in {n : Int} (h0 : 0 ≤ n) (h1 : n ≤ 2147483647) : capv n = n := by unfold capv; rw [if_neg (by omega), if_neg (by omega)]
theorem capv_capv (n : Int) : capv (capv n) = capv n := capv_in (capv_lo n) (capv_hi n)
def addv (a b : Int) : Int := capv (capv a + capv b)
def subv (a b : Int) : Int := capv (capv a - capv b)
def mulv (a b : Int) : Int := capv (capv a * capv b)
theorem mul_lo (a b : Int) : 0 ≤ capv a * capv b := Int.mul_nonneg (capv_lo a) (capv_lo b)
theorem mul_hi (a b : Int) : capv a * capv b ≤ 4611686014132420609 :=
  Int.le_trans (Int.mul_le_mul (capv_hi a) (capv_hi b) (capv_lo b) (by omega)) (by omega)
def sumTo (zs : List Int) : Int := zs.foldl (fun s p => capv (s + capv p)) 0
theorem sumTo_snoc (zs : List Int) (x : Int) : sumTo (zs ++ [x]) = capv (sumTo zs + capv x) := by simp [sumTo, List.foldl_append]
theorem foldl_cap (zs : List Int) (s : Int) (h0 : 0 ≤ s) (h1 : s ≤ 2147483647) : 0 ≤ zs.foldl (fun s p => capv (s + capv p)) s ∧ zs.foldl (fun s p => capv (s + capv p)) s ≤ 2147483647 := by
  induction zs generalizing s with
  | nil => exact ⟨h0, h1⟩
  | cons x r ih => exact ih _ (capv_lo _) (capv_hi _)
theorem sumTo_lo (zs : List Int) : 0 ≤ sumTo zs := (foldl_cap zs 0 (by omega) (by omega)).1
theorem sumTo_hi (zs : List Int) : sumTo zs ≤ 2147483647 := (foldl_cap zs 0 (by omega) (by omega)).2
theorem sumTo_two (a b : Int) : sumTo [a, b] = addv a b := by
  have h0 := capv_lo a
  have h1 := capv_hi a
  show capv (capv (0 + capv a) + capv b) = capv (capv a + capv b)
  rw [Int.zero_add, capv_capv]

theorem specCap (n : Int) (w : World) :
    Calls Try.prog 172 #[.int .i64 n] w fun e w' => e = .returned (.int .i64 (capv n)) ∧ w' = w := by
  unfold capv
  by_cases h0 : n < 0
  · rw [if_pos h0]
    go_enter Try.func172, Try.ntmps172
    go_wp2
    go_ret
    exact ⟨rfl, rfl⟩
  · rw [if_neg h0]
    by_cases h1 : 2147483647 < n
    · rw [if_pos h1]
      go_enter Try.func172, Try.ntmps172
      go_wp2
      go_ret
      exact ⟨rfl, rfl⟩
    · rw [if_neg h1]
      go_enter Try.func172, Try.ntmps172
      go_wp2
      go_ret
      exact ⟨rfl, rfl⟩

theorem implCap (n : Int) (w : World) :
    Calls Try.prog 174 #[.int .i64 n] w fun e w' => e = .returned (.int .i64 (capv n)) ∧ w' = w := by
  unfold capv
  by_cases h0 : n < 0
  · rw [if_pos h0]
    go_enter Try.func174, Try.ntmps174
    go_wp2
    go_ret
    exact ⟨rfl, rfl⟩
  · rw [if_neg h0]
    by_cases h1 : 2147483647 < n
    · rw [if_pos h1]
      go_enter Try.func174, Try.ntmps174
      go_wp2
      go_ret
      exact ⟨rfl, rfl⟩
    · rw [if_neg h1]
      go_enter Try.func174, Try.ntmps174
      go_wp2
      go_ret
      exact ⟨rfl, rfl⟩

theorem specSub (a b : Int) (w : World) :
    Calls Try.prog 239 #[.int .i64 a, .int .i64 b] w fun e w' => e = .returned (.int .i64 (subv a b)) ∧ w' = w := by
  have ha := capv_lo a
  have ha' := capv_hi a
  have hb := capv_lo b
  have hb' := capv_hi b
  go_enter Try.func239, Try.ntmps239
  go_wp2_with (go_at_call 172; refine (specCap _ _).mono ?_; rintro e w' ⟨rfl, rfl⟩)
  go_ret
  exact ⟨rfl, rfl⟩

theorem implSub (a b : Int) (w : World) :
    Calls Try.prog 243 #[.int .i64 a, .int .i64 b] w fun e w' => e = .returned (.int .i64 (subv a b)) ∧ w' = w := by
  have ha := capv_lo a
  have ha' := capv_hi a
  have hb := capv_lo b
  have hb' := capv_hi b
  go_enter Try.func243, Try.ntmps243
  go_wp2_with (go_at_call 174; refine (implCap _ _).mono ?_; rintro e w' ⟨rfl, rfl⟩)
  go_ret
  exact ⟨rfl, rfl⟩

def inB (n lo hi : Int) : Bool := decide (lo ≤ n) && decide (n ≤ hi)
theorem inB_iff (n lo hi : Int) : inB n lo hi = true ↔ lo ≤ n ∧ n ≤ hi := by simp [inB]
theorem specIn (n lo hi : Int) (v : Bool) (h : inB n lo hi = v) (w : World) :
    Calls Try.prog 133 #[.int .i64 n, .int .i64 lo, .int .i64 hi] w fun e w' => e = .returned (.bool v) ∧ w' = w := by
  subst h
  unfold inB
  by_cases h1 : lo ≤ n <;> by_cases h2 : n ≤ hi <;> simp only [h1, h2, decide_true, decide_false, Bool.and_true, Bool.and_false] <;>
  · go_enter Try.func133, Try.ntmps133
    go_wp2
    go_ret
    exact ⟨rfl, rfl⟩

theorem implAmountOk (n : Int) (v : Bool) (h : inB n 0 2147483647 = v) (w : World) :
    Calls Try.prog 304 #[.int .i64 n] w fun e w' => e = .returned (.bool v) ∧ w' = w := by
  subst h
  unfold inB
  by_cases h1 : 0 ≤ n <;> by_cases h2 : n ≤ 2147483647 <;> simp only [h1, h2, decide_true, decide_false, Bool.and_true, Bool.and_false] <;>
  · go_enter Try.func304, Try.ntmps304
    go_wp2
    go_ret
    exact ⟨rfl, rfl⟩

end Go.Proofs.Ytjhlammjnggghaa
