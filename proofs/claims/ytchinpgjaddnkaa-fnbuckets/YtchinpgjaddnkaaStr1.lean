/-
  Contracts of chapter 1's functions on texts (names, plain texts), of the program and of the specification, over this seat's translation.
-/
import Derived.Test.YtchinpgjaddnkaaNum
import Derived.Laws.RangeAny
namespace Go.Proofs.Ytchinpgjaddnkaa
open Go.ChangeShapes Go.WideShapes Go.ChangeAt Go.RowKit
set_option linter.unusedVariables false
set_option maxRecDepth 100000

def allTo (p : Nat → Bool) (s : ByteArray) (k : Nat) : Bool := (s.data.toList.take k).all (fun c => p c.toNat)
def allB (p : Nat → Bool) (s : ByteArray) : Bool := s.data.toList.all (fun c => p c.toNat)
theorem allTo_zero (p : Nat → Bool) (s : ByteArray) : allTo p s 0 = true := by simp [allTo]
theorem allTo_succ (p : Nat → Bool) (s : ByteArray) (k : Nat) (h : k < s.size) : allTo p s (k + 1) = (allTo p s k && p (s[k]'h).toNat) := by
  unfold allTo
  rw [List.take_succ_eq_append_getElem (by simpa using h)]
  simp [List.all_append]
  rfl
theorem allTo_end (p : Nat → Bool) (s : ByteArray) (k : Nat) (h : ¬ k < s.size) : allTo p s k = allB p s := by
  unfold allTo allB
  rw [List.take_of_length_le (by simp; omega)]
theorem allB_false (p : Nat → Bool) (s : ByteArray) (k : Nat) (h : k < s.size) (hp : p (s[k]'h).toNat = false) : allB p s = false := by
  unfold allB
  rw [List.all_eq_false]
  refine ⟨s[k], ?_, by simp [hp]⟩
  show s.data[k] ∈ s.data.toList
  simp
def lowerP (c : Nat) : Bool := decide (97 ≤ c) && decide (c ≤ 122)
def plainP (c : Nat) : Bool := decide (32 ≤ c) && decide (c ≤ 126) && !(c == 34)
def nameB (s : ByteArray) : Bool := allB lowerP s && (decide (1 ≤ s.size) && decide (s.size ≤ 8))
def plainB (s : ByteArray) : Bool := allB plainP s && decide (s.size ≤ 20)
theorem lowerP_yes {c : Nat} (h : 97 ≤ c) (h' : c ≤ 122) : lowerP c = true := by simp [lowerP, h, h']
theorem lowerP_no {c : Nat} (h : c < 97 ∨ 122 < c) : lowerP c = false := by
  unfold lowerP; rcases h with h | h
  · rw [decide_eq_false (by omega)]; rfl
  · rw [decide_eq_false (p := c ≤ 122) (by omega)]; simp
theorem plainP_yes {c : Nat} (h : 32 ≤ c) (h' : c ≤ 126) (h'' : c ≠ 34) : plainP c = true := by simp [plainP, h, h', h'']
theorem plainP_no {c : Nat} (h : c < 32 ∨ 126 < c ∨ c = 34) : plainP c = false := by
  unfold plainP; rcases h with h | h | h
  · rw [decide_eq_false (by omega)]; rfl
  · rw [decide_eq_false (p := c ≤ 126) (by omega)]; simp
  · subst h; rfl

theorem ne_of_size {s : ByteArray} (h : s.size ≠ 0) : s.toList.isEmpty = false := by
  rw [ByteArray.toList_eq]
  cases hl : s.data.toList with
  | nil => exact absurd (by have := congrArg List.length hl; simpa using this) h
  | cons _ _ => rfl
theorem decode_bound (s : ByteArray) (pos : Nat) (h : pos < s.size) : ((s[pos]'h).toNat < 128 ∧ Utf8.decode s pos = ((s[pos]'h).toNat, 1)) ∨ (128 ≤ (s[pos]'h).toNat ∧ 128 ≤ (Utf8.decode s pos).1 ∧ (Utf8.decode s pos).1 ≤ 2147483647) := by
  by_cases ha : (s[pos]'h).toNat < 128
  · exact .inl ⟨ha, decode_ascii s pos h ha⟩
  · exact .inr ⟨by omega, (decode_high s pos h (by omega)).1, decode_le s pos⟩

def inv (x a b : Int) : Bool := decide (a ≤ x) && decide (x ≤ b)
theorem inv_nat (x a b : Nat) : (true && (decide (a ≤ x) && decide (x ≤ b))) = inv x a b := by
  unfold inv; rw [Bool.true_and]; congr 1 <;> exact decide_eq_decide.2 (by omega)
theorem specL1In (x a b : Int) (w : World) :
    Calls Try.prog 46 #[.int .i64 x, .int .i64 a, .int .i64 b] w fun e w' => e = .returned (.bool (inv x a b)) ∧ w' = w := by
  unfold inv
  by_cases h : a ≤ x
  · by_cases h' : x ≤ b
    · rw [decide_eq_true h, decide_eq_true h']
      go_enter Try.func46, Try.ntmps46
      go_wp2
      go_ret
      exact ⟨by simp, rfl⟩
    · rw [decide_eq_true h, decide_eq_false h']
      go_enter Try.func46, Try.ntmps46
      go_wp2
      go_ret
      exact ⟨by simp, rfl⟩
  · rw [decide_eq_false h]
    go_enter Try.func46, Try.ntmps46
    go_wp2
    go_ret
    exact ⟨by simp, rfl⟩

end Go.Proofs.Ytchinpgjaddnkaa
