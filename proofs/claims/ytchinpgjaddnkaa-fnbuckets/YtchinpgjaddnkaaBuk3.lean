/-
  Refill and Spend at any bucket, of the program and of the specification.
-/
import Derived.Test.YtchinpgjaddnkaaBukA
namespace Go.Proofs.Ytchinpgjaddnkaa
open Go.ChangeShapes Go.WideShapes Go.ChangeAt Go.RowKit
set_option linter.unusedVariables false
set_option maxRecDepth 100000

def refC (r u t a now : Int) : Bool := bokB r u t a && (decide (a ≤ now) && decide (now ≤ 2147483647))
def refT (r u t a now : Int) : Int := if refC r u t a now = true then fillv r u t a now else t
def refA (r u t a now : Int) : Int := if refC r u t a now = true then now else a
def spT (r u t a n : Int) : Int := if spendOk r u t a n = true then t - n else t
theorem refC_yes {r u t a now : Int} (h : refC r u t a now = true) : bokB r u t a = true ∧ a ≤ now ∧ now ≤ 2147483647 := by
  simpa only [refC, Bool.and_eq_true, decide_eq_true_eq] using h
theorem refC_of {r u t a now : Int} (h : bokB r u t a = true) (h1 : a ≤ now) (h2 : now ≤ 2147483647) : refC r u t a now = true := by
  simp only [refC, Bool.and_eq_true, decide_eq_true_eq]; exact ⟨h, h1, h2⟩
theorem refC_no {r u t a now : Int} (h : ¬ refC r u t a now = true) : bokB r u t a = false ∨ now < a ∨ 2147483647 < now := by
  cases h1 : bokB r u t a
  · exact .inl rfl
  · right
    by_cases h2 : a ≤ now
    · right
      rcases Int.lt_or_le 2147483647 now with h3 | h3
      · exact h3
      · exact absurd (refC_of h1 h2 h3) h
    · left; omega
theorem specRefill_any (r u t a now : Int) (w : World) :
    Calls Try.prog 21 #[.agg #[.int .i64 (r), .int .i64 (u), .int .i64 (t), .int .i64 (a)], .int .i64 now] w fun e w' => e = .returned (.agg #[.int .i64 (r), .int .i64 (u), .int .i64 (refT r u t a now), .int .i64 (refA r u t a now)]) ∧ Below w.heap.size w w' := by
  unfold refT refA
  by_cases h : refC r u t a now = true
  · obtain ⟨h1, h2, h3⟩ := refC_yes h
    rw [if_pos h, if_pos h]
    exact specRefill_yes r u t a now w h1 h2 h3
  · rw [if_neg h, if_neg h]
    exact specRefill_no r u t a now w (refC_no h)
theorem implRefill_any (r u t a now : Int) (w : World) :
    Calls Try.prog 14 #[.agg #[.int .i64 (r), .int .i64 (u), .int .i64 (t), .int .i64 (a)], .int .i64 now] w fun e w' => e = .returned (.agg #[.int .i64 (r), .int .i64 (u), .int .i64 (refT r u t a now), .int .i64 (refA r u t a now)]) ∧ Below w.heap.size w w' := by
  unfold refT refA
  by_cases h : refC r u t a now = true
  · obtain ⟨h1, h2, h3⟩ := refC_yes h
    rw [if_pos h, if_pos h]
    exact implRefill_yes r u t a now w h1 h2 h3
  · rw [if_neg h, if_neg h]
    exact implRefill_no r u t a now w (refC_no h)
theorem specSpend_any (r u t a n : Int) (w : World) :
    Calls Try.prog 17 #[.agg #[.int .i64 (r), .int .i64 (u), .int .i64 (t), .int .i64 (a)], .int .i64 n] w fun e w' => e = .returned (.tuple #[.agg #[.int .i64 (r), .int .i64 (u), .int .i64 (spT r u t a n), .int .i64 (a)], .bool (spendOk r u t a n)]) ∧ Below w.heap.size w w' := by
  unfold spT
  cases h : spendOk r u t a n
  · exact specSpend_no r u t a n w h
  · exact specSpend_yes r u t a n w h
theorem implSpend_any (r u t a n : Int) (w : World) :
    Calls Try.prog 16 #[.agg #[.int .i64 (r), .int .i64 (u), .int .i64 (t), .int .i64 (a)], .int .i64 n] w fun e w' => e = .returned (.tuple #[.agg #[.int .i64 (r), .int .i64 (u), .int .i64 (spT r u t a n), .int .i64 (a)], .bool (spendOk r u t a n)]) ∧ Below w.heap.size w w' := by
  unfold spT
  cases h : spendOk r u t a n
  · exact implSpend_no r u t a n w h
  · exact implSpend_yes r u t a n w h
theorem ref_no {r u t a now : Int} (h : ¬ refC r u t a now = true) : refT r u t a now = t ∧ refA r u t a now = a := ⟨if_neg h, if_neg h⟩
theorem ref_yes {r u t a now : Int} (h : refC r u t a now = true) : refT r u t a now = fillv r u t a now ∧ refA r u t a now = now := ⟨if_pos h, if_pos h⟩
theorem bok_any (r u t a : Int) (w : World) (v : Bool) (h : bokB r u t a = v) : Calls Try.prog 22 #[.agg #[.int .i64 (r), .int .i64 (u), .int .i64 (t), .int .i64 (a)]] w fun e w' => e = .returned (.bool v) ∧ Below w.heap.size w w' := by
  refine (implBucketOk r u t a v h w).mono ?_
  rintro e w' ⟨rfl, rfl⟩
  exact ⟨rfl, bnew _ _⟩
theorem bok_anyS (r u t a : Int) (w : World) (v : Bool) (h : bokB r u t a = v) : Calls Try.prog 23 #[.agg #[.int .i64 (r), .int .i64 (u), .int .i64 (t), .int .i64 (a)]] w fun e w' => e = .returned (.bool v) ∧ Below w.heap.size w w' := by
  refine (specBucketOk r u t a v h w).mono ?_
  rintro e w' ⟨rfl, rfl⟩
  exact ⟨rfl, bnew _ _⟩
theorem spent_ok {r u t a n : Int} (h : spendOk r u t a n = true) : spT r u t a n = t - n ∧ bokB r u (t - n) a = true ∧ 0 ≤ t ∧ t ≤ 999 ∧ 0 ≤ n ∧ n ≤ t := by
  have e : spT r u t a n = t - n := if_pos h
  simp only [spendOk, Bool.and_eq_true, decide_eq_true_eq] at h
  obtain ⟨h1, h2, h3⟩ := h
  have hp := bok_parts h1
  exact ⟨e, bok_of (by omega), by omega, by omega, h2, h3⟩
theorem spent_no {r u t a n : Int} (h : spendOk r u t a n = false) : spT r u t a n = t := if_neg (by rw [h]; exact Bool.false_ne_true)
end Go.Proofs.Ytchinpgjaddnkaa
