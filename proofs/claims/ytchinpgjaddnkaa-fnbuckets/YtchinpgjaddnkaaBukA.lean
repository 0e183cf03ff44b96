/-
  What a refill comes to: the least of what may be and what came; in two parts as in one.
-/
import Derived.Test.YtchinpgjaddnkaaRefill
import Derived.Test.YtchinpgjaddnkaaSpend
namespace Go.Proofs.Ytchinpgjaddnkaa
open Go.ChangeShapes Go.WideShapes Go.ChangeAt Go.RowKit
set_option linter.unusedVariables false
set_option maxRecDepth 100000

theorem bok_parts {r b t a : Int} (h : bokB r b t a = true) : (0 ≤ r ∧ r ≤ 99) ∧ (0 ≤ b ∧ b ≤ 999) ∧ (0 ≤ t ∧ t ≤ b) ∧ 0 ≤ a ∧ a ≤ 2147483647 := by
  simpa only [bokB, Bool.and_eq_true, inB_iff] using h
theorem bok_of {r b t a : Int} (h : (0 ≤ r ∧ r ≤ 99) ∧ (0 ≤ b ∧ b ≤ 999) ∧ (0 ≤ t ∧ t ≤ b) ∧ 0 ≤ a ∧ a ≤ 2147483647) : bokB r b t a = true := by
  simpa only [bokB, Bool.and_eq_true, inB_iff] using h
theorem fill_min {r b t a now : Int} (h : bokB r b t a = true) (h1 : a ≤ now) (h2 : now ≤ 2147483647) : fillv r b t a now = min b (t + r * (now - a)) := by
  obtain ⟨⟨r0, r1⟩, ⟨b0, b1⟩, ⟨t0, t1⟩, a0, a1⟩ := bok_parts h
  have hp : 0 ≤ r * (now - a) := Int.mul_nonneg r0 (by omega)
  have hs : subv now a = now - a := by
    unfold subv
    rw [capv_in (n := now) (by omega) h2, capv_in (n := a) a0 a1, capv_in (by omega) (by omega)]
  unfold fillv addv mulv
  rw [hs, capv_in (n := r) r0 (by omega), capv_in (n := now - a) (by omega) (by omega), capv_in (n := t) t0 (by omega), capv_capv]
  generalize r * (now - a) = p at *
  rcases Int.lt_or_le 2147483647 p with hh | hh
  · have e1 : capv p = 2147483647 := by unfold capv; rw [if_neg (by omega), if_pos hh]
    have e2 : capv (t + 2147483647) = 2147483647 := by
      unfold capv
      rw [if_neg (by omega)]
      split <;> omega
    rw [e1, e2]
    split <;> omega
  · rw [capv_in hp hh]
    rcases Int.lt_or_le 2147483647 (t + p) with hg | hg
    · have e2 : capv (t + p) = 2147483647 := by unfold capv; rw [if_neg (by omega), if_pos hg]
      rw [e2]
      split <;> omega
    · rw [capv_in (by omega) hg]
      split <;> omega
theorem fill_ok {r b t a now : Int} (h : bokB r b t a = true) (h1 : a ≤ now) (h2 : now ≤ 2147483647) : bokB r b (fillv r b t a now) now = true := by
  have e := fill_min h h1 h2
  obtain ⟨⟨r0, r1⟩, ⟨b0, b1⟩, ⟨t0, t1⟩, a0, a1⟩ := bok_parts h
  have hp : 0 ≤ r * (now - a) := Int.mul_nonneg r0 (by omega)
  rw [e]
  exact bok_of (by omega)
theorem fill_ge {r b t a now : Int} (h : bokB r b t a = true) (h1 : a ≤ now) (h2 : now ≤ 2147483647) : t ≤ fillv r b t a now := by
  have e := fill_min h h1 h2
  obtain ⟨⟨r0, r1⟩, ⟨b0, b1⟩, ⟨t0, t1⟩, a0, a1⟩ := bok_parts h
  have hp : 0 ≤ r * (now - a) := Int.mul_nonneg r0 (by omega)
  omega
theorem fill_two {r b t a m now : Int} (h : bokB r b t a = true) (h1 : a ≤ m) (h2 : m ≤ now) (h3 : now ≤ 2147483647) : fillv r b (fillv r b t a m) m now = fillv r b t a now := by
  rw [fill_min (fill_ok h h1 (by omega)) h2 h3, fill_min h h1 (by omega), fill_min h (by omega) h3]
  obtain ⟨⟨r0, r1⟩, ⟨b0, b1⟩, ⟨t0, t1⟩, a0, a1⟩ := bok_parts h
  have hp : 0 ≤ r * (now - m) := Int.mul_nonneg r0 (by omega)
  have hq : 0 ≤ r * (m - a) := Int.mul_nonneg r0 (by omega)
  have he : r * (now - a) = r * (m - a) + r * (now - m) := by rw [← Int.mul_add]; congr 1; omega
  rw [he]
  omega
theorem fill_most {r b t a now : Int} (h : bokB r b t a = true) (h1 : a ≤ now) (h2 : now ≤ 2147483647) (k : Int) : fillv r b t a now ≤ addv b (mulv r k) := by
  have e := fill_min h h1 h2
  obtain ⟨⟨r0, r1⟩, ⟨b0, b1⟩, ⟨t0, t1⟩, a0, a1⟩ := bok_parts h
  have hb : b ≤ addv b (mulv r k) := by
    unfold addv
    rw [capv_in (n := b) b0 (by omega)]
    have hl := capv_lo (mulv r k)
    generalize capv (mulv r k) = q at *
    unfold capv
    split <;> (try split) <;> omega
  omega
end Go.Proofs.Ytchinpgjaddnkaa
