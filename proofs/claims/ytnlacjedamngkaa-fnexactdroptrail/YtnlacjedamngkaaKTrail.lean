/-
  Trail: the contract of the law's look at its marks.
-/
import Derived.Test.YtnlacjedamngkaaNTrail
import Derived.Test.YtnlacjedamngkaaKSpan
namespace Go.Proofs.Ytnlacjedamngkaa
open Go.ChangeShapes Go.WideShapes Go.ChangeAt Go.RowKit
set_option linter.unusedVariables false
set_option maxRecDepth 100000

set_option maxHeartbeats 4000000 in
theorem mHeldTrailS (l : List TrailD) (S : Nat → Prop) (v : Value) (k : Int) (w : World) (h0 : 0 < k) (h1 : k + cntL trailCnt l + 4 ≤ 1099511627776) (ha : LAt 4 trailR w S v (markL mkTrail trailCnt l k)) :
    Calls Try.prog 25 #[v, .int .i64 k] w fun e w' => e = .returned (.int .i64 (k + cntL trailCnt l)) ∧ Below w.heap.size w w' := by
  obtain ⟨a, cap, rfl⟩ := ha.form
  have hl := ha.len
  rw [markL_len] at hl
  have HA := hide ha
  clear ha
  rw [markL_len]
  go_enter Try.func25, Try.ntmps25
  go_wp2
  go_loopw [1, 5] (fun kk i wk => ∃ j : Nat, j ≤ l.length ∧ i = .int .i64 j ∧ kk = .int .i64 (k + cntL trailCnt (l.take j)) ∧ Below w.heap.size w wk) (fun _ i _ => l.length - (intOf i).toNat)
  case atStart => exact ⟨0, Nat.zero_le _, rfl, by simp [cntL], Below.refl _ _⟩
  case round =>
    obtain ⟨j, hj, rfl, rfl, hbl⟩ := hrel
    have hle := cntL_le trailCnt l j
    by_cases hlt : j < l.length
    · have hji : (j : Int) < (l.length : Int) := by omega
      have hsn := cntL_snoc trailCnt l j hlt
      have hle2 := cntL_le trailCnt l (j + 1)
      obtain ⟨b, o, cs, rfl, hbk, hSb, hcs, hin⟩ := (unhide HA).at j (by rw [markL_len]; exact hlt)
      have hin := hin.turn hbk (Below.turn hbl) (fun e => e)
      have he : (markL mkTrail trailCnt l k)[j]'(by rw [markL_len]; exact hlt) = mkTrail l[j] (k + cntL trailCnt (l.take j)) := by
        have h := markL_at mkTrail trailCnt l k j hlt
        rw [List.getElem?_eq_getElem (by rw [markL_len]; exact hlt), Option.some.injEq] at h
        exact h
      rw [he] at hcs
      have hcs := trailR_keeps _ _ S None1 cs _ (Below.turn hbl) none_off hcs
      clear he
      have hq : 0 < k + (cntL trailCnt (l.take j) : Int) := by omega
      generalize hX : l[j] = X at *
      have hcx : trailCnt X = 3 + cntL spanCnt X.spans := rfl
      generalize hQ : k + (cntL trailCnt (l.take j) : Int) = Q at *
      have hbd : Q + 3 + (cntL spanCnt X.spans : Nat) + 4 ≤ 1099511627776 := by omega
      have HSN := hide hsn
      have HQ := hide hQ
      clear hX hQ hsn hle hle2
      obtain ⟨s0, rfl, y0⟩ := hcs
      simp only [mkTrail] at y0 hin
      obtain ⟨a0, k0, rfl⟩ := y0.form
      generalize hML : (markL mkSpan spanCnt X.spans (Q + 1 + 1 + 1)).length = ML at *
      clear hML
      have c0 : wr.cell? ⟨b, o + j * 4, none⟩ = some (.int .i64 Q) := hin 0 _ rfl
      have c1 : wr.cell? ⟨b, o + j * 4 + 1, none⟩ = some (.int .i64 (Q + 1)) := hin 1 _ rfl
      have c2 : wr.cell? ⟨b, o + j * 4 + 2, none⟩ = some (.int .i64 (Q + 1 + 1)) := hin 2 _ rfl
      have cm : wr.cell? ⟨b, o + j * 4 + 3, none⟩ = some (.slice a0 ML k0) := hin 3 _ rfl
      have HY := hide y0
      clear hin hcx y0
      go_wp2_with fail
      have y0 := unhide HY
      refine (mHeldSpanS X.spans S _ (Q + 1 + 1 + 1) wr (by omega) (by omega) y0).mono ?_
      rintro e w2 ⟨rfl, hb2⟩
      clear y0 HY c0 c1 c2 cm
      go_wp2
      go_roundw
      case rel =>
        have e := unhide HQ
        have hsn := unhide HSN
        have hcx : trailCnt X = 3 + cntL spanCnt X.spans := rfl
        refine ⟨j + 1, by omega, by go_num, ?_, bthen hbl hb2⟩
        congr 1
        omega
      case measure => simp [intOf]; omega
    · have hji : ¬ (j : Int) < (l.length : Int) := by omega
      obtain rfl : j = l.length := by omega
      rw [List.take_length]
      go_wp2
      go_ret
      exact ⟨rfl, hbl⟩
end Go.Proofs.Ytnlacjedamngkaa
