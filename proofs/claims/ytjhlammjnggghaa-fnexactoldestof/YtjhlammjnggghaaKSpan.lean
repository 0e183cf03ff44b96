/-
  Span: the contract of the law's look at its marks.
-/
import Derived.Test.YtjhlammjnggghaaNSpan
import Derived.Test.YtjhlammjnggghaaHAttr
namespace Go.Proofs.Ytjhlammjnggghaa
open Go.ChangeShapes Go.WideShapes Go.ChangeAt Go.RowKit
set_option linter.unusedVariables false
set_option maxRecDepth 100000

theorem markL_at {α : Type} (mk : α → Int → α) (cnt : α → Nat) (l : List α) (k : Int) (j : Nat) (hj : j < l.length) : (markL mk cnt l k)[j]? = some (mk l[j] (k + cntL cnt (l.take j))) := by
  induction l generalizing k j with
  | nil => simp at hj
  | cons x r ih =>
    cases j with
    | zero => simp [markL, cntL]
    | succ j =>
      simp only [markL, List.getElem?_cons_succ, List.getElem_cons_succ]
      rw [ih (k + cnt x) j (by simpa using hj)]
      have e : k + (cnt x : Int) + (cntL cnt (r.take j) : Int) = k + (cntL cnt ((x :: r).take (j + 1)) : Int) := by
        have : cntL cnt ((x :: r).take (j + 1)) = cnt x + cntL cnt (r.take j) := by simp [cntL]
        omega
      rw [e]
set_option maxHeartbeats 4000000 in
theorem mHeldSpanS (l : List SpanD) (S : Nat → Prop) (v : Value) (k : Int) (w : World) (h0 : 0 < k) (h1 : k + cntL spanCnt l + 4 ≤ 1099511627776) (ha : LAt 6 spanR w S v (markL mkSpan spanCnt l k)) :
    Calls Try.prog 107 #[v, .int .i64 k] w fun e w' => e = .returned (.int .i64 (k + cntL spanCnt l)) ∧ Below w.heap.size w w' := by
  obtain ⟨a, cap, rfl⟩ := ha.form
  have hl := ha.len
  rw [markL_len] at hl
  have HA := hide ha
  clear ha
  rw [markL_len]
  go_enter Try.func107, Try.ntmps107
  go_wp2
  go_loopw [1, 5] (fun kk i wk => ∃ j : Nat, j ≤ l.length ∧ i = .int .i64 j ∧ kk = .int .i64 (k + cntL spanCnt (l.take j)) ∧ Below w.heap.size w wk) (fun _ i _ => l.length - (intOf i).toNat)
  case atStart => exact ⟨0, Nat.zero_le _, rfl, by simp [cntL], Below.refl _ _⟩
  case round =>
    obtain ⟨j, hj, rfl, rfl, hbl⟩ := hrel
    have hle := cntL_le spanCnt l j
    by_cases hlt : j < l.length
    · have hji : (j : Int) < (l.length : Int) := by omega
      have hsn := cntL_snoc spanCnt l j hlt
      have hle2 := cntL_le spanCnt l (j + 1)
      obtain ⟨b, o, cs, rfl, hbk, hSb, hcs, hin⟩ := (unhide HA).at j (by rw [markL_len]; exact hlt)
      have hin := hin.turn hbk (Below.turn hbl) (fun e => e)
      have he : (markL mkSpan spanCnt l k)[j]'(by rw [markL_len]; exact hlt) = mkSpan l[j] (k + cntL spanCnt (l.take j)) := by
        have h := markL_at mkSpan spanCnt l k j hlt
        rw [List.getElem?_eq_getElem (by rw [markL_len]; exact hlt), Option.some.injEq] at h
        exact h
      rw [he] at hcs
      have hcs := spanR_keeps _ _ S None1 cs _ (Below.turn hbl) none_off hcs
      clear he
      have hq : 0 < k + (cntL spanCnt (l.take j) : Int) := by omega
      generalize hX : l[j] = X at *
      have hcx : spanCnt X = 5 + 4 * X.2.2.2.2.2.length := rfl
      generalize hQ : k + (cntL spanCnt (l.take j) : Int) = Q at *
      have hbd : Q + 5 + (4 * X.2.2.2.2.2.length : Nat) + 4 ≤ 1099511627776 := by omega
      have HSN := hide hsn
      have HQ := hide hQ
      clear hX hQ hsn hle hle2
      obtain ⟨s0, rfl, y0⟩ := hcs
      simp only [mkSpan] at y0 hin
      obtain ⟨a0, k0, rfl⟩ := y0.form
      generalize hML : (mkAttrS X.2.2.2.2.2.length (Q + 1 + 1 + 1 + 1 + 1)).length = ML at *
      clear hML
      have c0 : wr.cell? ⟨b, o + j * 6, none⟩ = some (.int .i64 Q) := hin 0 _ rfl
      have c1 : wr.cell? ⟨b, o + j * 6 + 1, none⟩ = some (.int .i64 (Q + 1)) := hin 1 _ rfl
      have c2 : wr.cell? ⟨b, o + j * 6 + 2, none⟩ = some (.int .i64 (Q + 1 + 1)) := hin 2 _ rfl
      have c3 : wr.cell? ⟨b, o + j * 6 + 3, none⟩ = some (.int .i64 (Q + 1 + 1 + 1)) := hin 3 _ rfl
      have c4 : wr.cell? ⟨b, o + j * 6 + 4, none⟩ = some (.bool ((Q + 1 + 1 + 1 + 1) % 3 == 0)) := hin 4 _ rfl
      have cm : wr.cell? ⟨b, o + j * 6 + 5, none⟩ = some (.slice a0 ML k0) := hin 5 _ rfl
      have HY := hide y0
      clear hin hcx y0
      go_wp2_with fail
      have y0 := unhide HY
      refine (mHeldAttrS X.2.2.2.2.2.length S _ (Q + 1 + 1 + 1 + 1 + 1) wr (by omega) (by omega) y0).mono ?_
      rintro e w2 ⟨rfl, hb2⟩
      clear y0 HY c0 c1 c2 c3 c4 cm
      go_wp2
      go_roundw
      case rel =>
        have e := unhide HQ
        have hsn := unhide HSN
        have hcx : spanCnt X = 5 + 4 * X.2.2.2.2.2.length := rfl
        refine ⟨j + 1, by omega, by go_num, ?_, bthen hbl hb2⟩
        congr 1
        omega
      case measure => simp [intOf]; omega
    · have hji : ¬ (j : Int) < (l.length : Int) := by omega
      obtain rfl : j = l.length := by omega
      rw [List.take_length]
      go_wp2
      go_ret
      exact ⟨rfl, hbl⟩
end Go.Proofs.Ytjhlammjnggghaa
