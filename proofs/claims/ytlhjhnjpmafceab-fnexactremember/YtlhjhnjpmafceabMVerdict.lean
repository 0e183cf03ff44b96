/-
  Verdict: contracts of the law's marks.
-/
import Derived.Test.YtlhjhnjpmafceabMark
import Derived.Test.YtlhjhnjpmafceabTVerdict
namespace Go.Proofs.Ytlhjhnjpmafceab
open Go.ChangeShapes Go.WideShapes Go.ChangeAt Go.RowKit
set_option linter.unusedVariables false
set_option maxRecDepth 100000

def mkVerdict (q : Int) : VerdictD := ⟨q, q + 1, ((q + 1 + 1) % 3 == 0)⟩
def mkVerdictC (q : Int) : List Value := [.int .i64 (q), .int .i64 (q + 1), .bool ((q + 1 + 1) % 3 == 0)]
def mkVerdictS (n : Nat) (k : Int) : List VerdictD := byPlace (fun i => mkVerdict (k + 3 * i)) n
set_option maxHeartbeats 2000000 in
theorem mMarkVerdictS (l : List VerdictD) (S : Nat → Prop) (v : Value) (k : Int) (w : World) (h0 : 0 ≤ k) (h1 : k + 3 * l.length ≤ 1099511627776) (ha : LOw 3 verdictO w S v l) :
    Calls Try.prog 46 #[v, .int .i64 k] w fun e w' => e = .returned (.int .i64 (k + 3 * l.length)) ∧ Turn S w w' ∧ LOw 3 verdictO w' S v (mkVerdictS l.length k) := by
  obtain ⟨a, cap, rfl, hl, h⟩ := ha
  rcases h with rfl | ⟨b, o, T, rfl, hS, hw, _, _, _⟩
  · go_enter Try.func46, Try.ntmps46
    go_wp2
    go_loopw [1, 5] (fun kk i wk => kk = .int .i64 k ∧ i = .int .i64 0 ∧ wk = w) (fun _ _ _ => 0)
    case atStart => exact ⟨rfl, rfl, rfl⟩
    case round =>
      obtain ⟨rfl, rfl, rfl⟩ := hrel
      go_wp2
      go_ret
      exact ⟨by simp, Turn.refl _ _, LOw.nil _ _ _ _ _ _⟩
  have HS := hide hS
  have hm0 := hide (MarkedTo.start (f := fun i => mkVerdictC (k + 3 * (i : Int))) hw)
  clear hS hw
  go_enter Try.func46, Try.ntmps46
  go_wp2
  go_loopw [1, 5] (fun kk i wk => ∃ j : Nat, j ≤ l.length ∧ i = .int .i64 j ∧ kk = .int .i64 (k + 3 * j) ∧ Hid (MarkedTo 3 (fun i => mkVerdictC (k + 3 * (i : Int))) w wk b o l.length j)) (fun _ i _ => l.length - (intOf i).toNat)
  case atStart => exact ⟨0, Nat.zero_le _, rfl, by simp, hm0⟩
  case round =>
    obtain ⟨j, hj, rfl, rfl, hm⟩ := hrel
    clear hm0
    by_cases hlt : j < l.length
    · have hji : (j : Int) < (l.length : Int) := by omega
      have hbd : k + 3 * (j : Int) + 3 ≤ 1099511627776 := by omega
      have hwr := (unhide hm).2.1
      have hbs := hwr.1
      have hjn : j * 3 + 3 ≤ l.length * 3 := by omega
      obtain ⟨u0, hu0⟩ := hwr.cell (j * 3 + 0) (by omega)
      have f0 := hwr.free (j * 3 + 0) (by omega)
      rw [show o + (j * 3 + 0) = o + j * 3 by omega] at hu0 f0
      obtain ⟨u1, hu1⟩ := hwr.cell (j * 3 + 1) (by omega)
      have f1 := hwr.free (j * 3 + 1) (by omega)
      rw [show o + (j * 3 + 1) = o + j * 3 + 1 by omega] at hu1 f1
      obtain ⟨u2, hu2⟩ := hwr.cell (j * 3 + 2) (by omega)
      have f2 := hwr.free (j * 3 + 2) (by omega)
      rw [show o + (j * 3 + 2) = o + j * 3 + 2 by omega] at hu2 f2
      clear hwr
      have hq : 0 ≤ k + 3 * (j : Int) := by omega
      generalize hQ : k + 3 * (j : Int) = Q at *
      have HQ := hide hQ
      clear hQ
      go_wp2
      go_roundw
      case rel =>
        have st := (unhide hm).step hlt (fun _ => rfl)
        have e := unhide HQ
        simp only [e, mkVerdictC, putL, Nat.add_zero] at st
        refine ⟨j + 1, by omega, by go_num, ?_, hide st⟩
        congr 1
        omega
      case measure => simp [intOf]; omega
    · have hji : ¬ (j : Int) < (l.length : Int) := by omega
      obtain rfl : j = l.length := by omega
      go_wp2
      go_ret
      have hm1 := unhide hm
      exact ⟨rfl, hm1.1.mono (fun q e => by rw [e]; exact unhide HS), hm1.done (unhide HS) hl (fun i => rfl)⟩
set_option maxHeartbeats 2000000 in
theorem mHeldVerdictS (n : Nat) (S : Nat → Prop) (v : Value) (k : Int) (w : World) (h0 : 0 ≤ k) (h1 : k + 3 * n ≤ 1099511627776) (ha : LAt 3 verdictR w S v (mkVerdictS n k)) :
    Calls Try.prog 47 #[v, .int .i64 k] w fun e w' => e = .returned (.int .i64 (k + 3 * n)) ∧ Below w.heap.size w w' := by
  have hlen : (mkVerdictS n k).length = n := byPlace_len _ _
  obtain ⟨a, cap, rfl⟩ := ha.form
  have hl := ha.len
  rw [hlen] at hl
  have HA := hide ha
  clear ha
  have HL := hide hlen
  rw [hlen]
  clear hlen
  go_enter Try.func47, Try.ntmps47
  go_wp2
  go_loopw [1, 5] (fun kk i wk => ∃ j : Nat, j ≤ n ∧ i = .int .i64 j ∧ kk = .int .i64 (k + 3 * j) ∧ Below w.heap.size w wk) (fun _ i _ => n - (intOf i).toNat)
  case atStart => exact ⟨0, Nat.zero_le _, rfl, by simp, Below.refl _ _⟩
  case round =>
    obtain ⟨j, hj, rfl, rfl, hbl⟩ := hrel
    by_cases hlt : j < n
    · have hji : (j : Int) < (n : Int) := by omega
      have hbd : k + 3 * (j : Int) + 3 ≤ 1099511627776 := by omega
      obtain ⟨b, o, cs, rfl, hbk, hSb, hcs, hin⟩ := (unhide HA).at j (by rw [unhide HL]; exact hlt)
      have hin := hin.turn hbk (Below.turn hbl) (fun e => e)
      have he : (mkVerdictS n k)[j]'(by rw [unhide HL]; exact hlt) = mkVerdict (k + 3 * (j : Int)) := (byPlace_at (List.getElem?_eq_getElem _)).2
      rw [he] at hcs
      obtain rfl : cs = _ := hcs
      have hq : 0 ≤ k + 3 * (j : Int) := by omega
      simp only [mkVerdict] at hin
      generalize hQ : k + 3 * (j : Int) = Q at *
      have HQ := hide hQ
      clear hQ he
      have c0 : wr.cell? ⟨b, o + j * 3, none⟩ = some (.int .i64 (Q)) := hin 0 _ rfl
      have c1 : wr.cell? ⟨b, o + j * 3 + 1, none⟩ = some (.int .i64 (Q + 1)) := hin 1 _ rfl
      have c2 : wr.cell? ⟨b, o + j * 3 + 2, none⟩ = some (.bool ((Q + 1 + 1) % 3 == 0)) := hin 2 _ rfl
      clear hin
      go_wp2
      go_roundw
      case rel =>
        have e := unhide HQ
        refine ⟨j + 1, by omega, by go_num, ?_, hbl⟩
        congr 1
        omega
      case measure => simp [intOf]; omega
    · have hji : ¬ (j : Int) < (n : Int) := by omega
      obtain rfl : j = n := by omega
      go_wp2
      go_ret
      exact ⟨rfl, hbl⟩
end Go.Proofs.Ytlhjhnjpmafceab
