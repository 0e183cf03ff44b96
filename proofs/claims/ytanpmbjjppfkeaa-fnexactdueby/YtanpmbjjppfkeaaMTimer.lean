/-
  Timer: contracts of the law's marks.
-/
import Derived.Test.YtanpmbjjppfkeaaMark
import Derived.Test.YtanpmbjjppfkeaaTTimer
namespace Go.Proofs.Ytanpmbjjppfkeaa
open Go.ChangeShapes Go.WideShapes Go.ChangeAt Go.RowKit
set_option linter.unusedVariables false
set_option maxRecDepth 100000

def mkTimer (q : Int) : TimerD := ⟨q, q + 1, q + 1 + 1⟩
def mkTimerC (q : Int) : List Value := [.int .i64 (q), .int .i64 (q + 1), .int .i64 (q + 1 + 1)]
def mkTimerS (n : Nat) (k : Int) : List TimerD := byPlace (fun i => mkTimer (k + 3 * i)) n
set_option maxHeartbeats 2000000 in
theorem mMarkTimerS (l : List TimerD) (S : Nat → Prop) (v : Value) (k : Int) (w : World) (h0 : 0 ≤ k) (h1 : k + 3 * l.length ≤ 1099511627776) (ha : LOw 3 timerO w S v l) :
    Calls Try.prog 50 #[v, .int .i64 k] w fun e w' => e = .returned (.int .i64 (k + 3 * l.length)) ∧ Turn S w w' ∧ LOw 3 timerO w' S v (mkTimerS l.length k) := by
  obtain ⟨a, cap, rfl, hl, h⟩ := ha
  rcases h with rfl | ⟨b, o, T, rfl, hS, hw, _, _, _⟩
  · go_enter Try.func50, Try.ntmps50
    go_wp2
    go_loopw [1, 5] (fun kk i wk => kk = .int .i64 k ∧ i = .int .i64 0 ∧ wk = w) (fun _ _ _ => 0)
    case atStart => exact ⟨rfl, rfl, rfl⟩
    case round =>
      obtain ⟨rfl, rfl, rfl⟩ := hrel
      go_wp2
      go_ret
      exact ⟨by simp, Turn.refl _ _, LOw.nil _ _ _ _ _ _⟩
  have HS := hide hS
  have hm0 := hide (MarkedTo.start (f := fun i => mkTimerC (k + 3 * (i : Int))) hw)
  clear hS hw
  go_enter Try.func50, Try.ntmps50
  go_wp2
  go_loopw [1, 5] (fun kk i wk => ∃ j : Nat, j ≤ l.length ∧ i = .int .i64 j ∧ kk = .int .i64 (k + 3 * j) ∧ Hid (MarkedTo 3 (fun i => mkTimerC (k + 3 * (i : Int))) w wk b o l.length j)) (fun _ i _ => l.length - (intOf i).toNat)
  case atStart => exact ⟨0, Nat.zero_le _, rfl, by simp, hm0⟩
  case round =>
    obtain ⟨j, hj, rfl, rfl, hm⟩ := hrel
    clear hm0
    by_cases hlt : j < l.length
    · have hji : (j : Int) < (l.length : Int) := by omega
      have hbd : k + 3 * (j : Int) + 3 ≤ 1099511627776 := by omega
      have hwr := (unhide hm).2.1
      have hbs := hwr.1
      have hjn : j * 3 + 3 ≤ l.length * 3 := by omega
      obtain ⟨u0, hu0⟩ := hwr.cell (j * 3 + 0) (by omega)
      have f0 := hwr.free (j * 3 + 0) (by omega)
      rw [show o + (j * 3 + 0) = o + j * 3 by omega] at hu0 f0
      obtain ⟨u1, hu1⟩ := hwr.cell (j * 3 + 1) (by omega)
      have f1 := hwr.free (j * 3 + 1) (by omega)
      rw [show o + (j * 3 + 1) = o + j * 3 + 1 by omega] at hu1 f1
      obtain ⟨u2, hu2⟩ := hwr.cell (j * 3 + 2) (by omega)
      have f2 := hwr.free (j * 3 + 2) (by omega)
      rw [show o + (j * 3 + 2) = o + j * 3 + 2 by omega] at hu2 f2
      clear hwr
      have hq : 0 ≤ k + 3 * (j : Int) := by omega
      generalize hQ : k + 3 * (j : Int) = Q at *
      have HQ := hide hQ
      clear hQ
      go_wp2
      go_roundw
      case rel =>
        have st := (unhide hm).step hlt (fun _ => rfl)
        have e := unhide HQ
        simp only [e, mkTimerC, putL, Nat.add_zero] at st
        refine ⟨j + 1, by omega, by go_num, ?_, hide st⟩
        congr 1
        omega
      case measure => simp [intOf]; omega
    · have hji : ¬ (j : Int) < (l.length : Int) := by omega
      obtain rfl : j = l.length := by omega
      go_wp2
      go_ret
      have hm1 := unhide hm
      exact ⟨rfl, hm1.1.mono (fun q e => by rw [e]; exact unhide HS), hm1.done (unhide HS) hl (fun i => rfl)⟩
end Go.Proofs.Ytanpmbjjppfkeaa
