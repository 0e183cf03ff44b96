/-
  A wheel that is handed in and then marked: how far the marks count, and that only its own blocks turn.
-/
import Derived.Test.YtanpmbjjppfkeaaAWheel
import Derived.Test.YtanpmbjjppfkeaaToSt
import Derived.Test.YtanpmbjjppfkeaaMark2
import Derived.Test.YtanpmbjjppfkeaaMTimer
namespace Go.Proofs.Ytanpmbjjppfkeaa
open Go.ChangeShapes Go.WideShapes Go.ChangeAt Go.RowKit
set_option linter.unusedVariables false
set_option maxRecDepth 100000

def timerSCnt (x : List TimerD) : Nat := 3 * x.length
def wheelCnt (x : WheelD) : Nat := cntL timerSCnt x.near + cntL timerSCnt x.far + 3 * x.rest.length
/-- What of a row of lists is not marked yet. -/
def RestOf (w : World) (b o : Nat) (T : Nat → Nat → Prop) (l : List (List TimerD)) (j : Nat) : Prop := b < w.heap.size ∧ ∀ (i : Nat) (x : List TimerD), l[i]? = some x → j ≤ i → ∃ cs, timerSO w (T i) cs x ∧ InB w b (o + i) cs
set_option maxHeartbeats 2000000 in
theorem mMarkTimerSS (l : List (List TimerD)) (S : Nat → Prop) (v : Value) (k : Int) (w : World) (h0 : 0 ≤ k) (h1 : k + cntL timerSCnt l ≤ 1099511627776) (ha : LOw 1 timerSO w S v l) :
    Calls Try.prog 49 #[v, .int .i64 k] w fun e w' => e = .returned (.int .i64 (k + cntL timerSCnt l)) ∧ Turn S w w' := by
  obtain ⟨a, cap, rfl, hl, h⟩ := ha
  rcases h with rfl | ⟨b, o, T, rfl, hS, hw, hT, hd, hx⟩
  · go_enter Try.func49, Try.ntmps49
    go_wp2
    go_loopw [1, 5] (fun kk i wk => kk = .int .i64 k ∧ i = .int .i64 0 ∧ wk = w) (fun _ _ _ => 0)
    case atStart => exact ⟨rfl, rfl, rfl⟩
    case round =>
      obtain ⟨rfl, rfl, rfl⟩ := hrel
      go_wp2
      go_ret
      exact ⟨by simp [cntL], Turn.refl _ _⟩
  have HT := hide (And.intro hT hd)
  have hm0 : Hid (RestOf w b o T l 0) := hide ⟨hw.1, fun i x hix _ => by obtain ⟨cs, g1, g2⟩ := hx i x hix; exact ⟨cs, g1, by simpa using g2⟩⟩
  clear hS hw hT hd hx
  go_enter Try.func49, Try.ntmps49
  go_wp2
  go_loopw [1, 5] (fun kk i wk => ∃ j : Nat, j ≤ l.length ∧ i = .int .i64 j ∧ kk = .int .i64 (k + cntL timerSCnt (l.take j)) ∧ Hid (RestOf wk b o T l j) ∧ Hid (Turn S w wk)) (fun _ i _ => l.length - (intOf i).toNat)
  case atStart => exact ⟨0, Nat.zero_le _, rfl, by simp [cntL], hm0, hide (Turn.refl _ _)⟩
  case round =>
    obtain ⟨j, hj, rfl, rfl, hm, htn⟩ := hrel
    clear hm0
    have hle := cntL_le timerSCnt l j
    by_cases hlt : j < l.length
    · have hji : (j : Int) < (l.length : Int) := by omega
      have hsn := cntL_snoc timerSCnt l j hlt
      have hle2 := cntL_le timerSCnt l (j + 1)
      obtain ⟨cs, hcs, hin⟩ := (unhide hm).2 j _ (List.getElem?_eq_getElem hlt) (Nat.le_refl _)
      have hq : 0 ≤ k + (cntL timerSCnt (l.take j) : Int) := by omega
      generalize hX : l[j] = X at *
      have hcx : timerSCnt X = 3 * X.length := rfl
      generalize hQ : k + (cntL timerSCnt (l.take j) : Int) = Q at *
      have hbd : Q + 3 * (X.length : Int) ≤ 1099511627776 := by omega
      have HSN := hide hsn
      have HQ := hide hQ
      clear hX hQ hsn hle hle2 hcx
      obtain ⟨s0, rfl, y0⟩ := hcs
      obtain ⟨a0, k0, rfl⟩ := y0.form
      have cm : wr.cell? ⟨b, o + j, none⟩ = some (.slice a0 X.length k0) := hin 0 _ rfl
      clear hin
      go_wp2_with fail
      refine (mMarkTimerS X (T j) _ Q wr hq hbd y0).mono ?_
      rintro e w2 ⟨rfl, ht2, _⟩
      have HK := hide ht2
      clear ht2 y0 cm
      go_wp2
      go_roundw
      case rel =>
        obtain ⟨hT, hd⟩ := unhide HT
        have ht2 := unhide HK
        have e := unhide HQ
        have hsn := unhide HSN
        refine ⟨j + 1, by omega, by go_num, ?_, hide ⟨Nat.lt_of_lt_of_le (unhide hm).1 ht2.size, fun i x hix hji2 => ?_⟩, hide ((unhide htn).trans (ht2.mono (fun q h => (hT j q h).1)))⟩
        · congr 1
          have hcx : timerSCnt X = 3 * X.length := rfl
          omega
        · obtain ⟨cs, g1, g2⟩ := (unhide hm).2 i x hix (by omega)
          refine ⟨cs, timerSO_keeps _ _ _ _ cs x ht2 (fun q h1 h2 => ?_) g1, g2.turn (unhide hm).1 ht2 (fun h => (hT j b h).2 rfl)⟩
          have := hd i j q h1 h2
          omega
      case measure => simp [intOf]; omega
    · have hji : ¬ (j : Int) < (l.length : Int) := by omega
      obtain rfl : j = l.length := by omega
      rw [List.take_length]
      go_wp2
      go_ret
      exact ⟨rfl, unhide htn⟩
set_option maxHeartbeats 1000000 in
theorem mMarkWheel (x : WheelD) (S : Nat → Prop) (cs : List Value) (k : Int) (w : World) (h0 : 0 ≤ k) (h1 : k + wheelCnt x ≤ 1099511627776) (hS : ∀ q, S q → q < w.heap.size) (ha : wheelO w S cs x) :
    Calls Try.prog 16 #[.agg cs.toArray, .int .i64 k] w fun e w' => e = .returned (.int .i64 (k + wheelCnt x)) ∧ Turn S w w' := by
  have hwc : wheelCnt x = cntL timerSCnt x.near + cntL timerSCnt x.far + 3 * x.rest.length := rfl
  obtain ⟨s0, s1, s2, T, rfl, hT, hd, g0, g1, g2⟩ := ha
  have P0 := Held.new w [.int .i64 x.now, s0, s1, s2] 32
  have B0 := bnew w (.cells #[.int .i64 x.now, s0, s1, s2] 32)
  obtain ⟨a0, k0, rfl⟩ := g0.form
  obtain ⟨a1, k1, rfl⟩ := g1.form
  obtain ⟨a2, k2, rfl⟩ := g2.form
  have hoff : ∀ i, ¬ T i w.heap.size := fun i h => Nat.lt_irrefl _ (hS _ (hT i _ h))
  have G0 := g0.keep timerSO_keeps B0
  have G := hide (And.intro (g1.keep timerSO_keeps B0) (g2.keep timerO_keeps B0))
  have TT := hide (And.intro hT hd)
  have HO := hide hoff
  clear g0 g1 g2 hT hd hoff hS
  have tn : Turn S w _ := (Below.turn B0).mono (fun _ h => h.elim)
  clear B0
  go_enter Try.func16, Try.ntmps16
  go_upto_region 1 with fail
  generalize World.alloc w _ = w0 at *
  have p1 := P0.2 1 _ rfl
  go_wp2_with fail
  refine (mMarkTimerSS x.near (T 0) _ k w0 h0 (by omega) G0).mono ?_
  rintro e w1 ⟨rfl, t1⟩
  have P1 := P0.turn t1 (unhide HO 0)
  have G1 := (unhide G).1.turn timerSO_keeps t1 (fun q h h' => by have := (unhide TT).2 _ _ q h h'; omega)
  have G2 := (unhide G).2.turn timerO_keeps t1 (fun q h h' => by have := (unhide TT).2 _ _ q h h'; omega)
  have tn1 := tn.trans (t1.mono (fun q h => (unhide TT).1 0 q h))
  have p2 := P1.2 2 _ rfl
  clear t1 p1 P0 G0 G tn
  generalize hK1 : k + (cntL timerSCnt x.near : Int) = K1 at *
  have HK1 := hide hK1
  have e1 : 0 ≤ K1 := by omega
  have e2 : K1 + cntL timerSCnt x.far + 3 * (x.rest.length : Int) ≤ 1099511627776 := by omega
  clear hK1
  go_wp2_with fail
  refine (mMarkTimerSS x.far (T 1) _ K1 w1 e1 (by omega) G1).mono ?_
  rintro e w2 ⟨rfl, t2⟩
  have P2 := P1.turn t2 (unhide HO 1)
  have G2 := G2.turn timerO_keeps t2 (fun q h h' => by have := (unhide TT).2 _ _ q h h'; omega)
  have tn2 := tn1.trans (t2.mono (fun q h => (unhide TT).1 1 q h))
  have p3 := P2.2 3 _ rfl
  clear t2 p2 P1 G1 tn1
  generalize hK2 : K1 + (cntL timerSCnt x.far : Int) = K2 at *
  have HK2 := hide hK2
  have e3 : 0 ≤ K2 := by omega
  clear hK2
  go_wp2_with fail
  refine (mMarkTimerS x.rest (T 2) _ K2 w2 e3 e2 G2).mono ?_
  rintro e w3 ⟨rfl, t3, _⟩
  have tn3 := hide (tn2.trans (t3.mono (fun q h => (unhide TT).1 2 q h)))
  clear t3 tn2
  go_wp2
  go_ret
  refine ⟨?_, unhide tn3⟩
  have q1 := unhide HK1
  have q2 := unhide HK2
  rw [show k + (wheelCnt x : Int) = K2 + 3 * (x.rest.length : Int) by omega]
  rfl
theorem wheelCnt_le (x : WheelD) (h : wheelBulk x ≤ 1048576) : wheelCnt x ≤ 8388608 := by
  have e : ∀ l : List (List TimerD), cntL timerSCnt l ≤ 3 * bulkL timerSBulk l := by
    intro l
    induction l with
    | nil => simp [cntL]
    | cons y r ih =>
      have a1 : cntL timerSCnt (y :: r) = timerSCnt y + cntL timerSCnt r := by simp [cntL]
      have a2 : y.length ≤ timerSBulk y := bulkL_len timerBulk y
      have a3 : bulkL timerSBulk (y :: r) = 1 + timerSBulk y + bulkL timerSBulk r := by simp [bulkL]; try omega
      have a4 : timerSCnt y = 3 * y.length := rfl
      omega
  have e0 := e x.near
  have e1 := e x.far
  have e2 := bulkL_len timerBulk x.rest
  unfold wheelBulk at h
  unfold wheelCnt
  omega
end Go.Proofs.Ytanpmbjjppfkeaa
