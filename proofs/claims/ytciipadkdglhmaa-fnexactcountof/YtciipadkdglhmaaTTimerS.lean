/-
  TimerS: what lies in memory, read and owned; contracts of the law's own sizes, copies and comparisons.
-/
import Derived.Test.YtciipadkdglhmaaTTimer
import Derived.Deep.CutRange
namespace Go.Proofs.Ytciipadkdglhmaa
open Go.ChangeShapes Go.WideShapes Go.ChangeAt Go.RowKit
set_option linter.unusedVariables false
set_option maxRecDepth 100000

def timerSBulk (x : List TimerD) : Nat := bulkL timerBulk x
def timerSR (w : World) (S : Nat → Prop) (cs : List Value) (x : List TimerD) : Prop := ∃ s0, cs = [s0] ∧ LAt 3 timerR w S s0 x
def timerSO (w : World) (S : Nat → Prop) (cs : List Value) (x : List TimerD) : Prop := ∃ s0, cs = [s0] ∧ LOw 3 timerO w S s0 x
theorem timerSR_keeps : Keeps timerSR := by
  intro w w' S T cs x ht hd h
  obtain ⟨s0, e, g0⟩ := h
  exact ⟨s0, e, g0.turn timerR_keeps ht hd⟩
theorem timerSR_widens : Widens timerSR := by
  intro w S T cs x hs h
  obtain ⟨s0, e, g0⟩ := h
  exact ⟨s0, e, g0.widens timerR_widens hs⟩
theorem timerSO_keeps : Keeps timerSO := by
  intro w w' S T cs x ht hd h
  obtain ⟨s0, e, g0⟩ := h
  exact ⟨s0, e, g0.turn timerO_keeps ht hd⟩
theorem timerSO_widens : Widens timerSO := by
  intro w S T cs x hs h
  obtain ⟨s0, e, g0⟩ := h
  exact ⟨s0, e, g0.widens hs⟩
theorem timerSO_read (w : World) (S : Nat → Prop) (cs : List Value) (x : List TimerD) (h : timerSO w S cs x) : timerSR w S cs x := by
  obtain ⟨s0, e, g0⟩ := h
  exact ⟨s0, e, g0.read timerR_widens timerO_read⟩
theorem timerSO_len {w : World} {S : Nat → Prop} {cs : List Value} {x : List TimerD} (h : timerSO w S cs x) : cs.length = 1 := by
  obtain ⟨s0, rfl, _⟩ := h; rfl

theorem mInfoTimerS : (Try.prog.info? 53).map (fun i => (i.zero, i.size, i.bytes)) = some (some (.slice none 0 0), 1, 24) := by kernel_rfl
theorem mMakeTimerS (n : Nat) (hn : n ≤ 1048576) (w : World) : ∃ w0, (Instr.makeSlice 52 (.int .i64 n) (.int .i64 n)).run Try.prog w = .ok (.slice (some ⟨w.heap.size, 0, none⟩) n n) w0 ∧ WrAt w0 w.heap.size 0 (n * 1) ∧ Below w.heap.size w w0 := by
  obtain ⟨i0, hi, hz0, hz1, hz2⟩ := info_parts mInfoTimerS
  have h := run_make (P := Try.prog) w 52 53 i0 _ Try.underlying52 hi hz0 .i64 .i64 n n (by omega) (by omega) (by rw [hz2]; omega) (by omega)
  refine ⟨_, h, ?_, bnew _ _⟩
  rw [hz1]
  exact WrAt.new _ _ _ _ (by rw [size_madeCells]; simp)

set_option maxHeartbeats 4000000 in
theorem mToTimerSS (l : List (List TimerD)) (S : Nat → Prop) (v : Value) (w : World) (h1 : bulkL timerSBulk l ≤ 1048576) (ha : LAt 1 timerSR w S v l) :
    Calls Try.prog 52 #[v] w fun e w' => ∃ v', e = .returned v' ∧ LOw 1 timerSO w' (Within w.heap.size w'.heap.size) v' l ∧ Below w.heap.size w w' := by
  obtain ⟨a, cap, rfl⟩ := ha.form
  have hl := bulkL_len timerSBulk l
  have HA := hide ha
  clear ha
  obtain ⟨w0, hmk, hrow, hb0⟩ := mMakeTimerS l.length (by omega) w
  go_enter Try.func52, Try.ntmps52
  go_wp2
  go_loopw [4] (fun i wk => ∃ k : Nat, k ≤ l.length ∧ i = .int .i64 k ∧ Below w.heap.size w wk ∧ Hid (Filled 1 timerSO w wk l k)) (fun i _ => l.length - (intOf i).toNat)
  case atStart => exact ⟨0, Nat.zero_le _, rfl, hb0, hide (Filled.start _ _ _ _ _ hrow)⟩
  case round =>
    obtain ⟨k, hk, rfl, hbl, hfl⟩ := hrel
    have hbs := hbl.size
    by_cases hlt : k < l.length
    · have hki : (k : Int) < (l.length : Int) := by omega
      have hwr := (unhide hfl).1
      have hrs := hwr.1
      have hkn : k * 1 + 1 ≤ l.length * 1 := by omega
      obtain ⟨b, o, cs, rfl, hbk, hSb, hcs, hin⟩ := (unhide HA).at k hlt
      have hcs := timerSR_keeps _ _ S None1 cs _ (Below.turn hbl) none_off hcs
      have hin := hin.turn hbk (Below.turn hbl) (fun e => e)
      have hmem := bulkL_mem timerSBulk (List.getElem_mem hlt)
      generalize hX : l[k] = X at *
      have HX := hide hX
      clear hX
      have hXb : bulkL timerBulk X ≤ 1048576 := (show timerSBulk X ≤ 1048576 by omega)
      obtain ⟨s0, rfl, g0⟩ := hcs
      obtain ⟨a0, k0, rfl⟩ := g0.form
      have c0 : wr.cell? ⟨b, o + k, none⟩ = some (.slice a0 X.length k0) := by have h := hin 0 _ rfl; simpa using h
      clear hin
      obtain ⟨u0, hu0⟩ := hwr.cell k (by omega)
      have f0 := hwr.free k (by omega)
      simp only [Nat.zero_add] at hu0 f0
      clear hwr hmk hrow
      go_wp2_with fail
      refine (mToTimerS X S _ _ hXb g0).mono ?_
      rintro e w2 ⟨v2, rfl, y0, hb2⟩
      have yy : timerSO w2 (Within _ w2.heap.size) [v2] X := ⟨_, rfl, y0⟩
      obtain ⟨b0, m0, rfl⟩ := y0.form
      rw [← hb2.cell hrs] at hu0
      rw [← hb2.frozen hrs] at f0
      have hrs2 := Nat.lt_of_lt_of_le hrs hb2.size
      have HB := hide (And.intro yy hb2)
      clear yy hb2 c0 y0
      go_wp2
      go_roundw
      case rel =>
        obtain ⟨yy, hb2⟩ := unhide HB
        have st := Filled.step (cs := [.slice b0 X.length m0]) timerSO_keeps (unhide hfl) hlt hb2 (by rw [unhide HX]; exact yy) rfl
        refine ⟨k + 1, by omega, by go_num, ?_, hide ?_⟩
        · have hbb := bthen hbl hb2
          (repeat (first | with_reducible assumption | with_reducible exact Below.refl _ _ | with_reducible refine Below.drew ?_ | with_reducible refine bdrewN ?_ _ | (with_reducible refine Below.alloc ?_ ?side _; case side => (first | omega | (simp [go_sem]; done) | (simp [go_sem]; omega))) | (with_reducible refine Below.setCell ?_ ?side _; case side => (first | omega | (simp [go_sem]; done) | (simp [go_sem]; omega)))))
        · simp only [putL, Nat.add_zero, Nat.mul_one] at st
          exact st
      case measure => simp [intOf]; omega
    · have hki : ¬ (k : Int) < (l.length : Int) := by omega
      obtain rfl : k = l.length := by omega
      go_wp2
      go_ret
      exact ⟨_, rfl, (unhide hfl).done (by omega), hbl⟩

set_option maxHeartbeats 2000000 in
theorem mSzTimerSS (l : List (List TimerD)) (S : Nat → Prop) (v : Value) (left : Int) (w : World) (h0 : 0 ≤ left) (h1 : left ≤ 1048576) (ha : LAt 1 timerSR w S v l) :
    Calls Try.prog 45 #[v, .int .i64 left] w fun e w' => (∃ z : Int, e = .returned (.int .i64 z) ∧ (z < 0 ∨ (0 ≤ z ∧ z + bulkL timerSBulk l ≤ left))) ∧ Below w.heap.size w w' := by
  obtain ⟨a, cap, rfl⟩ := ha.form
  have hl := ha.len
  have HA := hide ha
  clear ha
  by_cases hlen : left < l.length
  case pos =>
    go_enter Try.func45, Try.ntmps45
    go_wp2
    go_ret
    exact ⟨⟨_, rfl, .inl (by omega)⟩, by (repeat (first | with_reducible assumption | with_reducible exact Below.refl _ _ | with_reducible refine Below.drew ?_ | with_reducible refine bdrewN ?_ _ | (with_reducible refine Below.alloc ?_ ?side _; case side => (first | omega | (simp [go_sem]; done) | (simp [go_sem]; omega))) | (with_reducible refine Below.setCell ?_ ?side _; case side => (first | omega | (simp [go_sem]; done) | (simp [go_sem]; omega)))))⟩
  go_enter Try.func45, Try.ntmps45
  go_wp2
  go_loopw [1, 5] (fun z i wk => ∃ (k : Nat) (zz : Int), k ≤ l.length ∧ i = .int .i64 k ∧ z = .int .i64 zz ∧ 0 ≤ zz ∧ zz + l.length + ((l.take k).map timerSBulk).sum ≤ left ∧ Below w.heap.size w wk) (fun _ i _ => l.length - (intOf i).toNat)
  case atStart => exact ⟨0, left - l.length, Nat.zero_le _, rfl, by go_num, by omega, by simp, Below.refl _ _⟩
  case round =>
    obtain ⟨k, zz, hk, rfl, rfl, hz, hsum, hbl⟩ := hrel
    have hbs := hbl.size
    by_cases hlt : k < l.length
    · have hki : (k : Int) < (l.length : Int) := by omega
      have hsn := sum_snoc timerSBulk l k hlt
      obtain ⟨b, o, cs, rfl, hbk, hSb, hcs, hin⟩ := (unhide HA).at k hlt
      have hcs := timerSR_keeps _ _ S None1 cs _ (Below.turn hbl) none_off hcs
      have hin := hin.turn hbk (Below.turn hbl) (fun e => e)
      generalize l[k] = X at *
      have HSN := hide hsn
      clear hsn
      obtain ⟨s0, rfl, g0⟩ := hcs
      obtain ⟨a0, k0, rfl⟩ := g0.form
      have c0 : wr.cell? ⟨b, o + k, none⟩ = some (.slice a0 X.length k0) := by have h := hin 0 _ rfl; simpa using h
      clear hin
      go_wp2_with fail
      refine (mSzTimerS X S _ zz _ hz (by omega) g0).mono ?_
      rintro e w2 ⟨⟨z2, rfl, hz2⟩, hb2⟩
      have HZ := hide hz2
      clear hz2
      by_cases hneg : z2 < 0
      · go_wp2
        go_ret
        exact ⟨⟨_, rfl, .inl (by omega)⟩, bthen hbl hb2⟩
      · have hzz : 0 ≤ z2 ∧ z2 + bulkL timerBulk X ≤ zz := by rcases unhide HZ with h | h <;> omega
        have hsn' := unhide HSN
        go_wp2
        go_roundw
        case rel => exact ⟨k + 1, z2, by omega, by go_num, by go_num, by omega, by rw [hsn']; have hxb : timerSBulk X = bulkL timerBulk X := rfl; omega, bthen hbl hb2⟩
        case measure => simp [intOf]; omega
    · have e : l.take k = l := List.take_of_length_le (by omega)
      rw [e] at hsum
      have hki : ¬ (k : Int) < (l.length : Int) := by omega
      go_wp2
      go_ret
      exact ⟨⟨_, rfl, .inr ⟨hz, by unfold bulkL; omega⟩⟩, hbl⟩

set_option maxHeartbeats 4000000 in
theorem mEqTimerSS (l : List (List TimerD)) (S S' : Nat → Prop) (v v' : Value) (w : World) (ha : LAt 1 timerSR w S v l) (hb : LAt 1 timerSR w S' v' l) :
    Calls Try.prog 67 #[v, v'] w fun e w' => e = .returned (.bool true) ∧ Below w.heap.size w w' := by
  obtain ⟨a, cap, rfl⟩ := ha.form
  obtain ⟨a', cap', rfl⟩ := hb.form
  have hl := ha.len
  have HA := hide ha
  have HB := hide hb
  clear ha hb
  go_enter Try.func67, Try.ntmps67
  go_wp2
  go_loopw [5] (fun i wk => ∃ k : Nat, k ≤ l.length ∧ i = .int .i64 k ∧ Below w.heap.size w wk) (fun i _ => l.length - (intOf i).toNat)
  case atStart => exact ⟨0, Nat.zero_le _, rfl, Below.refl _ _⟩
  case round =>
    obtain ⟨k, hk, rfl, hbl⟩ := hrel
    have hbs := hbl.size
    by_cases hlt : k < l.length
    · have hki : (k : Int) < (l.length : Int) := by omega
      obtain ⟨b, o, cs, rfl, hbk, hSb, hcs, hin⟩ := (unhide HA).at k hlt
      have hcs := timerSR_keeps _ _ S None1 cs _ (Below.turn hbl) none_off hcs
      have hin := hin.turn hbk (Below.turn hbl) (fun e => e)
      obtain ⟨b', o', cs2, rfl, hbk', hSb', hcs2, hin2⟩ := (unhide HB).at k hlt
      have hcs2 := timerSR_keeps _ _ S' None1 cs2 _ (Below.turn hbl) none_off hcs2
      have hin2 := hin2.turn hbk' (Below.turn hbl) (fun e => e)
      generalize l[k] = X at *
      obtain ⟨s0, rfl, g0⟩ := hcs
      obtain ⟨a0, k0, rfl⟩ := g0.form
      obtain ⟨sy0, rfl, gy0⟩ := hcs2
      obtain ⟨ay0, ky0, rfl⟩ := gy0.form
      have c0 : wr.cell? ⟨b, o + k, none⟩ = some (.slice a0 X.length k0) := by have h := hin 0 _ rfl; simpa using h
      have d0 : wr.cell? ⟨b', o' + k, none⟩ = some (.slice ay0 X.length ky0) := by have h := hin2 0 _ rfl; simpa using h
      clear hin hin2
      go_wp2_with fail
      go_region_with (go_at_call 39; refine (mEqTimerS X S S' _ _ _ (g0.keep timerR_keeps (Below.drew (Below.refl _ _))) (gy0.keep timerR_keeps (Below.drew (Below.refl _ _)))).mono ?_; rintro e w2 ⟨rfl, hb2⟩)
      all_goals
        go_wp2
        go_roundw
        case rel => exact ⟨k + 1, by omega, by go_num, bthen (by (repeat (first | with_reducible assumption | with_reducible exact Below.refl _ _ | with_reducible refine Below.drew ?_ | with_reducible refine bdrewN ?_ _ | (with_reducible refine Below.alloc ?_ ?side _; case side => (first | omega | (simp [go_sem]; done) | (simp [go_sem]; omega))) | (with_reducible refine Below.setCell ?_ ?side _; case side => (first | omega | (simp [go_sem]; done) | (simp [go_sem]; omega)))))) hb2⟩
        case measure => simp [intOf]; omega
    · have hki : ¬ (k : Int) < (l.length : Int) := by omega
      go_wp2
      go_ret
      exact ⟨rfl, hbl⟩

end Go.Proofs.Ytciipadkdglhmaa
