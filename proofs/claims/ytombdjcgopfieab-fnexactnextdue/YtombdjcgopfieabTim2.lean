/-
  NextDue of both.
-/
import Derived.Test.YtombdjcgopfieabTim1
import Derived.Test.YtombdjcgopfieabAbs2
namespace Go.Proofs.Ytombdjcgopfieab
open Go.ChangeShapes Go.WideShapes Go.ChangeAt Go.RowKit
set_option linter.unusedVariables false
set_option maxRecDepth 100000

def dueS (n : Int) (i : Nat) (t : TimerD) : Int := if i = 0 ∨ t.due < n then t.due else n
def dueT (l : List TimerD) : Nat → Int
  | 0 => -1
  | k + 1 => match l[k]? with | some t => dueS (dueT l k) k t | none => dueT l k
def dueV (l : List TimerD) : Int := dueT l l.length
theorem dueT_step (l : List TimerD) (k : Nat) (h : k < l.length) : dueT l (k + 1) = dueS (dueT l k) k l[k] := by
  show (match l[k]? with | some t => dueS (dueT l k) k t | none => dueT l k) = _
  rw [List.getElem?_eq_getElem h]
set_option maxHeartbeats 4000000 in
theorem specNextDue (x : WheelD) (S : Nat → Prop) (cs : List Value) (w : World) (h0 : wheelR w S cs x) (b0 : wheelBulk x ≤ 1048576) :
    Calls Try.prog 31 #[.agg cs.toArray] w fun e w' => e = .returned (.int .i64 (dueV (allT x))) ∧ Below w.heap.size w w' := by
  have hall := allT_len x b0
  have B0 := bnew w (.cells cs.toArray 49)
  have P0 := (Held.new w cs 49).inB
  have hrw : RowT Try.prog 49 cs.length := by rw [wheelR_len h0]; exact rowIWheel
  have h1 := wheelR_keeps _ _ _ None1 _ _ (Below.turn B0) none_off h0
  clear h0
  go_enter Try.func31, Try.ntmps31
  go_upto_region 1 with fail
  generalize World.alloc w _ = w0 at *
  go_wp2_with (first | (refine wpl_load rfl 49 _ rfl _ 0 rfl cs P0 hrw ?_))
  refine (specTimers x S cs w0 h1 b0).mono ?_
  rintro e w1 ⟨v1, rfl, y1, hb1⟩
  have B1 := bthen B0 hb1
  obtain ⟨a1, k1, rfl⟩ := y1.form
  have HA := hide (y1.read timerR_widens timerO_read)
  clear y1 hb1 P0 h1 B0
  generalize hL : allT x = L at *
  have HL := hide hL
  clear hL
  go_wp2
  go_loopw [3, 5] (fun m i wk => ∃ k : Nat, k ≤ L.length ∧ i = .int .i64 k ∧ m = .int .i64 (dueT L k) ∧ Below w1.heap.size w1 wk) (fun _ i _ => L.length - (intOf i).toNat)
  case atStart => exact ⟨0, Nat.zero_le _, rfl, rfl, Below.refl _ _⟩
  case round =>
    obtain ⟨k, hk, rfl, rfl, hbl⟩ := hrel
    by_cases hlt : k < L.length
    · have hki : (k : Int) < (L.length : Int) := by omega
      obtain ⟨b, o, cs, rfl, hbk, hSb, hcs, hin⟩ := (unhide HA).at k hlt
      have hin := hin.turn hbk (Below.turn hbl) (fun e => e)
      have HS := hide (dueT_step L k hlt)
      generalize L[k] = X at *
      generalize hM : dueT L k = M at *
      clear hM
      obtain rfl : cs = _ := hcs
      have c2 : World.cell? _ ⟨b, o + k * 3 + 2, none⟩ = some (.int .i64 X.due) := hin 2 _ rfl
      clear hin
      by_cases e : k = 0
      · subst e
        have HB : Hid (dueS M 0 X = X.due) := hide (by simp [dueS])
        go_wp2
        go_roundw
        case rel => exact ⟨0 + 1, by omega, by go_num, by rw [unhide HS, unhide HB], hbl⟩
        case measure => simp [intOf]; omega
      · have q : ((k : Int) == 0) = false := by simp; omega
        by_cases d : X.due < M
        · have HB : Hid (dueS M k X = X.due) := hide (by rw [dueS, if_pos (.inr d)])
          clear e
          go_wp2
          go_roundw
          case rel => exact ⟨k + 1, by omega, by go_num, by rw [unhide HS, unhide HB], hbl⟩
          case measure => simp [intOf]; omega
        · have HB : Hid (dueS M k X = M) := hide (by rw [dueS, if_neg (fun h => h.elim e d)])
          clear e
          go_wp2
          go_roundw
          case rel => exact ⟨k + 1, by omega, by go_num, by rw [unhide HS, unhide HB], hbl⟩
          case measure => simp [intOf]; omega
    · have hki : ¬ (k : Int) < (L.length : Int) := by omega
      obtain rfl : k = L.length := by omega
      go_wp2
      go_ret
      exact ⟨by rw [unhide HL]; rfl, bthen B1 hbl⟩
set_option maxHeartbeats 4000000 in
theorem implNextDue (x : WheelD) (S : Nat → Prop) (cs : List Value) (w : World) (h0 : wheelR w S cs x) (b0 : wheelBulk x ≤ 1048576) :
    Calls Try.prog 32 #[.agg cs.toArray] w fun e w' => e = .returned (.int .i64 (dueV (allT x))) ∧ Below w.heap.size w w' := by
  have hall := allT_len x b0
  have B0 := bnew w (.cells cs.toArray 49)
  have P0 := (Held.new w cs 49).inB
  have hrw : RowT Try.prog 49 cs.length := by rw [wheelR_len h0]; exact rowIWheel
  have h1 := wheelR_keeps _ _ _ None1 _ _ (Below.turn B0) none_off h0
  clear h0
  go_enter Try.func32, Try.ntmps32
  go_upto_region 1 with fail
  generalize World.alloc w _ = w0 at *
  go_wp2_with (first | (refine wpl_load rfl 49 _ rfl _ 0 rfl cs P0 hrw ?_))
  refine (implTimers x S cs w0 h1 b0).mono ?_
  rintro e w1 ⟨v1, rfl, y1, hb1⟩
  have B1 := bthen B0 hb1
  obtain ⟨a1, k1, rfl⟩ := y1.form
  have HA := hide (y1.read timerR_widens timerO_read)
  clear y1 hb1 P0 h1 B0
  generalize hL : allT x = L at *
  have HL := hide hL
  clear hL
  go_wp2
  go_loopw [3, 9] (fun m i wk => ∃ k : Nat, k ≤ L.length ∧ i = .int .i64 k ∧ m = .int .i64 (dueT L k) ∧ Below w1.heap.size w1 wk) (fun _ i _ => L.length - (intOf i).toNat)
  case atStart => exact ⟨0, Nat.zero_le _, rfl, rfl, Below.refl _ _⟩
  case round =>
    obtain ⟨k, hk, rfl, rfl, hbl⟩ := hrel
    by_cases hlt : k < L.length
    · have hki : (k : Int) < (L.length : Int) := by omega
      obtain ⟨b, o, cs, rfl, hbk, hSb, hcs, hin⟩ := (unhide HA).at k hlt
      have hin := hin.turn hbk (Below.turn hbl) (fun e => e)
      have HS := hide (dueT_step L k hlt)
      generalize L[k] = X at *
      generalize hM : dueT L k = M at *
      clear hM
      obtain rfl : cs = _ := hcs
      have c0 : World.cell? _ ⟨b, o + k * 3, none⟩ = some (.int .i64 X.id) := hin 0 _ rfl
      have c1 : World.cell? _ ⟨b, o + k * 3 + 1, none⟩ = some (.int .i64 X.trace) := hin 1 _ rfl
      have c2 : World.cell? _ ⟨b, o + k * 3 + 2, none⟩ = some (.int .i64 X.due) := hin 2 _ rfl
      have PX := Held.new wr [.int .i64 X.id, .int .i64 X.trace, .int .i64 X.due] 84
      have hbA := bnew wr (.cells #[.int .i64 X.id, .int .i64 X.trace, .int .i64 X.due] 84)
      have hbl := bthen hbl hbA
      clear hin hbA
      go_upto_region 5 with fail
      generalize hWa : World.alloc wr _ = wa at *
      clear hWa c0 c1 c2
      have c2 := PX.2 2 _ rfl
      by_cases e : k = 0
      · subst e
        have HB : Hid (dueS M 0 X = X.due) := hide (by simp [dueS])
        go_wp2
        go_roundw
        case rel => exact ⟨0 + 1, by omega, by go_num, by rw [unhide HS, unhide HB], hbl⟩
        case measure => simp [intOf]; omega
      · have q : ((k : Int) == 0) = false := by simp; omega
        by_cases d : X.due < M
        · have HB : Hid (dueS M k X = X.due) := hide (by rw [dueS, if_pos (.inr d)])
          clear e
          go_wp2
          go_roundw
          case rel => exact ⟨k + 1, by omega, by go_num, by rw [unhide HS, unhide HB], hbl⟩
          case measure => simp [intOf]; omega
        · have HB : Hid (dueS M k X = M) := hide (by rw [dueS, if_neg (fun h => h.elim e d)])
          clear e
          go_wp2
          go_roundw
          case rel => exact ⟨k + 1, by omega, by go_num, by rw [unhide HS, unhide HB], hbl⟩
          case measure => simp [intOf]; omega
    · have hki : ¬ (k : Int) < (L.length : Int) := by omega
      obtain rfl : k = L.length := by omega
      go_wp2
      go_ret
      exact ⟨by rw [unhide HL]; rfl, bthen B1 hbl⟩
end Go.Proofs.Ytombdjcgopfieab
