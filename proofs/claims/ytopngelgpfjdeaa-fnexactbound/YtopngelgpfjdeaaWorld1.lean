/-
  Contracts of TimeOf and Busy, of the program and of the specification.
-/
import Derived.Test.YtopngelgpfjdeaaAWorld
import Derived.Test.YtopngelgpfjdeaaATask
import Derived.Test.YtopngelgpfjdeaaAbs2
namespace Go.Proofs.Ytopngelgpfjdeaa
open Go.ChangeShapes Go.WideShapes Go.ChangeAt Go.RowKit
set_option linter.unusedVariables false
set_option maxRecDepth 100000

def busyT (t : TaskD) : Bool := decide (t.op ≠ 0)
def busyv (l : List TaskD) : Nat := l.countP busyT
theorem busy_le (l : List TaskD) : busyv l ≤ l.length := List.countP_le_length
theorem busy_step (l : List TaskD) (k : Nat) (h : k < l.length) : busyv (l.take (k + 1)) = busyv (l.take k) + if busyT l[k] then 1 else 0 := by
  unfold busyv
  rw [List.take_succ_eq_append_getElem h, List.countP_append]
  simp [List.countP_cons]
theorem busy_pre (l : List TaskD) (k : Nat) : busyv (l.take k) ≤ k := by
  have := busy_le (l.take k)
  rw [List.length_take] at this
  omega
set_option maxHeartbeats 2000000 in
theorem specBusy (x : WorldD) (S0 : Nat → Prop) (c0 : List Value) (w : World) (h0 : worldR w S0 c0 x) (b0 : worldBulk x ≤ 1048576) :
    Calls Try.prog 49 #[.agg c0.toArray] w fun e w' => e = .returned (.int .i64 (busyv x.tasks)) ∧ Below w.heap.size w w' := by
  have P0 := Held.new w c0 58
  have B0 := bnew w (.cells c0.toArray 58)
  have HR := hide h0
  obtain ⟨a, cap, hc, hA⟩ := worldR_c29 h0
  have HC := hide hc
  have hl := hA.len
  have hA := hide (hA.keep taskR_keeps B0)
  have hlen : x.tasks.length ≤ 1048576 := by have := bulkL_len taskBulk x.tasks; unfold worldBulk at b0; omega
  clear h0 hc b0
  go_enter Try.func49, Try.ntmps49
  go_upto_region 1 with fail
  generalize World.alloc w _ = w0 at *
  go_wp2
  generalize hT : x.tasks = l at *
  have HT := hide hT
  clear hT
  go_loopw [3, 4] (fun n i wk => ∃ k : Nat, k ≤ l.length ∧ i = .int .i64 k ∧ n = .int .i64 (busyv (l.take k)) ∧ Below w0.heap.size w0 wk) (fun _ i _ => l.length - (intOf i).toNat)
  case atStart => exact ⟨0, Nat.zero_le _, rfl, rfl, Below.refl _ _⟩
  case round =>
    obtain ⟨k, hk, rfl, rfl, hbl⟩ := hrel
    have hpre := busy_pre l k
    have P1 := P0.keep hbl
    have p29 := P1.2 29 _ (unhide HC)
    by_cases hlt : k < l.length
    · have hki : (k : Int) < (l.length : Int) := by omega
      obtain ⟨b, o, cs, rfl, hbk, hSb, hcs, hin⟩ := (unhide hA).at k hlt
      have hin := hin.turn hbk (Below.turn hbl) (fun e => e)
      have HS := hide (busy_step l k hlt)
      generalize l[k] = X at *
      have c0' : World.cell? _ ⟨b, o + k * 12, none⟩ = some (.int .i64 X.op) := hin 0 _ (taskR_c0 hcs)
      clear hin
      by_cases e : X.op = 0
      · have q : (X.op == 0) = true := by simpa using e
        have HB : Hid (busyT X = false) := hide (by simp [busyT, e])
        clear e
        go_wp2
        go_roundw
        case rel => exact ⟨k + 1, by omega, by go_num, by rw [unhide HS, unhide HB]; simp, hbl⟩
        case measure => simp [intOf]; omega
      · have q : (X.op == 0) = false := by simpa using e
        have HB : Hid (busyT X = true) := hide (by simp [busyT, e])
        clear e
        go_wp2
        go_roundw
        case rel => exact ⟨k + 1, by omega, by go_num, by rw [unhide HS, unhide HB]; simp, hbl⟩
        case measure => simp [intOf]; omega
    · have hki : ¬ (k : Int) < (l.length : Int) := by omega
      obtain rfl : k = l.length := by omega
      go_wp2
      go_ret
      exact ⟨by rw [unhide HT]; rfl, bthen B0 hbl⟩
set_option maxHeartbeats 2000000 in
theorem implBusy (x : WorldD) (S0 : Nat → Prop) (c0 : List Value) (w : World) (h0 : worldR w S0 c0 x) (b0 : worldBulk x ≤ 1048576) :
    Calls Try.prog 60 #[.agg c0.toArray] w fun e w' => e = .returned (.int .i64 (busyv x.tasks)) ∧ Below w.heap.size w w' := by
  have P0 := Held.new w c0 58
  have B0 := bnew w (.cells c0.toArray 58)
  have HR := hide h0
  obtain ⟨a, cap, hc, hA⟩ := worldR_c29 h0
  have HC := hide hc
  have hl := hA.len
  have hA := hide (hA.keep taskR_keeps B0)
  have hlen : x.tasks.length ≤ 1048576 := by have := bulkL_len taskBulk x.tasks; unfold worldBulk at b0; omega
  clear h0 hc b0
  go_enter Try.func60, Try.ntmps60
  go_upto_region 1 with fail
  generalize World.alloc w _ = w0 at *
  have p29 := P0.2 29 _ (unhide HC)
  go_wp2
  generalize hT : x.tasks = l at *
  have HT := hide hT
  clear hT p29
  go_loopw [3, 9] (fun n i wk => ∃ k : Nat, k ≤ l.length ∧ i = .int .i64 k ∧ n = .int .i64 (busyv (l.take k)) ∧ Below w0.heap.size w0 wk) (fun _ i _ => l.length - (intOf i).toNat)
  case atStart => exact ⟨0, Nat.zero_le _, rfl, rfl, Below.refl _ _⟩
  case round =>
    obtain ⟨k, hk, rfl, rfl, hbl⟩ := hrel
    have hpre := busy_pre l k
    by_cases hlt : k < l.length
    · have hki : (k : Int) < (l.length : Int) := by omega
      obtain ⟨b, o, cs, rfl, hbk, hSb, hcs, hin⟩ := (unhide hA).at k hlt
      have hin := hin.turn hbk (Below.turn hbl) (fun e => e)
      have HS := hide (busy_step l k hlt)
      generalize l[k] = X at *
      have hrw : RowT Try.prog 113 cs.length := by rw [taskR_len hcs]; exact rowITask
      have HL1 := hide (taskR_len hcs)
      have on1 := taskR_one hcs
      have h0c := hide (taskR_c0 hcs)
      have hA1 := Held.new wr cs 113
      have hbA := bnew wr (.cells cs.toArray 113)
      have hbl := bthen hbl hbA
      clear hbA
      go_upto_region 5 with (first | (refine wpl_load rfl 113 _ rfl _ _ rfl cs hin hrw ?_) | (refine wpl_store_new rfl _ _ _ rfl _ cs rfl rfl ?_ on1 hrw ?_; (rw [unhide HL1]; rfl)))
      generalize hWa : World.alloc wr _ = wa at *
      clear hWa hin hrw on1
      have c0' := hA1.2 0 _ (unhide h0c)
      by_cases e : X.op = 0
      · have q : (X.op == 0) = true := by simpa using e
        have HB : Hid (busyT X = false) := hide (by simp [busyT, e])
        clear e
        go_wp2
        go_roundw
        case rel => exact ⟨k + 1, by omega, by go_num, by rw [unhide HS, unhide HB]; simp, hbl⟩
        case measure => simp [intOf]; omega
      · have q : (X.op == 0) = false := by simpa using e
        have HB : Hid (busyT X = true) := hide (by simp [busyT, e])
        clear e
        go_wp2
        go_roundw
        case rel => exact ⟨k + 1, by omega, by go_num, by rw [unhide HS, unhide HB]; simp, hbl⟩
        case measure => simp [intOf]; omega
    · have hki : ¬ (k : Int) < (l.length : Int) := by omega
      obtain rfl : k = l.length := by omega
      go_wp2
      go_ret
      exact ⟨by rw [unhide HT]; rfl, bthen B0 hbl⟩
end Go.Proofs.Ytopngelgpfjdeaa
