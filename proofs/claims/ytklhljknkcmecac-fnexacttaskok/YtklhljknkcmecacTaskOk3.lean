/-
  Contract of TaskOk of the specification.
-/
import Derived.Test.YtklhljknkcmecacTaskOk2
namespace Go.Proofs.Ytklhljknkcmecac
open Go.ChangeShapes Go.WideShapes Go.ChangeAt Go.RowKit
set_option linter.unusedVariables false
set_option maxRecDepth 100000

theorem plainItemS : PlainT Try.prog 33 := fun w a v h => by simp [loadVar, go_sem, h]
set_option maxHeartbeats 40000000 in
theorem specTaskOk (x : TaskD) (k : Int) (S0 : Nat → Prop) (c0 : List Value) (w : World) (h0 : taskR w S0 c0 x) (b0 : taskBulk x ≤ 1048576) :
    Calls Try.prog 16 #[.agg c0.toArray, .int .i64 k] w fun e w' => e = .returned (.bool (taskB x k)) ∧ Below w.heap.size w w' := by
  have HR := hide h0
  obtain ⟨s, s', rfl, g, g'⟩ := h0
  obtain ⟨a, c, rfl⟩ := g.form
  obtain ⟨a2, c2, rfl⟩ := g'.form
  have hl := g'.len
  have HG := hide g
  have HH := hide g'
  have P0 := Held.new w [.int .i64 x.op, .int .i64 x.pc, .int .i64 x.s.1, .int .i64 x.s.2.1, .int .i64 x.s.2.2.1, .int .i64 x.s.2.2.2.1, .bool x.s.2.2.2.2.1, .slice a x.s.2.2.2.2.2.length c, .int .i64 x.trace, .int .i64 x.stamp, .slice a2 x.hand.length c2, .int .i64 x.h] 35
  have B0 := bnew w (.cells #[.int .i64 x.op, .int .i64 x.pc, .int .i64 x.s.1, .int .i64 x.s.2.1, .int .i64 x.s.2.2.1, .int .i64 x.s.2.2.2.1, .bool x.s.2.2.2.2.1, .slice a x.s.2.2.2.2.2.length c, .int .i64 x.trace, .int .i64 x.stamp, .slice a2 x.hand.length c2, .int .i64 x.h] 35)
  have hsb : spanBulk x.s ≤ 1048576 := by unfold taskBulk at b0; unfold spanBulk; omega
  have hhb : bulkL itemBulk x.hand ≤ 1048576 := by unfold taskBulk at b0; omega
  clear g g'
  by_cases k4 : x.h < 0
  ·
    have HF := hide (show taskB x k = false by exact taskB_g (by omega))
    as_aux_lemma =>
      go_enter Try.func16, Try.ntmps16
      go_upto_region 1 with fail
      generalize World.alloc w _ = w0 at *
      have p0 := P0.2 0 _ rfl
      have p1 := P0.2 1 _ rfl
      have p2 := P0.2 2 _ rfl
      have p3 := P0.2 3 _ rfl
      have p4 := P0.2 4 _ rfl
      have p5 := P0.2 5 _ rfl
      have p6 := P0.2 6 _ rfl
      have p7 := P0.2 7 _ rfl
      have p8 := P0.2 8 _ rfl
      have p9 := P0.2 9 _ rfl
      have p10 := P0.2 10 _ rfl
      have p11 := P0.2 11 _ rfl
      go_wp2_with (first | (go_at_call 90; refine (specIn _ _ _ _ (by assumption) _).mono ?_; rintro e w' ⟨rfl, hw'⟩; obtain rfl := hw'.symm))
      go_ret
      exact ⟨ret_bool (unhide HF).symm, B0⟩
  cases i0 : inB x.pc 0 3
  ·
    have HF := hide (show taskB x k = false by exact taskB_g (fun h => by rw [(inB_iff _ _ _).2 h.2.1] at i0; cases i0))
    as_aux_lemma =>
      go_enter Try.func16, Try.ntmps16
      go_upto_region 1 with fail
      generalize World.alloc w _ = w0 at *
      have p0 := P0.2 0 _ rfl
      have p1 := P0.2 1 _ rfl
      have p2 := P0.2 2 _ rfl
      have p3 := P0.2 3 _ rfl
      have p4 := P0.2 4 _ rfl
      have p5 := P0.2 5 _ rfl
      have p6 := P0.2 6 _ rfl
      have p7 := P0.2 7 _ rfl
      have p8 := P0.2 8 _ rfl
      have p9 := P0.2 9 _ rfl
      have p10 := P0.2 10 _ rfl
      have p11 := P0.2 11 _ rfl
      go_wp2_with (first | (go_at_call 90; refine (specIn _ _ _ _ (by assumption) _).mono ?_; rintro e w' ⟨rfl, hw'⟩; obtain rfl := hw'.symm))
      go_ret
      exact ⟨ret_bool (unhide HF).symm, B0⟩
  cases i1 : inB k 0 4
  ·
    have HF := hide (show taskB x k = false by exact taskB_g (fun h => by rw [(inB_iff _ _ _).2 h.1] at i1; cases i1))
    as_aux_lemma =>
      go_enter Try.func16, Try.ntmps16
      go_upto_region 1 with fail
      generalize World.alloc w _ = w0 at *
      have p0 := P0.2 0 _ rfl
      have p1 := P0.2 1 _ rfl
      have p2 := P0.2 2 _ rfl
      have p3 := P0.2 3 _ rfl
      have p4 := P0.2 4 _ rfl
      have p5 := P0.2 5 _ rfl
      have p6 := P0.2 6 _ rfl
      have p7 := P0.2 7 _ rfl
      have p8 := P0.2 8 _ rfl
      have p9 := P0.2 9 _ rfl
      have p10 := P0.2 10 _ rfl
      have p11 := P0.2 11 _ rfl
      go_wp2_with (first | (go_at_call 90; refine (specIn _ _ _ _ (by assumption) _).mono ?_; rintro e w' ⟨rfl, hw'⟩; obtain rfl := hw'.symm))
      go_ret
      exact ⟨ret_bool (unhide HF).symm, B0⟩
  have HK := hide (show (0 ≤ k ∧ k ≤ 4) ∧ (0 ≤ x.pc ∧ x.pc ≤ 3) ∧ 0 ≤ x.h from ⟨(inB_iff _ _ _).1 i1, (inB_iff _ _ _).1 i0, by omega⟩)
  by_cases o0 : x.op = 0
  ·
    have d0 : (x.op == 0) = true := by simpa using o0
    have HT := hide (taskB_0 (unhide HK) o0)
    clear o0
    by_cases c0 : x.pc = 0
    case neg =>
      have q0 : (x.pc == 0) = false := by simpa using c0
      have HF := hide (show taskB x k = false by rw [unhide HT, decide_eq_false (p := x.pc = 0 ∧ x.h = 0) (fun h => c0 h.1)]; rfl)
      as_aux_lemma =>
        go_enter Try.func16, Try.ntmps16
        go_upto_region 1 with fail
        generalize World.alloc w _ = w0 at *
        have p0 := P0.2 0 _ rfl
        have p1 := P0.2 1 _ rfl
        have p2 := P0.2 2 _ rfl
        have p3 := P0.2 3 _ rfl
        have p4 := P0.2 4 _ rfl
        have p5 := P0.2 5 _ rfl
        have p6 := P0.2 6 _ rfl
        have p7 := P0.2 7 _ rfl
        have p8 := P0.2 8 _ rfl
        have p9 := P0.2 9 _ rfl
        have p10 := P0.2 10 _ rfl
        have p11 := P0.2 11 _ rfl
        go_wp2_with (first | (go_at_call 90; refine (specIn _ _ _ _ (by assumption) _).mono ?_; rintro e w' ⟨rfl, hw'⟩; obtain rfl := hw'.symm))
        go_ret
        exact ⟨ret_bool (unhide HF).symm, B0⟩
    have q0 : (x.pc == 0) = true := by simpa using c0
    have C0 := hide c0
    clear c0
    cases hns : noSpanB x.s
    ·
      have HF := hide (show taskB x k = false by rw [unhide HT, hns]; simp)
      as_aux_lemma =>
        go_enter Try.func16, Try.ntmps16
        go_upto_region 1 with fail
        generalize World.alloc w _ = w0 at *
        have p0 := P0.2 0 _ rfl
        have p1 := P0.2 1 _ rfl
        have p2 := P0.2 2 _ rfl
        have p3 := P0.2 3 _ rfl
        have p4 := P0.2 4 _ rfl
        have p5 := P0.2 5 _ rfl
        have p6 := P0.2 6 _ rfl
        have p7 := P0.2 7 _ rfl
        have p8 := P0.2 8 _ rfl
        have p9 := P0.2 9 _ rfl
        have p10 := P0.2 10 _ rfl
        have p11 := P0.2 11 _ rfl
        go_wp2_with (first | (go_at_call 90; refine (specIn _ _ _ _ (by assumption) _).mono ?_; rintro e w' ⟨rfl, hw'⟩; obtain rfl := hw'.symm))
        have hc := specNoSpan x.s S0 [.int .i64 x.s.1, .int .i64 x.s.2.1, .int .i64 x.s.2.2.1, .int .i64 x.s.2.2.2.1, .bool x.s.2.2.2.2.1, .slice a x.s.2.2.2.2.2.length c] _ ⟨_, rfl, (unhide HG).keep attrR_keeps B0⟩ hsb
        rw [hns] at hc
        refine hc.mono ?_
        rintro e w1 ⟨rfl, hb⟩
        have P0 := P0.keep hb
        have B0 := bthen B0 hb
        clear hc hb
        clear p0 p1 p2 p3 p4 p5 p6 p7 p8 p9 p10 p11
        have p0 := P0.2 0 _ rfl
        have p1 := P0.2 1 _ rfl
        have p2 := P0.2 2 _ rfl
        have p3 := P0.2 3 _ rfl
        have p4 := P0.2 4 _ rfl
        have p5 := P0.2 5 _ rfl
        have p6 := P0.2 6 _ rfl
        have p7 := P0.2 7 _ rfl
        have p8 := P0.2 8 _ rfl
        have p9 := P0.2 9 _ rfl
        have p10 := P0.2 10 _ rfl
        have p11 := P0.2 11 _ rfl
        go_wp2_with (first | (go_at_call 90; refine (specIn _ _ _ _ (by assumption) _).mono ?_; rintro e w' ⟨rfl, hw'⟩; obtain rfl := hw'.symm))
        go_ret
        exact ⟨ret_bool (unhide HF).symm, B0⟩
    by_cases t0 : x.trace = 0
    case neg =>
      have q2 : (x.trace == 0) = false := by simpa using t0
      have HF := hide (show taskB x k = false by rw [unhide HT, show noTnB x.trace x.stamp = false from decide_eq_false (fun h => t0 h.1)]; simp)
      as_aux_lemma =>
        go_enter Try.func16, Try.ntmps16
        go_upto_region 1 with fail
        generalize World.alloc w _ = w0 at *
        have p0 := P0.2 0 _ rfl
        have p1 := P0.2 1 _ rfl
        have p2 := P0.2 2 _ rfl
        have p3 := P0.2 3 _ rfl
        have p4 := P0.2 4 _ rfl
        have p5 := P0.2 5 _ rfl
        have p6 := P0.2 6 _ rfl
        have p7 := P0.2 7 _ rfl
        have p8 := P0.2 8 _ rfl
        have p9 := P0.2 9 _ rfl
        have p10 := P0.2 10 _ rfl
        have p11 := P0.2 11 _ rfl
        go_wp2_with (first | (go_at_call 90; refine (specIn _ _ _ _ (by assumption) _).mono ?_; rintro e w' ⟨rfl, hw'⟩; obtain rfl := hw'.symm))
        have hc := specNoSpan x.s S0 [.int .i64 x.s.1, .int .i64 x.s.2.1, .int .i64 x.s.2.2.1, .int .i64 x.s.2.2.2.1, .bool x.s.2.2.2.2.1, .slice a x.s.2.2.2.2.2.length c] _ ⟨_, rfl, (unhide HG).keep attrR_keeps B0⟩ hsb
        rw [hns] at hc
        refine hc.mono ?_
        rintro e w1 ⟨rfl, hb⟩
        have P0 := P0.keep hb
        have B0 := bthen B0 hb
        clear hc hb
        clear p0 p1 p2 p3 p4 p5 p6 p7 p8 p9 p10 p11
        have p0 := P0.2 0 _ rfl
        have p1 := P0.2 1 _ rfl
        have p2 := P0.2 2 _ rfl
        have p3 := P0.2 3 _ rfl
        have p4 := P0.2 4 _ rfl
        have p5 := P0.2 5 _ rfl
        have p6 := P0.2 6 _ rfl
        have p7 := P0.2 7 _ rfl
        have p8 := P0.2 8 _ rfl
        have p9 := P0.2 9 _ rfl
        have p10 := P0.2 10 _ rfl
        have p11 := P0.2 11 _ rfl
        go_wp2_with (first | (go_at_call 90; refine (specIn _ _ _ _ (by assumption) _).mono ?_; rintro e w' ⟨rfl, hw'⟩; obtain rfl := hw'.symm))
        go_ret
        exact ⟨ret_bool (unhide HF).symm, B0⟩
    have q2 : (x.trace == 0) = true := by simpa using t0
    have T0 := hide t0
    clear t0
    by_cases t1 : x.stamp = 0
    case neg =>
      have q3 : (x.stamp == 0) = false := by simpa using t1
      have HF := hide (show taskB x k = false by rw [unhide HT, show noTnB x.trace x.stamp = false from decide_eq_false (fun h => t1 h.2)]; simp)
      as_aux_lemma =>
        go_enter Try.func16, Try.ntmps16
        go_upto_region 1 with fail
        generalize World.alloc w _ = w0 at *
        have p0 := P0.2 0 _ rfl
        have p1 := P0.2 1 _ rfl
        have p2 := P0.2 2 _ rfl
        have p3 := P0.2 3 _ rfl
        have p4 := P0.2 4 _ rfl
        have p5 := P0.2 5 _ rfl
        have p6 := P0.2 6 _ rfl
        have p7 := P0.2 7 _ rfl
        have p8 := P0.2 8 _ rfl
        have p9 := P0.2 9 _ rfl
        have p10 := P0.2 10 _ rfl
        have p11 := P0.2 11 _ rfl
        go_wp2_with (first | (go_at_call 90; refine (specIn _ _ _ _ (by assumption) _).mono ?_; rintro e w' ⟨rfl, hw'⟩; obtain rfl := hw'.symm))
        have hc := specNoSpan x.s S0 [.int .i64 x.s.1, .int .i64 x.s.2.1, .int .i64 x.s.2.2.1, .int .i64 x.s.2.2.2.1, .bool x.s.2.2.2.2.1, .slice a x.s.2.2.2.2.2.length c] _ ⟨_, rfl, (unhide HG).keep attrR_keeps B0⟩ hsb
        rw [hns] at hc
        refine hc.mono ?_
        rintro e w1 ⟨rfl, hb⟩
        have P0 := P0.keep hb
        have B0 := bthen B0 hb
        clear hc hb
        clear p0 p1 p2 p3 p4 p5 p6 p7 p8 p9 p10 p11
        have p0 := P0.2 0 _ rfl
        have p1 := P0.2 1 _ rfl
        have p2 := P0.2 2 _ rfl
        have p3 := P0.2 3 _ rfl
        have p4 := P0.2 4 _ rfl
        have p5 := P0.2 5 _ rfl
        have p6 := P0.2 6 _ rfl
        have p7 := P0.2 7 _ rfl
        have p8 := P0.2 8 _ rfl
        have p9 := P0.2 9 _ rfl
        have p10 := P0.2 10 _ rfl
        have p11 := P0.2 11 _ rfl
        go_wp2_with (first | (go_at_call 90; refine (specIn _ _ _ _ (by assumption) _).mono ?_; rintro e w' ⟨rfl, hw'⟩; obtain rfl := hw'.symm))
        go_ret
        exact ⟨ret_bool (unhide HF).symm, B0⟩
    have q3 : (x.stamp == 0) = true := by simpa using t1
    have T1 := hide t1
    clear t1
    by_cases n0 : (x.hand.length : Int) = 0
    case neg =>
      have q4 : ((x.hand.length : Int) == 0) = false := by simpa using n0
      have HF := hide (show taskB x k = false by rw [unhide HT, decide_eq_false (p := x.hand.length = 0) (by omega)]; simp)
      as_aux_lemma =>
        go_enter Try.func16, Try.ntmps16
        go_upto_region 1 with fail
        generalize World.alloc w _ = w0 at *
        have p0 := P0.2 0 _ rfl
        have p1 := P0.2 1 _ rfl
        have p2 := P0.2 2 _ rfl
        have p3 := P0.2 3 _ rfl
        have p4 := P0.2 4 _ rfl
        have p5 := P0.2 5 _ rfl
        have p6 := P0.2 6 _ rfl
        have p7 := P0.2 7 _ rfl
        have p8 := P0.2 8 _ rfl
        have p9 := P0.2 9 _ rfl
        have p10 := P0.2 10 _ rfl
        have p11 := P0.2 11 _ rfl
        go_wp2_with (first | (go_at_call 90; refine (specIn _ _ _ _ (by assumption) _).mono ?_; rintro e w' ⟨rfl, hw'⟩; obtain rfl := hw'.symm))
        have hc := specNoSpan x.s S0 [.int .i64 x.s.1, .int .i64 x.s.2.1, .int .i64 x.s.2.2.1, .int .i64 x.s.2.2.2.1, .bool x.s.2.2.2.2.1, .slice a x.s.2.2.2.2.2.length c] _ ⟨_, rfl, (unhide HG).keep attrR_keeps B0⟩ hsb
        rw [hns] at hc
        refine hc.mono ?_
        rintro e w1 ⟨rfl, hb⟩
        have P0 := P0.keep hb
        have B0 := bthen B0 hb
        clear hc hb
        clear p0 p1 p2 p3 p4 p5 p6 p7 p8 p9 p10 p11
        have p0 := P0.2 0 _ rfl
        have p1 := P0.2 1 _ rfl
        have p2 := P0.2 2 _ rfl
        have p3 := P0.2 3 _ rfl
        have p4 := P0.2 4 _ rfl
        have p5 := P0.2 5 _ rfl
        have p6 := P0.2 6 _ rfl
        have p7 := P0.2 7 _ rfl
        have p8 := P0.2 8 _ rfl
        have p9 := P0.2 9 _ rfl
        have p10 := P0.2 10 _ rfl
        have p11 := P0.2 11 _ rfl
        go_wp2_with (first | (go_at_call 90; refine (specIn _ _ _ _ (by assumption) _).mono ?_; rintro e w' ⟨rfl, hw'⟩; obtain rfl := hw'.symm))
        go_ret
        exact ⟨ret_bool (unhide HF).symm, B0⟩
    have q4 : ((x.hand.length : Int) == 0) = true := by simpa using n0
    have N0 := hide n0
    clear n0
    have HF := hide (show taskB x k = decide (x.h = 0) by have := unhide N0; rw [unhide HT, hns, show noTnB x.trace x.stamp = true from decide_eq_true ⟨unhide T0, unhide T1⟩, decide_eq_true (p := x.hand.length = 0) (by omega), Bool.eq_iff_iff]; simp [unhide C0])
    as_aux_lemma =>
      go_enter Try.func16, Try.ntmps16
      go_upto_region 1 with fail
      generalize World.alloc w _ = w0 at *
      have p0 := P0.2 0 _ rfl
      have p1 := P0.2 1 _ rfl
      have p2 := P0.2 2 _ rfl
      have p3 := P0.2 3 _ rfl
      have p4 := P0.2 4 _ rfl
      have p5 := P0.2 5 _ rfl
      have p6 := P0.2 6 _ rfl
      have p7 := P0.2 7 _ rfl
      have p8 := P0.2 8 _ rfl
      have p9 := P0.2 9 _ rfl
      have p10 := P0.2 10 _ rfl
      have p11 := P0.2 11 _ rfl
      go_wp2_with (first | (go_at_call 90; refine (specIn _ _ _ _ (by assumption) _).mono ?_; rintro e w' ⟨rfl, hw'⟩; obtain rfl := hw'.symm))
      have hc := specNoSpan x.s S0 [.int .i64 x.s.1, .int .i64 x.s.2.1, .int .i64 x.s.2.2.1, .int .i64 x.s.2.2.2.1, .bool x.s.2.2.2.2.1, .slice a x.s.2.2.2.2.2.length c] _ ⟨_, rfl, (unhide HG).keep attrR_keeps B0⟩ hsb
      rw [hns] at hc
      refine hc.mono ?_
      rintro e w1 ⟨rfl, hb⟩
      have P0 := P0.keep hb
      have B0 := bthen B0 hb
      clear hc hb
      clear p0 p1 p2 p3 p4 p5 p6 p7 p8 p9 p10 p11
      have p0 := P0.2 0 _ rfl
      have p1 := P0.2 1 _ rfl
      have p2 := P0.2 2 _ rfl
      have p3 := P0.2 3 _ rfl
      have p4 := P0.2 4 _ rfl
      have p5 := P0.2 5 _ rfl
      have p6 := P0.2 6 _ rfl
      have p7 := P0.2 7 _ rfl
      have p8 := P0.2 8 _ rfl
      have p9 := P0.2 9 _ rfl
      have p10 := P0.2 10 _ rfl
      have p11 := P0.2 11 _ rfl
      go_wp2_with (first | (go_at_call 90; refine (specIn _ _ _ _ (by assumption) _).mono ?_; rintro e w' ⟨rfl, hw'⟩; obtain rfl := hw'.symm))
      go_ret
      exact ⟨ret_bool (by first | (rw [unhide HF]; done) | (rw [unhide HF]; rfl) | (rw [unhide HF, Bool.eq_iff_iff]; simp)), B0⟩
  have d0 : (x.op == 0) = false := by simpa using o0
  by_cases o1 : x.op = 1
  ·
    have d1 : (x.op == 1) = true := by simpa using o1
    have HT := hide (taskB_1 (unhide HK) o1)
    clear o1 o0
    by_cases c0 : 3 ≤ k
    ·
      have HF := hide (show taskB x k = false by rw [unhide HT, decide_eq_false (p := k < 3) (by omega)]; rfl)
      as_aux_lemma =>
        go_enter Try.func16, Try.ntmps16
        go_upto_region 1 with fail
        generalize World.alloc w _ = w0 at *
        have p0 := P0.2 0 _ rfl
        have p1 := P0.2 1 _ rfl
        have p2 := P0.2 2 _ rfl
        have p3 := P0.2 3 _ rfl
        have p4 := P0.2 4 _ rfl
        have p5 := P0.2 5 _ rfl
        have p6 := P0.2 6 _ rfl
        have p7 := P0.2 7 _ rfl
        have p8 := P0.2 8 _ rfl
        have p9 := P0.2 9 _ rfl
        have p10 := P0.2 10 _ rfl
        have p11 := P0.2 11 _ rfl
        go_wp2_with (first | (go_at_call 90; refine (specIn _ _ _ _ (by assumption) _).mono ?_; rintro e w' ⟨rfl, hw'⟩; obtain rfl := hw'.symm))
        go_ret
        exact ⟨ret_bool (unhide HF).symm, B0⟩
    have HT := hide ((unhide HT).trans (by rw [decide_eq_true (p := k < 3) (by omega), Bool.true_and]))
    cases hso : spanOkB x.s
    ·
      have HF := hide (show taskB x k = false by rw [unhide HT, hso]; rfl)
      as_aux_lemma =>
        go_enter Try.func16, Try.ntmps16
        go_upto_region 1 with fail
        generalize World.alloc w _ = w0 at *
        have p0 := P0.2 0 _ rfl
        have p1 := P0.2 1 _ rfl
        have p2 := P0.2 2 _ rfl
        have p3 := P0.2 3 _ rfl
        have p4 := P0.2 4 _ rfl
        have p5 := P0.2 5 _ rfl
        have p6 := P0.2 6 _ rfl
        have p7 := P0.2 7 _ rfl
        have p8 := P0.2 8 _ rfl
        have p9 := P0.2 9 _ rfl
        have p10 := P0.2 10 _ rfl
        have p11 := P0.2 11 _ rfl
        go_wp2_with (first | (go_at_call 90; refine (specIn _ _ _ _ (by assumption) _).mono ?_; rintro e w' ⟨rfl, hw'⟩; obtain rfl := hw'.symm))
        have hc := specSpanOkN x.s S0 [.int .i64 x.s.1, .int .i64 x.s.2.1, .int .i64 x.s.2.2.1, .int .i64 x.s.2.2.2.1, .bool x.s.2.2.2.2.1, .slice a x.s.2.2.2.2.2.length c] _ ⟨_, rfl, (unhide HG).keep attrR_keeps B0⟩ hsb
        rw [hso] at hc
        refine hc.mono ?_
        rintro e w1 ⟨rfl, hb⟩
        have P0 := P0.keep hb
        have B0 := bthen B0 hb
        clear hc hb
        clear p0 p1 p2 p3 p4 p5 p6 p7 p8 p9 p10 p11
        have p0 := P0.2 0 _ rfl
        have p1 := P0.2 1 _ rfl
        have p2 := P0.2 2 _ rfl
        have p3 := P0.2 3 _ rfl
        have p4 := P0.2 4 _ rfl
        have p5 := P0.2 5 _ rfl
        have p6 := P0.2 6 _ rfl
        have p7 := P0.2 7 _ rfl
        have p8 := P0.2 8 _ rfl
        have p9 := P0.2 9 _ rfl
        have p10 := P0.2 10 _ rfl
        have p11 := P0.2 11 _ rfl
        go_wp2_with (first | (go_at_call 90; refine (specIn _ _ _ _ (by assumption) _).mono ?_; rintro e w' ⟨rfl, hw'⟩; obtain rfl := hw'.symm))
        go_ret
        exact ⟨ret_bool (unhide HF).symm, B0⟩
    by_cases n0 : 0 < (x.hand.length : Int)
    ·
      have HF := hide (show taskB x k = false by rw [unhide HT, decide_eq_false (p := x.hand.length = 0) (by omega)]; simp)
      as_aux_lemma =>
        go_enter Try.func16, Try.ntmps16
        go_upto_region 1 with fail
        generalize World.alloc w _ = w0 at *
        have p0 := P0.2 0 _ rfl
        have p1 := P0.2 1 _ rfl
        have p2 := P0.2 2 _ rfl
        have p3 := P0.2 3 _ rfl
        have p4 := P0.2 4 _ rfl
        have p5 := P0.2 5 _ rfl
        have p6 := P0.2 6 _ rfl
        have p7 := P0.2 7 _ rfl
        have p8 := P0.2 8 _ rfl
        have p9 := P0.2 9 _ rfl
        have p10 := P0.2 10 _ rfl
        have p11 := P0.2 11 _ rfl
        go_wp2_with (first | (go_at_call 90; refine (specIn _ _ _ _ (by assumption) _).mono ?_; rintro e w' ⟨rfl, hw'⟩; obtain rfl := hw'.symm))
        have hc := specSpanOkN x.s S0 [.int .i64 x.s.1, .int .i64 x.s.2.1, .int .i64 x.s.2.2.1, .int .i64 x.s.2.2.2.1, .bool x.s.2.2.2.2.1, .slice a x.s.2.2.2.2.2.length c] _ ⟨_, rfl, (unhide HG).keep attrR_keeps B0⟩ hsb
        rw [hso] at hc
        refine hc.mono ?_
        rintro e w1 ⟨rfl, hb⟩
        have P0 := P0.keep hb
        have B0 := bthen B0 hb
        clear hc hb
        clear p0 p1 p2 p3 p4 p5 p6 p7 p8 p9 p10 p11
        have p0 := P0.2 0 _ rfl
        have p1 := P0.2 1 _ rfl
        have p2 := P0.2 2 _ rfl
        have p3 := P0.2 3 _ rfl
        have p4 := P0.2 4 _ rfl
        have p5 := P0.2 5 _ rfl
        have p6 := P0.2 6 _ rfl
        have p7 := P0.2 7 _ rfl
        have p8 := P0.2 8 _ rfl
        have p9 := P0.2 9 _ rfl
        have p10 := P0.2 10 _ rfl
        have p11 := P0.2 11 _ rfl
        go_wp2_with (first | (go_at_call 90; refine (specIn _ _ _ _ (by assumption) _).mono ?_; rintro e w' ⟨rfl, hw'⟩; obtain rfl := hw'.symm))
        go_ret
        exact ⟨ret_bool (unhide HF).symm, B0⟩
    have HT := hide ((unhide HT).trans (show _ = dropB x by rw [hso, decide_eq_true (p := x.hand.length = 0) (by omega)]; simp))
    by_cases c3 : x.pc = 3
    ·
      have q0 : (x.pc == 3) = true := by simpa using c3
      have HT := hide ((unhide HT).trans (show _ = tnB x.trace x.stamp by rw [dropB, if_pos c3]))
      clear c3
      cases i2 : inB x.trace 1 999
      ·
        have HF := hide (show taskB x k = false by rw [unhide HT, tnB, i2]; rfl)
        as_aux_lemma =>
          go_enter Try.func16, Try.ntmps16
          go_upto_region 1 with fail
          generalize World.alloc w _ = w0 at *
          have p0 := P0.2 0 _ rfl
          have p1 := P0.2 1 _ rfl
          have p2 := P0.2 2 _ rfl
          have p3 := P0.2 3 _ rfl
          have p4 := P0.2 4 _ rfl
          have p5 := P0.2 5 _ rfl
          have p6 := P0.2 6 _ rfl
          have p7 := P0.2 7 _ rfl
          have p8 := P0.2 8 _ rfl
          have p9 := P0.2 9 _ rfl
          have p10 := P0.2 10 _ rfl
          have p11 := P0.2 11 _ rfl
          go_wp2_with (first | (go_at_call 90; refine (specIn _ _ _ _ (by assumption) _).mono ?_; rintro e w' ⟨rfl, hw'⟩; obtain rfl := hw'.symm))
          have hc := specSpanOkN x.s S0 [.int .i64 x.s.1, .int .i64 x.s.2.1, .int .i64 x.s.2.2.1, .int .i64 x.s.2.2.2.1, .bool x.s.2.2.2.2.1, .slice a x.s.2.2.2.2.2.length c] _ ⟨_, rfl, (unhide HG).keep attrR_keeps B0⟩ hsb
          rw [hso] at hc
          refine hc.mono ?_
          rintro e w1 ⟨rfl, hb⟩
          have P0 := P0.keep hb
          have B0 := bthen B0 hb
          clear hc hb
          clear p0 p1 p2 p3 p4 p5 p6 p7 p8 p9 p10 p11
          have p0 := P0.2 0 _ rfl
          have p1 := P0.2 1 _ rfl
          have p2 := P0.2 2 _ rfl
          have p3 := P0.2 3 _ rfl
          have p4 := P0.2 4 _ rfl
          have p5 := P0.2 5 _ rfl
          have p6 := P0.2 6 _ rfl
          have p7 := P0.2 7 _ rfl
          have p8 := P0.2 8 _ rfl
          have p9 := P0.2 9 _ rfl
          have p10 := P0.2 10 _ rfl
          have p11 := P0.2 11 _ rfl
          go_wp2_with (first | (go_at_call 90; refine (specIn _ _ _ _ (by assumption) _).mono ?_; rintro e w' ⟨rfl, hw'⟩; obtain rfl := hw'.symm))
          go_ret
          exact ⟨ret_bool (unhide HF).symm, B0⟩
      have HF := hide (show taskB x k = decide (1 ≤ x.stamp) by rw [unhide HT, tnB, i2]; rfl)
      as_aux_lemma =>
        go_enter Try.func16, Try.ntmps16
        go_upto_region 1 with fail
        generalize World.alloc w _ = w0 at *
        have p0 := P0.2 0 _ rfl
        have p1 := P0.2 1 _ rfl
        have p2 := P0.2 2 _ rfl
        have p3 := P0.2 3 _ rfl
        have p4 := P0.2 4 _ rfl
        have p5 := P0.2 5 _ rfl
        have p6 := P0.2 6 _ rfl
        have p7 := P0.2 7 _ rfl
        have p8 := P0.2 8 _ rfl
        have p9 := P0.2 9 _ rfl
        have p10 := P0.2 10 _ rfl
        have p11 := P0.2 11 _ rfl
        go_wp2_with (first | (go_at_call 90; refine (specIn _ _ _ _ (by assumption) _).mono ?_; rintro e w' ⟨rfl, hw'⟩; obtain rfl := hw'.symm))
        have hc := specSpanOkN x.s S0 [.int .i64 x.s.1, .int .i64 x.s.2.1, .int .i64 x.s.2.2.1, .int .i64 x.s.2.2.2.1, .bool x.s.2.2.2.2.1, .slice a x.s.2.2.2.2.2.length c] _ ⟨_, rfl, (unhide HG).keep attrR_keeps B0⟩ hsb
        rw [hso] at hc
        refine hc.mono ?_
        rintro e w1 ⟨rfl, hb⟩
        have P0 := P0.keep hb
        have B0 := bthen B0 hb
        clear hc hb
        clear p0 p1 p2 p3 p4 p5 p6 p7 p8 p9 p10 p11
        have p0 := P0.2 0 _ rfl
        have p1 := P0.2 1 _ rfl
        have p2 := P0.2 2 _ rfl
        have p3 := P0.2 3 _ rfl
        have p4 := P0.2 4 _ rfl
        have p5 := P0.2 5 _ rfl
        have p6 := P0.2 6 _ rfl
        have p7 := P0.2 7 _ rfl
        have p8 := P0.2 8 _ rfl
        have p9 := P0.2 9 _ rfl
        have p10 := P0.2 10 _ rfl
        have p11 := P0.2 11 _ rfl
        go_wp2_with (first | (go_at_call 90; refine (specIn _ _ _ _ (by assumption) _).mono ?_; rintro e w' ⟨rfl, hw'⟩; obtain rfl := hw'.symm))
        go_ret
        exact ⟨ret_bool (unhide HF).symm, B0⟩
    ·
      have q0 : (x.pc == 3) = false := by simpa using c3
      have HT := hide ((unhide HT).trans (show _ = noTnB x.trace x.stamp by rw [dropB, if_neg c3]))
      clear c3
      by_cases t0 : x.trace = 0
      case neg =>
        have q2 : (x.trace == 0) = false := by simpa using t0
        have HF := hide (show taskB x k = false by rw [unhide HT]; exact decide_eq_false (fun h => t0 h.1))
        as_aux_lemma =>
          go_enter Try.func16, Try.ntmps16
          go_upto_region 1 with fail
          generalize World.alloc w _ = w0 at *
          have p0 := P0.2 0 _ rfl
          have p1 := P0.2 1 _ rfl
          have p2 := P0.2 2 _ rfl
          have p3 := P0.2 3 _ rfl
          have p4 := P0.2 4 _ rfl
          have p5 := P0.2 5 _ rfl
          have p6 := P0.2 6 _ rfl
          have p7 := P0.2 7 _ rfl
          have p8 := P0.2 8 _ rfl
          have p9 := P0.2 9 _ rfl
          have p10 := P0.2 10 _ rfl
          have p11 := P0.2 11 _ rfl
          go_wp2_with (first | (go_at_call 90; refine (specIn _ _ _ _ (by assumption) _).mono ?_; rintro e w' ⟨rfl, hw'⟩; obtain rfl := hw'.symm))
          have hc := specSpanOkN x.s S0 [.int .i64 x.s.1, .int .i64 x.s.2.1, .int .i64 x.s.2.2.1, .int .i64 x.s.2.2.2.1, .bool x.s.2.2.2.2.1, .slice a x.s.2.2.2.2.2.length c] _ ⟨_, rfl, (unhide HG).keep attrR_keeps B0⟩ hsb
          rw [hso] at hc
          refine hc.mono ?_
          rintro e w1 ⟨rfl, hb⟩
          have P0 := P0.keep hb
          have B0 := bthen B0 hb
          clear hc hb
          clear p0 p1 p2 p3 p4 p5 p6 p7 p8 p9 p10 p11
          have p0 := P0.2 0 _ rfl
          have p1 := P0.2 1 _ rfl
          have p2 := P0.2 2 _ rfl
          have p3 := P0.2 3 _ rfl
          have p4 := P0.2 4 _ rfl
          have p5 := P0.2 5 _ rfl
          have p6 := P0.2 6 _ rfl
          have p7 := P0.2 7 _ rfl
          have p8 := P0.2 8 _ rfl
          have p9 := P0.2 9 _ rfl
          have p10 := P0.2 10 _ rfl
          have p11 := P0.2 11 _ rfl
          go_wp2_with (first | (go_at_call 90; refine (specIn _ _ _ _ (by assumption) _).mono ?_; rintro e w' ⟨rfl, hw'⟩; obtain rfl := hw'.symm))
          go_ret
          exact ⟨ret_bool (unhide HF).symm, B0⟩
      have q2 : (x.trace == 0) = true := by simpa using t0
      have T0 := hide t0
      clear t0
      have HF := hide (show taskB x k = decide (x.stamp = 0) by rw [unhide HT, noTnB]; exact decide_eq_decide.2 ⟨fun h => h.2, fun h => ⟨unhide T0, h⟩⟩)
      as_aux_lemma =>
        go_enter Try.func16, Try.ntmps16
        go_upto_region 1 with fail
        generalize World.alloc w _ = w0 at *
        have p0 := P0.2 0 _ rfl
        have p1 := P0.2 1 _ rfl
        have p2 := P0.2 2 _ rfl
        have p3 := P0.2 3 _ rfl
        have p4 := P0.2 4 _ rfl
        have p5 := P0.2 5 _ rfl
        have p6 := P0.2 6 _ rfl
        have p7 := P0.2 7 _ rfl
        have p8 := P0.2 8 _ rfl
        have p9 := P0.2 9 _ rfl
        have p10 := P0.2 10 _ rfl
        have p11 := P0.2 11 _ rfl
        go_wp2_with (first | (go_at_call 90; refine (specIn _ _ _ _ (by assumption) _).mono ?_; rintro e w' ⟨rfl, hw'⟩; obtain rfl := hw'.symm))
        have hc := specSpanOkN x.s S0 [.int .i64 x.s.1, .int .i64 x.s.2.1, .int .i64 x.s.2.2.1, .int .i64 x.s.2.2.2.1, .bool x.s.2.2.2.2.1, .slice a x.s.2.2.2.2.2.length c] _ ⟨_, rfl, (unhide HG).keep attrR_keeps B0⟩ hsb
        rw [hso] at hc
        refine hc.mono ?_
        rintro e w1 ⟨rfl, hb⟩
        have P0 := P0.keep hb
        have B0 := bthen B0 hb
        clear hc hb
        clear p0 p1 p2 p3 p4 p5 p6 p7 p8 p9 p10 p11
        have p0 := P0.2 0 _ rfl
        have p1 := P0.2 1 _ rfl
        have p2 := P0.2 2 _ rfl
        have p3 := P0.2 3 _ rfl
        have p4 := P0.2 4 _ rfl
        have p5 := P0.2 5 _ rfl
        have p6 := P0.2 6 _ rfl
        have p7 := P0.2 7 _ rfl
        have p8 := P0.2 8 _ rfl
        have p9 := P0.2 9 _ rfl
        have p10 := P0.2 10 _ rfl
        have p11 := P0.2 11 _ rfl
        go_wp2_with (first | (go_at_call 90; refine (specIn _ _ _ _ (by assumption) _).mono ?_; rintro e w' ⟨rfl, hw'⟩; obtain rfl := hw'.symm))
        go_ret
        exact ⟨ret_bool (by first | (rw [unhide HF]; done) | (rw [unhide HF]; rfl) | (rw [unhide HF, Bool.eq_iff_iff]; simp)), B0⟩
  have d1 : (x.op == 1) = false := by simpa using o1
  by_cases o2 : x.op = 2
  case neg =>
    have d2 : (x.op == 2) = false := by simpa using o2
    have HF := hide (show taskB x k = false by exact taskB_n o0 o1 o2)
    as_aux_lemma =>
      go_enter Try.func16, Try.ntmps16
      go_upto_region 1 with fail
      generalize World.alloc w _ = w0 at *
      have p0 := P0.2 0 _ rfl
      have p1 := P0.2 1 _ rfl
      have p2 := P0.2 2 _ rfl
      have p3 := P0.2 3 _ rfl
      have p4 := P0.2 4 _ rfl
      have p5 := P0.2 5 _ rfl
      have p6 := P0.2 6 _ rfl
      have p7 := P0.2 7 _ rfl
      have p8 := P0.2 8 _ rfl
      have p9 := P0.2 9 _ rfl
      have p10 := P0.2 10 _ rfl
      have p11 := P0.2 11 _ rfl
      go_wp2_with (first | (go_at_call 90; refine (specIn _ _ _ _ (by assumption) _).mono ?_; rintro e w' ⟨rfl, hw'⟩; obtain rfl := hw'.symm))
      go_ret
      exact ⟨ret_bool (unhide HF).symm, B0⟩
  have d2 : (x.op == 2) = true := by simpa using o2
  have HT := hide (taskB_2 (unhide HK) o2)
  clear o2 o1 o0
  go_enter Try.func16, Try.ntmps16
  go_upto_region 1 with fail
  generalize World.alloc w _ = w0 at *
  have p0 := P0.2 0 _ rfl
  have p1 := P0.2 1 _ rfl
  have p2 := P0.2 2 _ rfl
  have p3 := P0.2 3 _ rfl
  have p4 := P0.2 4 _ rfl
  have p5 := P0.2 5 _ rfl
  have p6 := P0.2 6 _ rfl
  have p7 := P0.2 7 _ rfl
  have p8 := P0.2 8 _ rfl
  have p9 := P0.2 9 _ rfl
  have p10 := P0.2 10 _ rfl
  have p11 := P0.2 11 _ rfl
  go_wp2_with (first | (go_at_call 90; refine (specIn _ _ _ _ (by assumption) _).mono ?_; rintro e w' ⟨rfl, hw'⟩; obtain rfl := hw'.symm))
  clear p0 p1 p2 p3 p4 p5 p6 p7 p8 p9 p10 p11
  go_loopw [5] (fun i wk => ∃ j : Nat, j ≤ x.hand.length ∧ i = .int .i64 j ∧ Below w0.heap.size w0 wk ∧ Hid (∀ m (h : m < x.hand.length), m < j → okItB x.stamp x.hand[m] = true)) (fun i _ => x.hand.length - (intOf i).toNat)
  case atStart => exact ⟨0, Nat.zero_le _, rfl, Below.refl _ _, hide (fun m h hj => absurd hj (Nat.not_lt_zero _))⟩
  case round =>
    obtain ⟨j, hj, rfl, hbl, hall⟩ := hrel
    have Pk := P0.keep hbl
    have p0 := Pk.2 0 _ rfl
    have p1 := Pk.2 1 _ rfl
    have p2 := Pk.2 2 _ rfl
    have p3 := Pk.2 3 _ rfl
    have p4 := Pk.2 4 _ rfl
    have p5 := Pk.2 5 _ rfl
    have p6 := Pk.2 6 _ rfl
    have p7 := Pk.2 7 _ rfl
    have p8 := Pk.2 8 _ rfl
    have p9 := Pk.2 9 _ rfl
    have p10 := Pk.2 10 _ rfl
    have p11 := Pk.2 11 _ rfl
    by_cases hlt : j < x.hand.length
    ·
      have hki : (j : Int) < (x.hand.length : Int) := by omega
      obtain ⟨b, o, cs, rfl, hbk, hSb, hcs, hin⟩ := (unhide HH).at j hlt
      have hcs := itemR_keeps _ _ S0 None1 cs _ (Below.turn B0) none_off hcs
      have hin := hin.turn hbk (Below.turn B0) (fun e => e)
      have hbk2 := Nat.lt_of_lt_of_le hbk B0.size
      have hXb : itemBulk x.hand[j] ≤ 1048576 := by have := bulkL_mem itemBulk (List.getElem_mem hlt); omega
      generalize hX : x.hand[j] = X at *
      have HX := hide hX
      clear hX
      have hrw : RowT Try.prog 120 cs.length := by rw [itemR_len hcs]; exact rowIItem
      have z0 : w0.cell? ⟨b, o + j * 7, none⟩ = some (.int .i64 X.stamp) := hin 0 _ (itemR_c0 hcs)
      go_upto_region 16 with fail
      cases hsp : itemB X
      ·
        refine wp_region_held_drew (S := fun w' => Below w0.heap.size w0 w') (by kernel_rfl) (Below.drew hbl) (fun hHeld => ?_)
        refine wpAnyH_take (i := 0) (oi := ?oo1) (v := ?vv1) ?hi1 (by kernel_rfl) (by kernel_rfl) (by kernel_rfl) ?hQ1 ?hy1 (by assumption) ?rest1
        case hi1 => (simp only [List.getElem?_toArray, List.getElem?_cons_zero]; rfl)
        case hQ1 => exact fun _ _ _ h => h
        case hy1 => exact Or.inl ⟨by rfl, by intro wS hSw; (try dsimp only at hSw); go_simp; try first | (with_reducible rfl) | (simp only [*]; done) | omega⟩
        try simp only [Act.put, List.setIfInBounds_toArray, List.set_cons_zero, List.set_cons_succ]
        refine wpAnyH_take (i := 1) (oi := ?oo2) (v := .slice (some ⟨b, o, none⟩) x.hand.length c2) ?hi2 (by kernel_rfl) (by kernel_rfl) (by kernel_rfl) ?hQ2 ?hy2 (by assumption) ?rest2
        case hi2 => (simp only [List.getElem?_toArray, List.getElem?_cons_zero, List.getElem?_cons_succ]; rfl)
        case hQ2 => exact fun _ _ _ h => h
        case hy2 => exact yld_cell (by rfl) _ _ rfl _ _ rfl _ (fun w' hS => by rw [hS.cell P0.1]; exact P0.2 10 _ rfl) plainItemS
        try simp only [Act.put, List.setIfInBounds_toArray, List.set_cons_zero, List.set_cons_succ]
        refine wpAnyH_take (i := 2) (oi := ?oo3) (v := ?vv3) ?hi3 (by kernel_rfl) (by kernel_rfl) (by kernel_rfl) ?hQ3 ?hy3 (by assumption) ?rest3
        case hi3 => (simp only [List.getElem?_toArray, List.getElem?_cons_zero, List.getElem?_cons_succ]; rfl)
        case hQ3 => exact fun _ _ _ h => h
        case hy3 => exact Or.inl ⟨by rfl, by intro wS hSw; (try dsimp only at hSw); go_simp; try first | (with_reducible rfl) | (simp only [*]; done) | omega⟩
        try simp only [Act.put, List.setIfInBounds_toArray, List.set_cons_zero, List.set_cons_succ]
        refine wpAnyH_take (i := 3) (oi := ?oo4) (v := ?vv4) ?hi4 (by kernel_rfl) (by kernel_rfl) (by kernel_rfl) ?hQ4 ?hy4 (by assumption) ?rest4
        case hi4 => (simp only [List.getElem?_toArray, List.getElem?_cons_zero, List.getElem?_cons_succ]; rfl)
        case hQ4 => exact fun _ _ _ h => h
        case hy4 => exact Or.inl ⟨by rfl, by intro wS hSw; (try dsimp only at hSw); go_simp; try first | (with_reducible rfl) | (simp only [*]; done) | omega⟩
        try simp only [Act.put, List.setIfInBounds_toArray, List.set_cons_zero, List.set_cons_succ]
        refine wpAnyH_take (i := 4) (oi := ?oo5) (v := .agg cs.toArray) ?hi5 (by kernel_rfl) (by kernel_rfl) (by kernel_rfl) ?hQ5 ?hy5 (by assumption) ?rest5
        case hi5 => (simp only [List.getElem?_toArray, List.getElem?_cons_zero, List.getElem?_cons_succ]; rfl)
        case hQ5 => exact fun _ _ _ h => h
        case hy5 => exact yld_load (by rfl) _ _ rfl _ _ rfl cs (fun w' hS => hin.turn hbk2 (Below.turn hS) (fun e => e)) hrw
        try simp only [Act.put, List.setIfInBounds_toArray, List.set_cons_zero, List.set_cons_succ]
        refine wpAnyH_ready (rs := [5]) (by kernel_rfl) (by simp) ?_
        refine (AllReadyH.cons (o := ?bo6n5) ?bh6n5 (fun K hK => ?br6n5) AllReadyH.nil)
        case bh6n5 => (simp only [List.getElem?_toArray, List.getElem?_cons_zero, List.getElem?_cons_succ]; rfl)
        case br6n5 =>
          go_simp
          have hc := specItemOk X _ cs _ (itemR_keeps _ _ _ None1 _ _ (Below.turn hHeld) none_off hcs) hXb
          rw [hsp] at hc
          refine hc.mono ?_
          rintro e w5 ⟨rfl, hb5⟩
          have hH5 := bthen hHeld hb5
          clear hc hHeld hb5
          go_wp2_with fail
          refine hK.out _ _ (hH5) (fun hHeld => ?_)
          clear hK
          refine wpAnyH_take (i := 6) (oi := ?oo7) (v := ?vv7) ?hi7 (by kernel_rfl) (by kernel_rfl) (by kernel_rfl) ?hQ7 ?hy7 (by assumption) ?rest7
          case hi7 => (simp only [List.getElem?_toArray, List.getElem?_cons_zero, List.getElem?_cons_succ]; rfl)
          case hQ7 => exact fun _ _ _ h => h
          case hy7 => exact Or.inl ⟨by rfl, by intro wS hSw; (try dsimp only at hSw); go_simp; try first | (with_reducible rfl) | (simp only [*]; done) | omega⟩
          try simp only [Act.put, List.setIfInBounds_toArray, List.set_cons_zero, List.set_cons_succ]
          refine wpAnyH_take (i := 7) (oi := ?oo8) (v := ?vv8) ?hi8 (by kernel_rfl) (by kernel_rfl) (by kernel_rfl) ?hQ8 ?hy8 (by assumption) ?rest8
          case hi8 => (simp only [List.getElem?_toArray, List.getElem?_cons_zero, List.getElem?_cons_succ]; rfl)
          case hQ8 => exact fun _ _ _ h => h
          case hy8 => exact Or.inl ⟨by rfl, by intro wS hSw; (try dsimp only at hSw); go_simp; try first | (with_reducible rfl) | (simp only [*]; done) | omega⟩
          try simp only [Act.put, List.setIfInBounds_toArray, List.set_cons_zero, List.set_cons_succ]
          refine wpAnyH_take (i := 8) (oi := ?oo9) (v := undef) ?hi9 (by kernel_rfl) (by kernel_rfl) (by kernel_rfl) ?hQ9 ?hy9 (by assumption) ?rest9
          case hi9 => (simp only [List.getElem?_toArray, List.getElem?_cons_zero, List.getElem?_cons_succ]; rfl)
          case hQ9 => exact fun _ _ _ h => h
          case hy9 => exact Or.inr ⟨by rfl, rfl⟩
          try simp only [Act.put, List.setIfInBounds_toArray, List.set_cons_zero, List.set_cons_succ]
          refine wpAnyH_take (i := 9) (oi := ?oo10) (v := undef) ?hi10 (by kernel_rfl) (by kernel_rfl) (by kernel_rfl) ?hQ10 ?hy10 (by assumption) ?rest10
          case hi10 => (simp only [List.getElem?_toArray, List.getElem?_cons_zero, List.getElem?_cons_succ]; rfl)
          case hQ10 => exact fun _ _ _ h => h
          case hy10 => exact Or.inr ⟨by rfl, rfl⟩
          try simp only [Act.put, List.setIfInBounds_toArray, List.set_cons_zero, List.set_cons_succ]
          refine wpAnyH_take (i := 10) (oi := ?oo11) (v := undef) ?hi11 (by kernel_rfl) (by kernel_rfl) (by kernel_rfl) ?hQ11 ?hy11 (by assumption) ?rest11
          case hi11 => (simp only [List.getElem?_toArray, List.getElem?_cons_zero, List.getElem?_cons_succ]; rfl)
          case hQ11 => exact fun _ _ _ h => h
          case hy11 => exact Or.inr ⟨by rfl, rfl⟩
          try simp only [Act.put, List.setIfInBounds_toArray, List.set_cons_zero, List.set_cons_succ]
          refine wpAnyH_take (i := 11) (oi := ?oo12) (v := undef) ?hi12 (by kernel_rfl) (by kernel_rfl) (by kernel_rfl) ?hQ12 ?hy12 (by assumption) ?rest12
          case hi12 => (simp only [List.getElem?_toArray, List.getElem?_cons_zero, List.getElem?_cons_succ]; rfl)
          case hQ12 => exact fun _ _ _ h => h
          case hy12 => exact Or.inr ⟨by rfl, rfl⟩
          try simp only [Act.put, List.setIfInBounds_toArray, List.set_cons_zero, List.set_cons_succ]
          refine wpAnyH_take (i := 12) (oi := ?oo13) (v := undef) ?hi13 (by kernel_rfl) (by kernel_rfl) (by kernel_rfl) ?hQ13 ?hy13 (by assumption) ?rest13
          case hi13 => (simp only [List.getElem?_toArray, List.getElem?_cons_zero, List.getElem?_cons_succ]; rfl)
          case hQ13 => exact fun _ _ _ h => h
          case hy13 => exact Or.inr ⟨by rfl, rfl⟩
          try simp only [Act.put, List.setIfInBounds_toArray, List.set_cons_zero, List.set_cons_succ]
          refine wpAnyH_take (i := 13) (oi := ?oo14) (v := undef) ?hi14 (by kernel_rfl) (by kernel_rfl) (by kernel_rfl) ?hQ14 ?hy14 (by assumption) ?rest14
          case hi14 => (simp only [List.getElem?_toArray, List.getElem?_cons_zero, List.getElem?_cons_succ]; rfl)
          case hQ14 => exact fun _ _ _ h => h
          case hy14 => exact Or.inr ⟨by rfl, rfl⟩
          try simp only [Act.put, List.setIfInBounds_toArray, List.set_cons_zero, List.set_cons_succ]
          refine wpAnyH_take (i := 14) (oi := ?oo15) (v := undef) ?hi15 (by kernel_rfl) (by kernel_rfl) (by kernel_rfl) ?hQ15 ?hy15 (by assumption) ?rest15
          case hi15 => (simp only [List.getElem?_toArray, List.getElem?_cons_zero, List.getElem?_cons_succ]; rfl)
          case hQ15 => exact fun _ _ _ h => h
          case hy15 => exact Or.inr ⟨by rfl, rfl⟩
          try simp only [Act.put, List.setIfInBounds_toArray, List.set_cons_zero, List.set_cons_succ]
          refine wpAnyH_take (i := 15) (oi := ?oo16) (v := undef) ?hi16 (by kernel_rfl) (by kernel_rfl) (by kernel_rfl) ?hQ16 ?hy16 (by assumption) ?rest16
          case hi16 => (simp only [List.getElem?_toArray, List.getElem?_cons_zero, List.getElem?_cons_succ]; rfl)
          case hQ16 => exact fun _ _ _ h => h
          case hy16 => exact Or.inr ⟨by rfl, rfl⟩
          try simp only [Act.put, List.setIfInBounds_toArray, List.set_cons_zero, List.set_cons_succ]
          refine wpAnyH_take (i := 16) (oi := ?oo17) (v := undef) ?hi17 (by kernel_rfl) (by kernel_rfl) (by kernel_rfl) ?hQ17 ?hy17 (by assumption) ?rest17
          case hi17 => (simp only [List.getElem?_toArray, List.getElem?_cons_zero, List.getElem?_cons_succ]; rfl)
          case hQ17 => exact fun _ _ _ h => h
          case hy17 => exact Or.inr ⟨by rfl, rfl⟩
          try simp only [Act.put, List.setIfInBounds_toArray, List.set_cons_zero, List.set_cons_succ]
          refine wpAnyH_take (i := 17) (oi := ?oo18) (v := ?vv18) ?hi18 (by kernel_rfl) (by kernel_rfl) (by kernel_rfl) ?hQ18 ?hy18 (by assumption) ?rest18
          case hi18 => (simp only [List.getElem?_toArray, List.getElem?_cons_zero, List.getElem?_cons_succ]; rfl)
          case hQ18 => exact fun _ _ _ h => h
          case hy18 => exact Or.inl ⟨by rfl, by intro wS hSw; (try dsimp only at hSw); go_simp; try first | (with_reducible rfl) | (simp only [*]; done) | omega⟩
          try simp only [Act.put, List.setIfInBounds_toArray, List.set_cons_zero, List.set_cons_succ]
          refine wpAnyH_done (by kernel_rfl) ?_ _
          have HF := hide (show taskB x k = false by rw [unhide HT, handB, not_all hlt (by rw [unhide HX, okItB, hsp]; rfl)]; simp)
          go_wp2
          go_ret
          exact ⟨ret_bool (unhide HF).symm, bthen B0 hHeld⟩
      ·
        refine wp_region_held_drew (S := fun w' => Below w0.heap.size w0 w') (by kernel_rfl) (Below.drew hbl) (fun hHeld => ?_)
        refine wpAnyH_take (i := 0) (oi := ?oo19) (v := ?vv19) ?hi19 (by kernel_rfl) (by kernel_rfl) (by kernel_rfl) ?hQ19 ?hy19 (by assumption) ?rest19
        case hi19 => (simp only [List.getElem?_toArray, List.getElem?_cons_zero]; rfl)
        case hQ19 => exact fun _ _ _ h => h
        case hy19 => exact Or.inl ⟨by rfl, by intro wS hSw; (try dsimp only at hSw); go_simp; try first | (with_reducible rfl) | (simp only [*]; done) | omega⟩
        try simp only [Act.put, List.setIfInBounds_toArray, List.set_cons_zero, List.set_cons_succ]
        refine wpAnyH_take (i := 1) (oi := ?oo20) (v := .slice (some ⟨b, o, none⟩) x.hand.length c2) ?hi20 (by kernel_rfl) (by kernel_rfl) (by kernel_rfl) ?hQ20 ?hy20 (by assumption) ?rest20
        case hi20 => (simp only [List.getElem?_toArray, List.getElem?_cons_zero, List.getElem?_cons_succ]; rfl)
        case hQ20 => exact fun _ _ _ h => h
        case hy20 => exact yld_cell (by rfl) _ _ rfl _ _ rfl _ (fun w' hS => by rw [hS.cell P0.1]; exact P0.2 10 _ rfl) plainItemS
        try simp only [Act.put, List.setIfInBounds_toArray, List.set_cons_zero, List.set_cons_succ]
        refine wpAnyH_take (i := 2) (oi := ?oo21) (v := ?vv21) ?hi21 (by kernel_rfl) (by kernel_rfl) (by kernel_rfl) ?hQ21 ?hy21 (by assumption) ?rest21
        case hi21 => (simp only [List.getElem?_toArray, List.getElem?_cons_zero, List.getElem?_cons_succ]; rfl)
        case hQ21 => exact fun _ _ _ h => h
        case hy21 => exact Or.inl ⟨by rfl, by intro wS hSw; (try dsimp only at hSw); go_simp; try first | (with_reducible rfl) | (simp only [*]; done) | omega⟩
        try simp only [Act.put, List.setIfInBounds_toArray, List.set_cons_zero, List.set_cons_succ]
        refine wpAnyH_take (i := 3) (oi := ?oo22) (v := ?vv22) ?hi22 (by kernel_rfl) (by kernel_rfl) (by kernel_rfl) ?hQ22 ?hy22 (by assumption) ?rest22
        case hi22 => (simp only [List.getElem?_toArray, List.getElem?_cons_zero, List.getElem?_cons_succ]; rfl)
        case hQ22 => exact fun _ _ _ h => h
        case hy22 => exact Or.inl ⟨by rfl, by intro wS hSw; (try dsimp only at hSw); go_simp; try first | (with_reducible rfl) | (simp only [*]; done) | omega⟩
        try simp only [Act.put, List.setIfInBounds_toArray, List.set_cons_zero, List.set_cons_succ]
        refine wpAnyH_take (i := 4) (oi := ?oo23) (v := .agg cs.toArray) ?hi23 (by kernel_rfl) (by kernel_rfl) (by kernel_rfl) ?hQ23 ?hy23 (by assumption) ?rest23
        case hi23 => (simp only [List.getElem?_toArray, List.getElem?_cons_zero, List.getElem?_cons_succ]; rfl)
        case hQ23 => exact fun _ _ _ h => h
        case hy23 => exact yld_load (by rfl) _ _ rfl _ _ rfl cs (fun w' hS => hin.turn hbk2 (Below.turn hS) (fun e => e)) hrw
        try simp only [Act.put, List.setIfInBounds_toArray, List.set_cons_zero, List.set_cons_succ]
        refine wpAnyH_ready (rs := [5]) (by kernel_rfl) (by simp) ?_
        refine (AllReadyH.cons (o := ?bo24n5) ?bh24n5 (fun K hK => ?br24n5) AllReadyH.nil)
        case bh24n5 => (simp only [List.getElem?_toArray, List.getElem?_cons_zero, List.getElem?_cons_succ]; rfl)
        case br24n5 =>
          go_simp
          have hc := specItemOk X _ cs _ (itemR_keeps _ _ _ None1 _ _ (Below.turn hHeld) none_off hcs) hXb
          rw [hsp] at hc
          refine hc.mono ?_
          rintro e w5 ⟨rfl, hb5⟩
          have hH5 := bthen hHeld hb5
          clear hc hHeld hb5
          go_wp2_with fail
          refine hK.out _ _ (hH5) (fun hHeld => ?_)
          clear hK
          refine wpAnyH_take (i := 6) (oi := ?oo25) (v := ?vv25) ?hi25 (by kernel_rfl) (by kernel_rfl) (by kernel_rfl) ?hQ25 ?hy25 (by assumption) ?rest25
          case hi25 => (simp only [List.getElem?_toArray, List.getElem?_cons_zero, List.getElem?_cons_succ]; rfl)
          case hQ25 => exact fun _ _ _ h => h
          case hy25 => exact Or.inl ⟨by rfl, by intro wS hSw; (try dsimp only at hSw); go_simp; try first | (with_reducible rfl) | (simp only [*]; done) | omega⟩
          try simp only [Act.put, List.setIfInBounds_toArray, List.set_cons_zero, List.set_cons_succ]
          refine wpAnyH_take (i := 7) (oi := ?oo26) (v := ?vv26) ?hi26 (by kernel_rfl) (by kernel_rfl) (by kernel_rfl) ?hQ26 ?hy26 (by assumption) ?rest26
          case hi26 => (simp only [List.getElem?_toArray, List.getElem?_cons_zero, List.getElem?_cons_succ]; rfl)
          case hQ26 => exact fun _ _ _ h => h
          case hy26 => exact Or.inl ⟨by rfl, by intro wS hSw; (try dsimp only at hSw); go_simp; try first | (with_reducible rfl) | (simp only [*]; done) | omega⟩
          try simp only [Act.put, List.setIfInBounds_toArray, List.set_cons_zero, List.set_cons_succ]
          refine wpAnyH_take (i := 8) (oi := ?oo27) (v := ?vv27) ?hi27 (by kernel_rfl) (by kernel_rfl) (by kernel_rfl) ?hQ27 ?hy27 (by assumption) ?rest27
          case hi27 => (simp only [List.getElem?_toArray, List.getElem?_cons_zero, List.getElem?_cons_succ]; rfl)
          case hQ27 => exact fun _ _ _ h => h
          case hy27 => exact Or.inl ⟨by rfl, by intro wS hSw; (try dsimp only at hSw); go_simp; try first | (with_reducible rfl) | (simp only [*]; done) | omega⟩
          try simp only [Act.put, List.setIfInBounds_toArray, List.set_cons_zero, List.set_cons_succ]
          refine wpAnyH_take (i := 9) (oi := ?oo28) (v := .slice (some ⟨b, o, none⟩) x.hand.length c2) ?hi28 (by kernel_rfl) (by kernel_rfl) (by kernel_rfl) ?hQ28 ?hy28 (by assumption) ?rest28
          case hi28 => (simp only [List.getElem?_toArray, List.getElem?_cons_zero, List.getElem?_cons_succ]; rfl)
          case hQ28 => exact fun _ _ _ h => h
          case hy28 => exact yld_cell (by rfl) _ _ rfl _ _ rfl _ (fun w' hS => by rw [hS.cell P0.1]; exact P0.2 10 _ rfl) plainItemS
          try simp only [Act.put, List.setIfInBounds_toArray, List.set_cons_zero, List.set_cons_succ]
          refine wpAnyH_take (i := 10) (oi := ?oo29) (v := ?vv29) ?hi29 (by kernel_rfl) (by kernel_rfl) (by kernel_rfl) ?hQ29 ?hy29 (by assumption) ?rest29
          case hi29 => (simp only [List.getElem?_toArray, List.getElem?_cons_zero, List.getElem?_cons_succ]; rfl)
          case hQ29 => exact fun _ _ _ h => h
          case hy29 => exact Or.inl ⟨by rfl, by intro wS hSw; (try dsimp only at hSw); go_simp; try first | (with_reducible rfl) | (simp only [*]; done) | omega⟩
          try simp only [Act.put, List.setIfInBounds_toArray, List.set_cons_zero, List.set_cons_succ]
          refine wpAnyH_take (i := 11) (oi := ?oo30) (v := ?vv30) ?hi30 (by kernel_rfl) (by kernel_rfl) (by kernel_rfl) ?hQ30 ?hy30 (by assumption) ?rest30
          case hi30 => (simp only [List.getElem?_toArray, List.getElem?_cons_zero, List.getElem?_cons_succ]; rfl)
          case hQ30 => exact fun _ _ _ h => h
          case hy30 => exact Or.inl ⟨by rfl, by intro wS hSw; (try dsimp only at hSw); go_simp; try first | (with_reducible rfl) | (simp only [*]; done) | omega⟩
          try simp only [Act.put, List.setIfInBounds_toArray, List.set_cons_zero, List.set_cons_succ]
          refine wpAnyH_take (i := 12) (oi := ?oo31) (v := ?vv31) ?hi31 (by kernel_rfl) (by kernel_rfl) (by kernel_rfl) ?hQ31 ?hy31 (by assumption) ?rest31
          case hi31 => (simp only [List.getElem?_toArray, List.getElem?_cons_zero, List.getElem?_cons_succ]; rfl)
          case hQ31 => exact fun _ _ _ h => h
          case hy31 => exact Or.inl ⟨by rfl, by intro wS hSw; (try dsimp only at hSw); go_simp; try first | (with_reducible rfl) | (simp only [*]; done) | omega⟩
          try simp only [Act.put, List.setIfInBounds_toArray, List.set_cons_zero, List.set_cons_succ]
          refine wpAnyH_take (i := 13) (oi := ?oo32) (v := .int .i64 X.stamp) ?hi32 (by kernel_rfl) (by kernel_rfl) (by kernel_rfl) ?hQ32 ?hy32 (by assumption) ?rest32
          case hi32 => (simp only [List.getElem?_toArray, List.getElem?_cons_zero, List.getElem?_cons_succ]; rfl)
          case hQ32 => exact fun _ _ _ h => h
          case hy32 => exact yld_cell (by rfl) _ _ rfl _ _ rfl _ (fun w' hS => by rw [hS.cell hbk2]; exact z0) plainInt
          try simp only [Act.put, List.setIfInBounds_toArray, List.set_cons_zero, List.set_cons_succ]
          refine wpAnyH_take (i := 14) (oi := ?oo33) (v := ?vv33) ?hi33 (by kernel_rfl) (by kernel_rfl) (by kernel_rfl) ?hQ33 ?hy33 (by assumption) ?rest33
          case hi33 => (simp only [List.getElem?_toArray, List.getElem?_cons_zero, List.getElem?_cons_succ]; rfl)
          case hQ33 => exact fun _ _ _ h => h
          case hy33 => exact Or.inl ⟨by rfl, by intro wS hSw; (try dsimp only at hSw); go_simp; try first | (with_reducible rfl) | (simp only [*]; done) | omega⟩
          try simp only [Act.put, List.setIfInBounds_toArray, List.set_cons_zero, List.set_cons_succ]
          refine wpAnyH_take (i := 15) (oi := ?oo34) (v := .int .i64 x.stamp) ?hi34 (by kernel_rfl) (by kernel_rfl) (by kernel_rfl) ?hQ34 ?hy34 (by assumption) ?rest34
          case hi34 => (simp only [List.getElem?_toArray, List.getElem?_cons_zero, List.getElem?_cons_succ]; rfl)
          case hQ34 => exact fun _ _ _ h => h
          case hy34 => exact yld_cell (by rfl) _ _ rfl _ _ rfl _ (fun w' hS => by rw [hS.cell P0.1]; exact P0.2 9 _ rfl) plainInt
          try simp only [Act.put, List.setIfInBounds_toArray, List.set_cons_zero, List.set_cons_succ]
          refine wpAnyH_take (i := 16) (oi := ?oo35) (v := ?vv35) ?hi35 (by kernel_rfl) (by kernel_rfl) (by kernel_rfl) ?hQ35 ?hy35 (by assumption) ?rest35
          case hi35 => (simp only [List.getElem?_toArray, List.getElem?_cons_zero, List.getElem?_cons_succ]; rfl)
          case hQ35 => exact fun _ _ _ h => h
          case hy35 => exact Or.inl ⟨by rfl, by intro wS hSw; (try dsimp only at hSw); go_simp; try first | (with_reducible rfl) | (simp only [*]; done) | omega⟩
          try simp only [Act.put, List.setIfInBounds_toArray, List.set_cons_zero, List.set_cons_succ]
          refine wpAnyH_take (i := 17) (oi := ?oo36) (v := ?vv36) ?hi36 (by kernel_rfl) (by kernel_rfl) (by kernel_rfl) ?hQ36 ?hy36 (by assumption) ?rest36
          case hi36 => (simp only [List.getElem?_toArray, List.getElem?_cons_zero, List.getElem?_cons_succ]; rfl)
          case hQ36 => exact fun _ _ _ h => h
          case hy36 => exact Or.inl ⟨by rfl, by intro wS hSw; (try dsimp only at hSw); go_simp; try first | (with_reducible rfl) | (simp only [*]; done) | omega⟩
          try simp only [Act.put, List.setIfInBounds_toArray, List.set_cons_zero, List.set_cons_succ]
          refine wpAnyH_done (by kernel_rfl) ?_ _
          by_cases hid : X.stamp = x.stamp
          · have q : (X.stamp == x.stamp) = true := by simpa using hid
            have HI := hide hid
            clear hid
            go_wp2
            go_roundw
            case rel =>
              refine ⟨j + 1, by omega, by go_num, hHeld, hide (fun m h hj => ?_)⟩
              by_cases hjk : m = j
              · subst hjk; rw [unhide HX, okItB, hsp, decide_eq_true (unhide HI)]; rfl
              · exact unhide hall m h (by omega)
            case measure => simp [intOf]; omega
          · have q : (X.stamp == x.stamp) = false := by simpa using hid
            have HF := hide (show taskB x k = false by rw [unhide HT, handB, not_all hlt (by rw [unhide HX, okItB, decide_eq_false hid]; simp)]; simp)
            go_wp2
            go_ret
            exact ⟨ret_bool (unhide HF).symm, bthen B0 hHeld⟩
    ·
      have hki : ¬ (j : Int) < (x.hand.length : Int) := by omega
      obtain rfl : j = x.hand.length := by omega
      have hal := hide (all_of (unhide hall))
      have HT := hide ((unhide HT).trans (show _ = (decide (3 ≤ k) && (noSpanB x.s && (tnB x.trace x.stamp && decide ((x.pc = 3) ↔ (0 < x.hand.length))))) by rw [handB, unhide hal, Bool.true_and]))
      clear hall hal
      have P0 := Pk
      have B0 := bthen B0 hbl
      clear Pk
      by_cases c0 : 3 ≤ k
      case neg =>
        have HF := hide (show taskB x k = false by rw [unhide HT, decide_eq_false c0]; rfl)
        go_wp2_with (first | (go_at_call 90; refine (specIn _ _ _ _ (by assumption) _).mono ?_; rintro e w' ⟨rfl, hw'⟩; obtain rfl := hw'.symm))
        go_ret
        exact ⟨ret_bool (unhide HF).symm, B0⟩
      cases hns : noSpanB x.s
      ·
        have HF := hide (show taskB x k = false by rw [unhide HT, hns]; simp)
        go_wp2_with (first | (go_at_call 90; refine (specIn _ _ _ _ (by assumption) _).mono ?_; rintro e w' ⟨rfl, hw'⟩; obtain rfl := hw'.symm))
        have hc := specNoSpan x.s S0 [.int .i64 x.s.1, .int .i64 x.s.2.1, .int .i64 x.s.2.2.1, .int .i64 x.s.2.2.2.1, .bool x.s.2.2.2.2.1, .slice a x.s.2.2.2.2.2.length c] _ ⟨_, rfl, (unhide HG).keep attrR_keeps B0⟩ hsb
        rw [hns] at hc
        refine hc.mono ?_
        rintro e w1 ⟨rfl, hb⟩
        have P0 := P0.keep hb
        have B0 := bthen B0 hb
        clear hc hb
        clear p0 p1 p2 p3 p4 p5 p6 p7 p8 p9 p10 p11
        have p0 := P0.2 0 _ rfl
        have p1 := P0.2 1 _ rfl
        have p2 := P0.2 2 _ rfl
        have p3 := P0.2 3 _ rfl
        have p4 := P0.2 4 _ rfl
        have p5 := P0.2 5 _ rfl
        have p6 := P0.2 6 _ rfl
        have p7 := P0.2 7 _ rfl
        have p8 := P0.2 8 _ rfl
        have p9 := P0.2 9 _ rfl
        have p10 := P0.2 10 _ rfl
        have p11 := P0.2 11 _ rfl
        go_wp2_with (first | (go_at_call 90; refine (specIn _ _ _ _ (by assumption) _).mono ?_; rintro e w' ⟨rfl, hw'⟩; obtain rfl := hw'.symm))
        go_ret
        exact ⟨ret_bool (unhide HF).symm, B0⟩
      cases i2 : inB x.trace 1 999
      ·
        have HF := hide (show taskB x k = false by rw [unhide HT, tnB, i2]; simp)
        go_wp2_with (first | (go_at_call 90; refine (specIn _ _ _ _ (by assumption) _).mono ?_; rintro e w' ⟨rfl, hw'⟩; obtain rfl := hw'.symm))
        have hc := specNoSpan x.s S0 [.int .i64 x.s.1, .int .i64 x.s.2.1, .int .i64 x.s.2.2.1, .int .i64 x.s.2.2.2.1, .bool x.s.2.2.2.2.1, .slice a x.s.2.2.2.2.2.length c] _ ⟨_, rfl, (unhide HG).keep attrR_keeps B0⟩ hsb
        rw [hns] at hc
        refine hc.mono ?_
        rintro e w1 ⟨rfl, hb⟩
        have P0 := P0.keep hb
        have B0 := bthen B0 hb
        clear hc hb
        clear p0 p1 p2 p3 p4 p5 p6 p7 p8 p9 p10 p11
        have p0 := P0.2 0 _ rfl
        have p1 := P0.2 1 _ rfl
        have p2 := P0.2 2 _ rfl
        have p3 := P0.2 3 _ rfl
        have p4 := P0.2 4 _ rfl
        have p5 := P0.2 5 _ rfl
        have p6 := P0.2 6 _ rfl
        have p7 := P0.2 7 _ rfl
        have p8 := P0.2 8 _ rfl
        have p9 := P0.2 9 _ rfl
        have p10 := P0.2 10 _ rfl
        have p11 := P0.2 11 _ rfl
        go_wp2_with (first | (go_at_call 90; refine (specIn _ _ _ _ (by assumption) _).mono ?_; rintro e w' ⟨rfl, hw'⟩; obtain rfl := hw'.symm))
        go_ret
        exact ⟨ret_bool (unhide HF).symm, B0⟩
      by_cases s1 : 1 ≤ x.stamp
      case neg =>
        have HF := hide (show taskB x k = false by rw [unhide HT, tnB, decide_eq_false s1]; simp)
        go_wp2_with (first | (go_at_call 90; refine (specIn _ _ _ _ (by assumption) _).mono ?_; rintro e w' ⟨rfl, hw'⟩; obtain rfl := hw'.symm))
        have hc := specNoSpan x.s S0 [.int .i64 x.s.1, .int .i64 x.s.2.1, .int .i64 x.s.2.2.1, .int .i64 x.s.2.2.2.1, .bool x.s.2.2.2.2.1, .slice a x.s.2.2.2.2.2.length c] _ ⟨_, rfl, (unhide HG).keep attrR_keeps B0⟩ hsb
        rw [hns] at hc
        refine hc.mono ?_
        rintro e w1 ⟨rfl, hb⟩
        have P0 := P0.keep hb
        have B0 := bthen B0 hb
        clear hc hb
        clear p0 p1 p2 p3 p4 p5 p6 p7 p8 p9 p10 p11
        have p0 := P0.2 0 _ rfl
        have p1 := P0.2 1 _ rfl
        have p2 := P0.2 2 _ rfl
        have p3 := P0.2 3 _ rfl
        have p4 := P0.2 4 _ rfl
        have p5 := P0.2 5 _ rfl
        have p6 := P0.2 6 _ rfl
        have p7 := P0.2 7 _ rfl
        have p8 := P0.2 8 _ rfl
        have p9 := P0.2 9 _ rfl
        have p10 := P0.2 10 _ rfl
        have p11 := P0.2 11 _ rfl
        go_wp2_with (first | (go_at_call 90; refine (specIn _ _ _ _ (by assumption) _).mono ?_; rintro e w' ⟨rfl, hw'⟩; obtain rfl := hw'.symm))
        go_ret
        exact ⟨ret_bool (unhide HF).symm, B0⟩
      have HT := hide ((unhide HT).trans (show _ = decide ((x.pc = 3) ↔ (0 < x.hand.length)) by rw [decide_eq_true c0, hns, tnB, i2, decide_eq_true s1]; rfl))
      by_cases c3 : x.pc = 3
      ·
        have q0 : (x.pc == 3) = true := by simpa using c3
        have C3 := hide c3
        clear c3
        have HF := hide (show taskB x k = decide (0 < x.hand.length) by rw [unhide HT]; exact decide_eq_decide.2 ⟨fun h => h.1 (unhide C3), fun h => ⟨fun _ => h, fun _ => unhide C3⟩⟩)
        go_wp2_with (first | (go_at_call 90; refine (specIn _ _ _ _ (by assumption) _).mono ?_; rintro e w' ⟨rfl, hw'⟩; obtain rfl := hw'.symm))
        have hc := specNoSpan x.s S0 [.int .i64 x.s.1, .int .i64 x.s.2.1, .int .i64 x.s.2.2.1, .int .i64 x.s.2.2.2.1, .bool x.s.2.2.2.2.1, .slice a x.s.2.2.2.2.2.length c] _ ⟨_, rfl, (unhide HG).keep attrR_keeps B0⟩ hsb
        rw [hns] at hc
        refine hc.mono ?_
        rintro e w1 ⟨rfl, hb⟩
        have P0 := P0.keep hb
        have B0 := bthen B0 hb
        clear hc hb
        clear p0 p1 p2 p3 p4 p5 p6 p7 p8 p9 p10 p11
        have p0 := P0.2 0 _ rfl
        have p1 := P0.2 1 _ rfl
        have p2 := P0.2 2 _ rfl
        have p3 := P0.2 3 _ rfl
        have p4 := P0.2 4 _ rfl
        have p5 := P0.2 5 _ rfl
        have p6 := P0.2 6 _ rfl
        have p7 := P0.2 7 _ rfl
        have p8 := P0.2 8 _ rfl
        have p9 := P0.2 9 _ rfl
        have p10 := P0.2 10 _ rfl
        have p11 := P0.2 11 _ rfl
        go_wp2_with (first | (go_at_call 90; refine (specIn _ _ _ _ (by assumption) _).mono ?_; rintro e w' ⟨rfl, hw'⟩; obtain rfl := hw'.symm))
        go_ret
        exact ⟨ret_bool (by first | (rw [unhide HF]; done) | (rw [unhide HF]; rfl) | (rw [unhide HF, Bool.eq_iff_iff]; simp)), B0⟩
      ·
        have q0 : (x.pc == 3) = false := by simpa using c3
        have C3 := hide c3
        clear c3
        have HF := hide (show taskB x k = decide (¬ 0 < x.hand.length) by rw [unhide HT]; exact decide_eq_decide.2 ⟨fun h h2 => unhide C3 (h.2 h2), fun h => ⟨fun h2 => absurd h2 (unhide C3), fun h2 => absurd h2 h⟩⟩)
        go_wp2_with (first | (go_at_call 90; refine (specIn _ _ _ _ (by assumption) _).mono ?_; rintro e w' ⟨rfl, hw'⟩; obtain rfl := hw'.symm))
        have hc := specNoSpan x.s S0 [.int .i64 x.s.1, .int .i64 x.s.2.1, .int .i64 x.s.2.2.1, .int .i64 x.s.2.2.2.1, .bool x.s.2.2.2.2.1, .slice a x.s.2.2.2.2.2.length c] _ ⟨_, rfl, (unhide HG).keep attrR_keeps B0⟩ hsb
        rw [hns] at hc
        refine hc.mono ?_
        rintro e w1 ⟨rfl, hb⟩
        have P0 := P0.keep hb
        have B0 := bthen B0 hb
        clear hc hb
        clear p0 p1 p2 p3 p4 p5 p6 p7 p8 p9 p10 p11
        have p0 := P0.2 0 _ rfl
        have p1 := P0.2 1 _ rfl
        have p2 := P0.2 2 _ rfl
        have p3 := P0.2 3 _ rfl
        have p4 := P0.2 4 _ rfl
        have p5 := P0.2 5 _ rfl
        have p6 := P0.2 6 _ rfl
        have p7 := P0.2 7 _ rfl
        have p8 := P0.2 8 _ rfl
        have p9 := P0.2 9 _ rfl
        have p10 := P0.2 10 _ rfl
        have p11 := P0.2 11 _ rfl
        go_wp2_with (first | (go_at_call 90; refine (specIn _ _ _ _ (by assumption) _).mono ?_; rintro e w' ⟨rfl, hw'⟩; obtain rfl := hw'.symm))
        go_ret
        exact ⟨ret_bool (by first | (rw [unhide HF]; done) | (rw [unhide HF]; rfl) | (rw [unhide HF, Bool.eq_iff_iff]; simp)), B0⟩
end Go.Proofs.Ytklhljknkcmecac
