/-
  Contract of SameDeed of the specification.
-/
import Derived.Test.YtklhljknkcmecaaPlain9
namespace Go.Proofs.Ytklhljknkcmecaa
open Go.ChangeShapes Go.WideShapes Go.ChangeAt Go.RowKit
set_option linter.unusedVariables false
set_option maxRecDepth 100000

set_option maxHeartbeats 40000000 in
theorem specSameDeed (x y : DeedD) (S0 : Nat → Prop) (c0 : List Value) (S1 : Nat → Prop) (c1 : List Value) (w : World) (h0 : deedR w S0 c0 x) (b0 : deedBulk x ≤ 1048576) (h1 : deedR w S1 c1 y) (b1 : deedBulk y ≤ 1048576) :
    Calls Try.prog 52 #[.agg c0.toArray, .agg c1.toArray] w fun e w' => e = .returned (.bool (sameDB x y)) ∧ Below w.heap.size w w' := by
  obtain ⟨a7, k7, z7, g7⟩ := deedR_c7 h0
  obtain ⟨l7, m7, y7, f7⟩ := deedR_c7 h1
  have Z7 := hide z7
  have Y7 := hide y7
  have G7 := hide g7
  have F7 := hide f7
  clear z7 y7 g7 f7
  have HR := hide h0
  have HS := hide h1
  obtain ⟨d0, z0, y0⟩ := deedR_sub_s h0
  obtain ⟨d1, z1, y1⟩ := deedR_sub_s h1
  have P0 := (Held.new w c0 43).keep (bnew _ (.cells c1.toArray 43))
  have P1 := Held.new (w.alloc (.cells c0.toArray 43)) c1 43
  rw [show (w.alloc (.cells c0.toArray 43)).heap.size = w.heap.size + 1 by simp] at P1
  have B0 := bthen (bnew w (.cells c0.toArray 43)) (bnew _ (.cells c1.toArray 43))
  have r0 : RowT Try.prog 41 d0.length := by rw [spanR_len z0]; exact rowISpan
  have r1 : RowT Try.prog 41 d1.length := by rw [spanR_len z1]; exact rowISpan
  have t0 : RowT Try.prog 43 c0.length := by rw [deedR_len h0]; exact rowIDeed
  have t1 : RowT Try.prog 43 c1.length := by rw [deedR_len h1]; exact rowIDeed
  have HY0 := hide y0
  have HY1 := hide y1
  have hb0 : spanBulk x.s ≤ 1048576 := by unfold deedBulk at b0; unfold spanBulk; omega
  have hb1 : spanBulk y.s ≤ 1048576 := by unfold deedBulk at b1; unfold spanBulk; omega
  clear y0 y1 h0 h1
  by_cases e_op : x.op = y.op
  case neg =>
    have HF := hide (show sameDB x y = false by simp [sameDB, numsB, e_op])
    have n_op : (x.op == y.op) = false := by simpa using e_op
    clear e_op
    as_aux_lemma =>
      go_enter Try.func52, Try.ntmps52
      go_upto_region 1 with fail
      generalize World.alloc (World.alloc w _) _ = w0 at *
      have p_op := P0.2 0 _ (deedR_c0 (unhide HR))
      have q_op := P1.2 0 _ (deedR_c0 (unhide HS))
      go_wp2
      go_ret
      exact ⟨ret_bool (unhide HF).symm, B0⟩
  have n_op : (x.op == y.op) = true := by simpa using e_op
  have E_op := hide e_op
  clear e_op
  by_cases e_task : x.task = y.task
  case neg =>
    have HF := hide (show sameDB x y = false by simp [sameDB, numsB, e_task])
    have n_task : (x.task == y.task) = false := by simpa using e_task
    clear e_task
    as_aux_lemma =>
      go_enter Try.func52, Try.ntmps52
      go_upto_region 1 with fail
      generalize World.alloc (World.alloc w _) _ = w0 at *
      have p_op := P0.2 0 _ (deedR_c0 (unhide HR))
      have q_op := P1.2 0 _ (deedR_c0 (unhide HS))
      have p_task := P0.2 1 _ (deedR_c1 (unhide HR))
      have q_task := P1.2 1 _ (deedR_c1 (unhide HS))
      go_wp2
      go_ret
      exact ⟨ret_bool (unhide HF).symm, B0⟩
  have n_task : (x.task == y.task) = true := by simpa using e_task
  have E_task := hide e_task
  clear e_task
  cases hss : sameSB x.s y.s
  ·
    have HF := hide (show sameDB x y = false by rw [sameDB, hss]; simp)
    as_aux_lemma =>
      go_enter Try.func52, Try.ntmps52
      go_upto_region 1 with fail
      generalize World.alloc (World.alloc w _) _ = w0 at *
      have p_op := P0.2 0 _ (deedR_c0 (unhide HR))
      have q_op := P1.2 0 _ (deedR_c0 (unhide HS))
      have p_task := P0.2 1 _ (deedR_c1 (unhide HR))
      have q_task := P1.2 1 _ (deedR_c1 (unhide HS))
      have i2 := P0.2 2 _ (deedR_c2 (unhide HR))
      have j2 := P1.2 2 _ (deedR_c2 (unhide HS))
      have i3 := P0.2 3 _ (deedR_c3 (unhide HR))
      have j3 := P1.2 3 _ (deedR_c3 (unhide HS))
      have i4 := P0.2 4 _ (deedR_c4 (unhide HR))
      have j4 := P1.2 4 _ (deedR_c4 (unhide HS))
      have i5 := P0.2 5 _ (deedR_c5 (unhide HR))
      have j5 := P1.2 5 _ (deedR_c5 (unhide HS))
      have i6 := P0.2 6 _ (deedR_c6 (unhide HR))
      have j6 := P1.2 6 _ (deedR_c6 (unhide HS))
      have i7 := P0.2 7 _ (unhide Z7)
      have j7 := P1.2 7 _ (unhide Y7)
      go_wp2_with fail
      have hc := specSameSpanN x.s y.s _ [.int .i64 x.s.1, .int .i64 x.s.2.1, .int .i64 x.s.2.2.1, .int .i64 x.s.2.2.2.1, .bool x.s.2.2.2.2.1, .slice a7 x.s.2.2.2.2.2.length k7] _ [.int .i64 y.s.1, .int .i64 y.s.2.1, .int .i64 y.s.2.2.1, .int .i64 y.s.2.2.2.1, .bool y.s.2.2.2.2.1, .slice l7 y.s.2.2.2.2.2.length m7] _ ⟨_, rfl, (unhide G7).keep attrR_keeps B0⟩ hb0 ⟨_, rfl, (unhide F7).keep attrR_keeps B0⟩ hb1
      rw [hss] at hc
      refine hc.mono ?_
      rintro e w1 ⟨rfl, hbz⟩
      have P0 := P0.keep hbz
      have P1 := P1.keep hbz
      have B0 := bthen B0 hbz
      clear hc hbz i2 j2 i3 j3 i4 j4 i5 j5 i6 j6 i7 j7 p_op q_op p_task q_task
      go_wp2
      go_ret
      exact ⟨ret_bool (unhide HF).symm, B0⟩
  by_cases e_trace : x.trace = y.trace
  case neg =>
    have HF := hide (show sameDB x y = false by simp [sameDB, numsB, e_trace])
    have n_trace : (x.trace == y.trace) = false := by simpa using e_trace
    clear e_trace
    as_aux_lemma =>
      go_enter Try.func52, Try.ntmps52
      go_upto_region 1 with fail
      generalize World.alloc (World.alloc w _) _ = w0 at *
      have p_op := P0.2 0 _ (deedR_c0 (unhide HR))
      have q_op := P1.2 0 _ (deedR_c0 (unhide HS))
      have p_task := P0.2 1 _ (deedR_c1 (unhide HR))
      have q_task := P1.2 1 _ (deedR_c1 (unhide HS))
      have i2 := P0.2 2 _ (deedR_c2 (unhide HR))
      have j2 := P1.2 2 _ (deedR_c2 (unhide HS))
      have i3 := P0.2 3 _ (deedR_c3 (unhide HR))
      have j3 := P1.2 3 _ (deedR_c3 (unhide HS))
      have i4 := P0.2 4 _ (deedR_c4 (unhide HR))
      have j4 := P1.2 4 _ (deedR_c4 (unhide HS))
      have i5 := P0.2 5 _ (deedR_c5 (unhide HR))
      have j5 := P1.2 5 _ (deedR_c5 (unhide HS))
      have i6 := P0.2 6 _ (deedR_c6 (unhide HR))
      have j6 := P1.2 6 _ (deedR_c6 (unhide HS))
      have i7 := P0.2 7 _ (unhide Z7)
      have j7 := P1.2 7 _ (unhide Y7)
      go_wp2_with fail
      have hc := specSameSpanN x.s y.s _ [.int .i64 x.s.1, .int .i64 x.s.2.1, .int .i64 x.s.2.2.1, .int .i64 x.s.2.2.2.1, .bool x.s.2.2.2.2.1, .slice a7 x.s.2.2.2.2.2.length k7] _ [.int .i64 y.s.1, .int .i64 y.s.2.1, .int .i64 y.s.2.2.1, .int .i64 y.s.2.2.2.1, .bool y.s.2.2.2.2.1, .slice l7 y.s.2.2.2.2.2.length m7] _ ⟨_, rfl, (unhide G7).keep attrR_keeps B0⟩ hb0 ⟨_, rfl, (unhide F7).keep attrR_keeps B0⟩ hb1
      rw [hss] at hc
      refine hc.mono ?_
      rintro e w1 ⟨rfl, hbz⟩
      have P0 := P0.keep hbz
      have P1 := P1.keep hbz
      have B0 := bthen B0 hbz
      clear hc hbz i2 j2 i3 j3 i4 j4 i5 j5 i6 j6 i7 j7 p_op q_op p_task q_task
      have p_trace := P0.2 8 _ (deedR_c8 (unhide HR))
      have q_trace := P1.2 8 _ (deedR_c8 (unhide HS))
      go_wp2
      go_ret
      exact ⟨ret_bool (unhide HF).symm, B0⟩
  have n_trace : (x.trace == y.trace) = true := by simpa using e_trace
  have E_trace := hide e_trace
  clear e_trace
  by_cases e_stamp : x.stamp = y.stamp
  case neg =>
    have HF := hide (show sameDB x y = false by simp [sameDB, numsB, e_stamp])
    have n_stamp : (x.stamp == y.stamp) = false := by simpa using e_stamp
    clear e_stamp
    as_aux_lemma =>
      go_enter Try.func52, Try.ntmps52
      go_upto_region 1 with fail
      generalize World.alloc (World.alloc w _) _ = w0 at *
      have p_op := P0.2 0 _ (deedR_c0 (unhide HR))
      have q_op := P1.2 0 _ (deedR_c0 (unhide HS))
      have p_task := P0.2 1 _ (deedR_c1 (unhide HR))
      have q_task := P1.2 1 _ (deedR_c1 (unhide HS))
      have i2 := P0.2 2 _ (deedR_c2 (unhide HR))
      have j2 := P1.2 2 _ (deedR_c2 (unhide HS))
      have i3 := P0.2 3 _ (deedR_c3 (unhide HR))
      have j3 := P1.2 3 _ (deedR_c3 (unhide HS))
      have i4 := P0.2 4 _ (deedR_c4 (unhide HR))
      have j4 := P1.2 4 _ (deedR_c4 (unhide HS))
      have i5 := P0.2 5 _ (deedR_c5 (unhide HR))
      have j5 := P1.2 5 _ (deedR_c5 (unhide HS))
      have i6 := P0.2 6 _ (deedR_c6 (unhide HR))
      have j6 := P1.2 6 _ (deedR_c6 (unhide HS))
      have i7 := P0.2 7 _ (unhide Z7)
      have j7 := P1.2 7 _ (unhide Y7)
      go_wp2_with fail
      have hc := specSameSpanN x.s y.s _ [.int .i64 x.s.1, .int .i64 x.s.2.1, .int .i64 x.s.2.2.1, .int .i64 x.s.2.2.2.1, .bool x.s.2.2.2.2.1, .slice a7 x.s.2.2.2.2.2.length k7] _ [.int .i64 y.s.1, .int .i64 y.s.2.1, .int .i64 y.s.2.2.1, .int .i64 y.s.2.2.2.1, .bool y.s.2.2.2.2.1, .slice l7 y.s.2.2.2.2.2.length m7] _ ⟨_, rfl, (unhide G7).keep attrR_keeps B0⟩ hb0 ⟨_, rfl, (unhide F7).keep attrR_keeps B0⟩ hb1
      rw [hss] at hc
      refine hc.mono ?_
      rintro e w1 ⟨rfl, hbz⟩
      have P0 := P0.keep hbz
      have P1 := P1.keep hbz
      have B0 := bthen B0 hbz
      clear hc hbz i2 j2 i3 j3 i4 j4 i5 j5 i6 j6 i7 j7 p_op q_op p_task q_task
      have p_trace := P0.2 8 _ (deedR_c8 (unhide HR))
      have q_trace := P1.2 8 _ (deedR_c8 (unhide HS))
      have p_stamp := P0.2 9 _ (deedR_c9 (unhide HR))
      have q_stamp := P1.2 9 _ (deedR_c9 (unhide HS))
      go_wp2
      go_ret
      exact ⟨ret_bool (unhide HF).symm, B0⟩
  have n_stamp : (x.stamp == y.stamp) = true := by simpa using e_stamp
  have E_stamp := hide e_stamp
  clear e_stamp
  by_cases e_code : x.code = y.code
  case neg =>
    have HF := hide (show sameDB x y = false by simp [sameDB, numsB, e_code])
    have n_code : (x.code == y.code) = false := by simpa using e_code
    clear e_code
    as_aux_lemma =>
      go_enter Try.func52, Try.ntmps52
      go_upto_region 1 with fail
      generalize World.alloc (World.alloc w _) _ = w0 at *
      have p_op := P0.2 0 _ (deedR_c0 (unhide HR))
      have q_op := P1.2 0 _ (deedR_c0 (unhide HS))
      have p_task := P0.2 1 _ (deedR_c1 (unhide HR))
      have q_task := P1.2 1 _ (deedR_c1 (unhide HS))
      have i2 := P0.2 2 _ (deedR_c2 (unhide HR))
      have j2 := P1.2 2 _ (deedR_c2 (unhide HS))
      have i3 := P0.2 3 _ (deedR_c3 (unhide HR))
      have j3 := P1.2 3 _ (deedR_c3 (unhide HS))
      have i4 := P0.2 4 _ (deedR_c4 (unhide HR))
      have j4 := P1.2 4 _ (deedR_c4 (unhide HS))
      have i5 := P0.2 5 _ (deedR_c5 (unhide HR))
      have j5 := P1.2 5 _ (deedR_c5 (unhide HS))
      have i6 := P0.2 6 _ (deedR_c6 (unhide HR))
      have j6 := P1.2 6 _ (deedR_c6 (unhide HS))
      have i7 := P0.2 7 _ (unhide Z7)
      have j7 := P1.2 7 _ (unhide Y7)
      go_wp2_with fail
      have hc := specSameSpanN x.s y.s _ [.int .i64 x.s.1, .int .i64 x.s.2.1, .int .i64 x.s.2.2.1, .int .i64 x.s.2.2.2.1, .bool x.s.2.2.2.2.1, .slice a7 x.s.2.2.2.2.2.length k7] _ [.int .i64 y.s.1, .int .i64 y.s.2.1, .int .i64 y.s.2.2.1, .int .i64 y.s.2.2.2.1, .bool y.s.2.2.2.2.1, .slice l7 y.s.2.2.2.2.2.length m7] _ ⟨_, rfl, (unhide G7).keep attrR_keeps B0⟩ hb0 ⟨_, rfl, (unhide F7).keep attrR_keeps B0⟩ hb1
      rw [hss] at hc
      refine hc.mono ?_
      rintro e w1 ⟨rfl, hbz⟩
      have P0 := P0.keep hbz
      have P1 := P1.keep hbz
      have B0 := bthen B0 hbz
      clear hc hbz i2 j2 i3 j3 i4 j4 i5 j5 i6 j6 i7 j7 p_op q_op p_task q_task
      have p_trace := P0.2 8 _ (deedR_c8 (unhide HR))
      have q_trace := P1.2 8 _ (deedR_c8 (unhide HS))
      have p_stamp := P0.2 9 _ (deedR_c9 (unhide HR))
      have q_stamp := P1.2 9 _ (deedR_c9 (unhide HS))
      have p_code := P0.2 10 _ (deedR_c10 (unhide HR))
      have q_code := P1.2 10 _ (deedR_c10 (unhide HS))
      go_wp2
      go_ret
      exact ⟨ret_bool (unhide HF).symm, B0⟩
  have n_code : (x.code == y.code) = true := by simpa using e_code
  have E_code := hide e_code
  clear e_code
  by_cases e_keep : x.keep = y.keep
  case neg =>
    have HF := hide (show sameDB x y = false by simp [sameDB, numsB, e_keep])
    have n_keep : (x.keep == y.keep) = false := by simpa using e_keep
    clear e_keep
    as_aux_lemma =>
      go_enter Try.func52, Try.ntmps52
      go_upto_region 1 with fail
      generalize World.alloc (World.alloc w _) _ = w0 at *
      have p_op := P0.2 0 _ (deedR_c0 (unhide HR))
      have q_op := P1.2 0 _ (deedR_c0 (unhide HS))
      have p_task := P0.2 1 _ (deedR_c1 (unhide HR))
      have q_task := P1.2 1 _ (deedR_c1 (unhide HS))
      have i2 := P0.2 2 _ (deedR_c2 (unhide HR))
      have j2 := P1.2 2 _ (deedR_c2 (unhide HS))
      have i3 := P0.2 3 _ (deedR_c3 (unhide HR))
      have j3 := P1.2 3 _ (deedR_c3 (unhide HS))
      have i4 := P0.2 4 _ (deedR_c4 (unhide HR))
      have j4 := P1.2 4 _ (deedR_c4 (unhide HS))
      have i5 := P0.2 5 _ (deedR_c5 (unhide HR))
      have j5 := P1.2 5 _ (deedR_c5 (unhide HS))
      have i6 := P0.2 6 _ (deedR_c6 (unhide HR))
      have j6 := P1.2 6 _ (deedR_c6 (unhide HS))
      have i7 := P0.2 7 _ (unhide Z7)
      have j7 := P1.2 7 _ (unhide Y7)
      go_wp2_with fail
      have hc := specSameSpanN x.s y.s _ [.int .i64 x.s.1, .int .i64 x.s.2.1, .int .i64 x.s.2.2.1, .int .i64 x.s.2.2.2.1, .bool x.s.2.2.2.2.1, .slice a7 x.s.2.2.2.2.2.length k7] _ [.int .i64 y.s.1, .int .i64 y.s.2.1, .int .i64 y.s.2.2.1, .int .i64 y.s.2.2.2.1, .bool y.s.2.2.2.2.1, .slice l7 y.s.2.2.2.2.2.length m7] _ ⟨_, rfl, (unhide G7).keep attrR_keeps B0⟩ hb0 ⟨_, rfl, (unhide F7).keep attrR_keeps B0⟩ hb1
      rw [hss] at hc
      refine hc.mono ?_
      rintro e w1 ⟨rfl, hbz⟩
      have P0 := P0.keep hbz
      have P1 := P1.keep hbz
      have B0 := bthen B0 hbz
      clear hc hbz i2 j2 i3 j3 i4 j4 i5 j5 i6 j6 i7 j7 p_op q_op p_task q_task
      have p_trace := P0.2 8 _ (deedR_c8 (unhide HR))
      have q_trace := P1.2 8 _ (deedR_c8 (unhide HS))
      have p_stamp := P0.2 9 _ (deedR_c9 (unhide HR))
      have q_stamp := P1.2 9 _ (deedR_c9 (unhide HS))
      have p_code := P0.2 10 _ (deedR_c10 (unhide HR))
      have q_code := P1.2 10 _ (deedR_c10 (unhide HS))
      have p_keep := P0.2 11 _ (deedR_c11 (unhide HR))
      have q_keep := P1.2 11 _ (deedR_c11 (unhide HS))
      go_wp2
      go_ret
      exact ⟨ret_bool (unhide HF).symm, B0⟩
  have n_keep : (x.keep == y.keep) = true := by simpa using e_keep
  have E_keep := hide e_keep
  clear e_keep
  by_cases e_void : x.void = y.void
  case neg =>
    have HF := hide (show sameDB x y = false by simp [sameDB, numsB, e_void])
    have n_void : (x.void == y.void) = false := by simpa using e_void
    clear e_void
    as_aux_lemma =>
      go_enter Try.func52, Try.ntmps52
      go_upto_region 1 with fail
      generalize World.alloc (World.alloc w _) _ = w0 at *
      have p_op := P0.2 0 _ (deedR_c0 (unhide HR))
      have q_op := P1.2 0 _ (deedR_c0 (unhide HS))
      have p_task := P0.2 1 _ (deedR_c1 (unhide HR))
      have q_task := P1.2 1 _ (deedR_c1 (unhide HS))
      have i2 := P0.2 2 _ (deedR_c2 (unhide HR))
      have j2 := P1.2 2 _ (deedR_c2 (unhide HS))
      have i3 := P0.2 3 _ (deedR_c3 (unhide HR))
      have j3 := P1.2 3 _ (deedR_c3 (unhide HS))
      have i4 := P0.2 4 _ (deedR_c4 (unhide HR))
      have j4 := P1.2 4 _ (deedR_c4 (unhide HS))
      have i5 := P0.2 5 _ (deedR_c5 (unhide HR))
      have j5 := P1.2 5 _ (deedR_c5 (unhide HS))
      have i6 := P0.2 6 _ (deedR_c6 (unhide HR))
      have j6 := P1.2 6 _ (deedR_c6 (unhide HS))
      have i7 := P0.2 7 _ (unhide Z7)
      have j7 := P1.2 7 _ (unhide Y7)
      go_wp2_with fail
      have hc := specSameSpanN x.s y.s _ [.int .i64 x.s.1, .int .i64 x.s.2.1, .int .i64 x.s.2.2.1, .int .i64 x.s.2.2.2.1, .bool x.s.2.2.2.2.1, .slice a7 x.s.2.2.2.2.2.length k7] _ [.int .i64 y.s.1, .int .i64 y.s.2.1, .int .i64 y.s.2.2.1, .int .i64 y.s.2.2.2.1, .bool y.s.2.2.2.2.1, .slice l7 y.s.2.2.2.2.2.length m7] _ ⟨_, rfl, (unhide G7).keep attrR_keeps B0⟩ hb0 ⟨_, rfl, (unhide F7).keep attrR_keeps B0⟩ hb1
      rw [hss] at hc
      refine hc.mono ?_
      rintro e w1 ⟨rfl, hbz⟩
      have P0 := P0.keep hbz
      have P1 := P1.keep hbz
      have B0 := bthen B0 hbz
      clear hc hbz i2 j2 i3 j3 i4 j4 i5 j5 i6 j6 i7 j7 p_op q_op p_task q_task
      have p_trace := P0.2 8 _ (deedR_c8 (unhide HR))
      have q_trace := P1.2 8 _ (deedR_c8 (unhide HS))
      have p_stamp := P0.2 9 _ (deedR_c9 (unhide HR))
      have q_stamp := P1.2 9 _ (deedR_c9 (unhide HS))
      have p_code := P0.2 10 _ (deedR_c10 (unhide HR))
      have q_code := P1.2 10 _ (deedR_c10 (unhide HS))
      have p_keep := P0.2 11 _ (deedR_c11 (unhide HR))
      have q_keep := P1.2 11 _ (deedR_c11 (unhide HS))
      have p_void := P0.2 12 _ (deedR_c12 (unhide HR))
      have q_void := P1.2 12 _ (deedR_c12 (unhide HS))
      go_wp2
      go_ret
      exact ⟨ret_bool (unhide HF).symm, B0⟩
  have n_void : (x.void == y.void) = true := by simpa using e_void
  have E_void := hide e_void
  clear e_void
  by_cases e_took : x.took = y.took
  case neg =>
    have HF := hide (show sameDB x y = false by simp [sameDB, numsB, e_took])
    have n_took : (x.took == y.took) = false := by simpa using e_took
    clear e_took
    as_aux_lemma =>
      go_enter Try.func52, Try.ntmps52
      go_upto_region 1 with fail
      generalize World.alloc (World.alloc w _) _ = w0 at *
      have p_op := P0.2 0 _ (deedR_c0 (unhide HR))
      have q_op := P1.2 0 _ (deedR_c0 (unhide HS))
      have p_task := P0.2 1 _ (deedR_c1 (unhide HR))
      have q_task := P1.2 1 _ (deedR_c1 (unhide HS))
      have i2 := P0.2 2 _ (deedR_c2 (unhide HR))
      have j2 := P1.2 2 _ (deedR_c2 (unhide HS))
      have i3 := P0.2 3 _ (deedR_c3 (unhide HR))
      have j3 := P1.2 3 _ (deedR_c3 (unhide HS))
      have i4 := P0.2 4 _ (deedR_c4 (unhide HR))
      have j4 := P1.2 4 _ (deedR_c4 (unhide HS))
      have i5 := P0.2 5 _ (deedR_c5 (unhide HR))
      have j5 := P1.2 5 _ (deedR_c5 (unhide HS))
      have i6 := P0.2 6 _ (deedR_c6 (unhide HR))
      have j6 := P1.2 6 _ (deedR_c6 (unhide HS))
      have i7 := P0.2 7 _ (unhide Z7)
      have j7 := P1.2 7 _ (unhide Y7)
      go_wp2_with fail
      have hc := specSameSpanN x.s y.s _ [.int .i64 x.s.1, .int .i64 x.s.2.1, .int .i64 x.s.2.2.1, .int .i64 x.s.2.2.2.1, .bool x.s.2.2.2.2.1, .slice a7 x.s.2.2.2.2.2.length k7] _ [.int .i64 y.s.1, .int .i64 y.s.2.1, .int .i64 y.s.2.2.1, .int .i64 y.s.2.2.2.1, .bool y.s.2.2.2.2.1, .slice l7 y.s.2.2.2.2.2.length m7] _ ⟨_, rfl, (unhide G7).keep attrR_keeps B0⟩ hb0 ⟨_, rfl, (unhide F7).keep attrR_keeps B0⟩ hb1
      rw [hss] at hc
      refine hc.mono ?_
      rintro e w1 ⟨rfl, hbz⟩
      have P0 := P0.keep hbz
      have P1 := P1.keep hbz
      have B0 := bthen B0 hbz
      clear hc hbz i2 j2 i3 j3 i4 j4 i5 j5 i6 j6 i7 j7 p_op q_op p_task q_task
      have p_trace := P0.2 8 _ (deedR_c8 (unhide HR))
      have q_trace := P1.2 8 _ (deedR_c8 (unhide HS))
      have p_stamp := P0.2 9 _ (deedR_c9 (unhide HR))
      have q_stamp := P1.2 9 _ (deedR_c9 (unhide HS))
      have p_code := P0.2 10 _ (deedR_c10 (unhide HR))
      have q_code := P1.2 10 _ (deedR_c10 (unhide HS))
      have p_keep := P0.2 11 _ (deedR_c11 (unhide HR))
      have q_keep := P1.2 11 _ (deedR_c11 (unhide HS))
      have p_void := P0.2 12 _ (deedR_c12 (unhide HR))
      have q_void := P1.2 12 _ (deedR_c12 (unhide HS))
      have p_took := P0.2 13 _ (deedR_c13 (unhide HR))
      have q_took := P1.2 13 _ (deedR_c13 (unhide HS))
      go_wp2
      go_ret
      exact ⟨ret_bool (unhide HF).symm, B0⟩
  have n_took : (x.took == y.took) = true := by simpa using e_took
  have E_took := hide e_took
  clear e_took
  by_cases e_n : x.n = y.n
  case neg =>
    have HF := hide (show sameDB x y = false by simp [sameDB, numsB, e_n])
    have n_n : (x.n == y.n) = false := by simpa using e_n
    clear e_n
    as_aux_lemma =>
      go_enter Try.func52, Try.ntmps52
      go_upto_region 1 with fail
      generalize World.alloc (World.alloc w _) _ = w0 at *
      have p_op := P0.2 0 _ (deedR_c0 (unhide HR))
      have q_op := P1.2 0 _ (deedR_c0 (unhide HS))
      have p_task := P0.2 1 _ (deedR_c1 (unhide HR))
      have q_task := P1.2 1 _ (deedR_c1 (unhide HS))
      have i2 := P0.2 2 _ (deedR_c2 (unhide HR))
      have j2 := P1.2 2 _ (deedR_c2 (unhide HS))
      have i3 := P0.2 3 _ (deedR_c3 (unhide HR))
      have j3 := P1.2 3 _ (deedR_c3 (unhide HS))
      have i4 := P0.2 4 _ (deedR_c4 (unhide HR))
      have j4 := P1.2 4 _ (deedR_c4 (unhide HS))
      have i5 := P0.2 5 _ (deedR_c5 (unhide HR))
      have j5 := P1.2 5 _ (deedR_c5 (unhide HS))
      have i6 := P0.2 6 _ (deedR_c6 (unhide HR))
      have j6 := P1.2 6 _ (deedR_c6 (unhide HS))
      have i7 := P0.2 7 _ (unhide Z7)
      have j7 := P1.2 7 _ (unhide Y7)
      go_wp2_with fail
      have hc := specSameSpanN x.s y.s _ [.int .i64 x.s.1, .int .i64 x.s.2.1, .int .i64 x.s.2.2.1, .int .i64 x.s.2.2.2.1, .bool x.s.2.2.2.2.1, .slice a7 x.s.2.2.2.2.2.length k7] _ [.int .i64 y.s.1, .int .i64 y.s.2.1, .int .i64 y.s.2.2.1, .int .i64 y.s.2.2.2.1, .bool y.s.2.2.2.2.1, .slice l7 y.s.2.2.2.2.2.length m7] _ ⟨_, rfl, (unhide G7).keep attrR_keeps B0⟩ hb0 ⟨_, rfl, (unhide F7).keep attrR_keeps B0⟩ hb1
      rw [hss] at hc
      refine hc.mono ?_
      rintro e w1 ⟨rfl, hbz⟩
      have P0 := P0.keep hbz
      have P1 := P1.keep hbz
      have B0 := bthen B0 hbz
      clear hc hbz i2 j2 i3 j3 i4 j4 i5 j5 i6 j6 i7 j7 p_op q_op p_task q_task
      have p_trace := P0.2 8 _ (deedR_c8 (unhide HR))
      have q_trace := P1.2 8 _ (deedR_c8 (unhide HS))
      have p_stamp := P0.2 9 _ (deedR_c9 (unhide HR))
      have q_stamp := P1.2 9 _ (deedR_c9 (unhide HS))
      have p_code := P0.2 10 _ (deedR_c10 (unhide HR))
      have q_code := P1.2 10 _ (deedR_c10 (unhide HS))
      have p_keep := P0.2 11 _ (deedR_c11 (unhide HR))
      have q_keep := P1.2 11 _ (deedR_c11 (unhide HS))
      have p_void := P0.2 12 _ (deedR_c12 (unhide HR))
      have q_void := P1.2 12 _ (deedR_c12 (unhide HS))
      have p_took := P0.2 13 _ (deedR_c13 (unhide HR))
      have q_took := P1.2 13 _ (deedR_c13 (unhide HS))
      have p_n := P0.2 14 _ (deedR_c14 (unhide HR))
      have q_n := P1.2 14 _ (deedR_c14 (unhide HS))
      go_wp2
      go_ret
      exact ⟨ret_bool (unhide HF).symm, B0⟩
  have n_n : (x.n == y.n) = true := by simpa using e_n
  have E_n := hide e_n
  clear e_n
  by_cases e_forgot : x.forgot = y.forgot
  case neg =>
    have HF := hide (show sameDB x y = false by simp [sameDB, numsB, e_forgot])
    have n_forgot : (x.forgot == y.forgot) = false := by simpa using e_forgot
    clear e_forgot
    as_aux_lemma =>
      go_enter Try.func52, Try.ntmps52
      go_upto_region 1 with fail
      generalize World.alloc (World.alloc w _) _ = w0 at *
      have p_op := P0.2 0 _ (deedR_c0 (unhide HR))
      have q_op := P1.2 0 _ (deedR_c0 (unhide HS))
      have p_task := P0.2 1 _ (deedR_c1 (unhide HR))
      have q_task := P1.2 1 _ (deedR_c1 (unhide HS))
      have i2 := P0.2 2 _ (deedR_c2 (unhide HR))
      have j2 := P1.2 2 _ (deedR_c2 (unhide HS))
      have i3 := P0.2 3 _ (deedR_c3 (unhide HR))
      have j3 := P1.2 3 _ (deedR_c3 (unhide HS))
      have i4 := P0.2 4 _ (deedR_c4 (unhide HR))
      have j4 := P1.2 4 _ (deedR_c4 (unhide HS))
      have i5 := P0.2 5 _ (deedR_c5 (unhide HR))
      have j5 := P1.2 5 _ (deedR_c5 (unhide HS))
      have i6 := P0.2 6 _ (deedR_c6 (unhide HR))
      have j6 := P1.2 6 _ (deedR_c6 (unhide HS))
      have i7 := P0.2 7 _ (unhide Z7)
      have j7 := P1.2 7 _ (unhide Y7)
      go_wp2_with fail
      have hc := specSameSpanN x.s y.s _ [.int .i64 x.s.1, .int .i64 x.s.2.1, .int .i64 x.s.2.2.1, .int .i64 x.s.2.2.2.1, .bool x.s.2.2.2.2.1, .slice a7 x.s.2.2.2.2.2.length k7] _ [.int .i64 y.s.1, .int .i64 y.s.2.1, .int .i64 y.s.2.2.1, .int .i64 y.s.2.2.2.1, .bool y.s.2.2.2.2.1, .slice l7 y.s.2.2.2.2.2.length m7] _ ⟨_, rfl, (unhide G7).keep attrR_keeps B0⟩ hb0 ⟨_, rfl, (unhide F7).keep attrR_keeps B0⟩ hb1
      rw [hss] at hc
      refine hc.mono ?_
      rintro e w1 ⟨rfl, hbz⟩
      have P0 := P0.keep hbz
      have P1 := P1.keep hbz
      have B0 := bthen B0 hbz
      clear hc hbz i2 j2 i3 j3 i4 j4 i5 j5 i6 j6 i7 j7 p_op q_op p_task q_task
      have p_trace := P0.2 8 _ (deedR_c8 (unhide HR))
      have q_trace := P1.2 8 _ (deedR_c8 (unhide HS))
      have p_stamp := P0.2 9 _ (deedR_c9 (unhide HR))
      have q_stamp := P1.2 9 _ (deedR_c9 (unhide HS))
      have p_code := P0.2 10 _ (deedR_c10 (unhide HR))
      have q_code := P1.2 10 _ (deedR_c10 (unhide HS))
      have p_keep := P0.2 11 _ (deedR_c11 (unhide HR))
      have q_keep := P1.2 11 _ (deedR_c11 (unhide HS))
      have p_void := P0.2 12 _ (deedR_c12 (unhide HR))
      have q_void := P1.2 12 _ (deedR_c12 (unhide HS))
      have p_took := P0.2 13 _ (deedR_c13 (unhide HR))
      have q_took := P1.2 13 _ (deedR_c13 (unhide HS))
      have p_n := P0.2 14 _ (deedR_c14 (unhide HR))
      have q_n := P1.2 14 _ (deedR_c14 (unhide HS))
      have p_forgot := P0.2 15 _ (deedR_c15 (unhide HR))
      have q_forgot := P1.2 15 _ (deedR_c15 (unhide HS))
      go_wp2
      go_ret
      exact ⟨ret_bool (unhide HF).symm, B0⟩
  have n_forgot : (x.forgot == y.forgot) = true := by simpa using e_forgot
  have E_forgot := hide e_forgot
  clear e_forgot
  by_cases e_now : x.now = y.now
  case neg =>
    have HF := hide (show sameDB x y = false by simp [sameDB, numsB, e_now])
    have n_now : (x.now == y.now) = false := by simpa using e_now
    clear e_now
    as_aux_lemma =>
      go_enter Try.func52, Try.ntmps52
      go_upto_region 1 with fail
      generalize World.alloc (World.alloc w _) _ = w0 at *
      have p_op := P0.2 0 _ (deedR_c0 (unhide HR))
      have q_op := P1.2 0 _ (deedR_c0 (unhide HS))
      have p_task := P0.2 1 _ (deedR_c1 (unhide HR))
      have q_task := P1.2 1 _ (deedR_c1 (unhide HS))
      have i2 := P0.2 2 _ (deedR_c2 (unhide HR))
      have j2 := P1.2 2 _ (deedR_c2 (unhide HS))
      have i3 := P0.2 3 _ (deedR_c3 (unhide HR))
      have j3 := P1.2 3 _ (deedR_c3 (unhide HS))
      have i4 := P0.2 4 _ (deedR_c4 (unhide HR))
      have j4 := P1.2 4 _ (deedR_c4 (unhide HS))
      have i5 := P0.2 5 _ (deedR_c5 (unhide HR))
      have j5 := P1.2 5 _ (deedR_c5 (unhide HS))
      have i6 := P0.2 6 _ (deedR_c6 (unhide HR))
      have j6 := P1.2 6 _ (deedR_c6 (unhide HS))
      have i7 := P0.2 7 _ (unhide Z7)
      have j7 := P1.2 7 _ (unhide Y7)
      go_wp2_with fail
      have hc := specSameSpanN x.s y.s _ [.int .i64 x.s.1, .int .i64 x.s.2.1, .int .i64 x.s.2.2.1, .int .i64 x.s.2.2.2.1, .bool x.s.2.2.2.2.1, .slice a7 x.s.2.2.2.2.2.length k7] _ [.int .i64 y.s.1, .int .i64 y.s.2.1, .int .i64 y.s.2.2.1, .int .i64 y.s.2.2.2.1, .bool y.s.2.2.2.2.1, .slice l7 y.s.2.2.2.2.2.length m7] _ ⟨_, rfl, (unhide G7).keep attrR_keeps B0⟩ hb0 ⟨_, rfl, (unhide F7).keep attrR_keeps B0⟩ hb1
      rw [hss] at hc
      refine hc.mono ?_
      rintro e w1 ⟨rfl, hbz⟩
      have P0 := P0.keep hbz
      have P1 := P1.keep hbz
      have B0 := bthen B0 hbz
      clear hc hbz i2 j2 i3 j3 i4 j4 i5 j5 i6 j6 i7 j7 p_op q_op p_task q_task
      have p_trace := P0.2 8 _ (deedR_c8 (unhide HR))
      have q_trace := P1.2 8 _ (deedR_c8 (unhide HS))
      have p_stamp := P0.2 9 _ (deedR_c9 (unhide HR))
      have q_stamp := P1.2 9 _ (deedR_c9 (unhide HS))
      have p_code := P0.2 10 _ (deedR_c10 (unhide HR))
      have q_code := P1.2 10 _ (deedR_c10 (unhide HS))
      have p_keep := P0.2 11 _ (deedR_c11 (unhide HR))
      have q_keep := P1.2 11 _ (deedR_c11 (unhide HS))
      have p_void := P0.2 12 _ (deedR_c12 (unhide HR))
      have q_void := P1.2 12 _ (deedR_c12 (unhide HS))
      have p_took := P0.2 13 _ (deedR_c13 (unhide HR))
      have q_took := P1.2 13 _ (deedR_c13 (unhide HS))
      have p_n := P0.2 14 _ (deedR_c14 (unhide HR))
      have q_n := P1.2 14 _ (deedR_c14 (unhide HS))
      have p_forgot := P0.2 15 _ (deedR_c15 (unhide HR))
      have q_forgot := P1.2 15 _ (deedR_c15 (unhide HS))
      have p_now := P0.2 16 _ (deedR_c16 (unhide HR))
      have q_now := P1.2 16 _ (deedR_c16 (unhide HS))
      go_wp2
      go_ret
      exact ⟨ret_bool (unhide HF).symm, B0⟩
  have n_now : (x.now == y.now) = true := by simpa using e_now
  have E_now := hide e_now
  clear e_now
  by_cases e_inv : x.inv = y.inv
  case neg =>
    have HF := hide (show sameDB x y = false by simp [sameDB, numsB, e_inv])
    have n_inv : (x.inv == y.inv) = false := by simpa using e_inv
    clear e_inv
    as_aux_lemma =>
      go_enter Try.func52, Try.ntmps52
      go_upto_region 1 with fail
      generalize World.alloc (World.alloc w _) _ = w0 at *
      have p_op := P0.2 0 _ (deedR_c0 (unhide HR))
      have q_op := P1.2 0 _ (deedR_c0 (unhide HS))
      have p_task := P0.2 1 _ (deedR_c1 (unhide HR))
      have q_task := P1.2 1 _ (deedR_c1 (unhide HS))
      have i2 := P0.2 2 _ (deedR_c2 (unhide HR))
      have j2 := P1.2 2 _ (deedR_c2 (unhide HS))
      have i3 := P0.2 3 _ (deedR_c3 (unhide HR))
      have j3 := P1.2 3 _ (deedR_c3 (unhide HS))
      have i4 := P0.2 4 _ (deedR_c4 (unhide HR))
      have j4 := P1.2 4 _ (deedR_c4 (unhide HS))
      have i5 := P0.2 5 _ (deedR_c5 (unhide HR))
      have j5 := P1.2 5 _ (deedR_c5 (unhide HS))
      have i6 := P0.2 6 _ (deedR_c6 (unhide HR))
      have j6 := P1.2 6 _ (deedR_c6 (unhide HS))
      have i7 := P0.2 7 _ (unhide Z7)
      have j7 := P1.2 7 _ (unhide Y7)
      go_wp2_with fail
      have hc := specSameSpanN x.s y.s _ [.int .i64 x.s.1, .int .i64 x.s.2.1, .int .i64 x.s.2.2.1, .int .i64 x.s.2.2.2.1, .bool x.s.2.2.2.2.1, .slice a7 x.s.2.2.2.2.2.length k7] _ [.int .i64 y.s.1, .int .i64 y.s.2.1, .int .i64 y.s.2.2.1, .int .i64 y.s.2.2.2.1, .bool y.s.2.2.2.2.1, .slice l7 y.s.2.2.2.2.2.length m7] _ ⟨_, rfl, (unhide G7).keep attrR_keeps B0⟩ hb0 ⟨_, rfl, (unhide F7).keep attrR_keeps B0⟩ hb1
      rw [hss] at hc
      refine hc.mono ?_
      rintro e w1 ⟨rfl, hbz⟩
      have P0 := P0.keep hbz
      have P1 := P1.keep hbz
      have B0 := bthen B0 hbz
      clear hc hbz i2 j2 i3 j3 i4 j4 i5 j5 i6 j6 i7 j7 p_op q_op p_task q_task
      have p_trace := P0.2 8 _ (deedR_c8 (unhide HR))
      have q_trace := P1.2 8 _ (deedR_c8 (unhide HS))
      have p_stamp := P0.2 9 _ (deedR_c9 (unhide HR))
      have q_stamp := P1.2 9 _ (deedR_c9 (unhide HS))
      have p_code := P0.2 10 _ (deedR_c10 (unhide HR))
      have q_code := P1.2 10 _ (deedR_c10 (unhide HS))
      have p_keep := P0.2 11 _ (deedR_c11 (unhide HR))
      have q_keep := P1.2 11 _ (deedR_c11 (unhide HS))
      have p_void := P0.2 12 _ (deedR_c12 (unhide HR))
      have q_void := P1.2 12 _ (deedR_c12 (unhide HS))
      have p_took := P0.2 13 _ (deedR_c13 (unhide HR))
      have q_took := P1.2 13 _ (deedR_c13 (unhide HS))
      have p_n := P0.2 14 _ (deedR_c14 (unhide HR))
      have q_n := P1.2 14 _ (deedR_c14 (unhide HS))
      have p_forgot := P0.2 15 _ (deedR_c15 (unhide HR))
      have q_forgot := P1.2 15 _ (deedR_c15 (unhide HS))
      have p_now := P0.2 16 _ (deedR_c16 (unhide HR))
      have q_now := P1.2 16 _ (deedR_c16 (unhide HS))
      have p_inv := P0.2 17 _ (deedR_c17 (unhide HR))
      have q_inv := P1.2 17 _ (deedR_c17 (unhide HS))
      go_wp2
      go_ret
      exact ⟨ret_bool (unhide HF).symm, B0⟩
  have n_inv : (x.inv == y.inv) = true := by simpa using e_inv
  have E_inv := hide e_inv
  clear e_inv
  by_cases e_lin : x.lin = y.lin
  case neg =>
    have HF := hide (show sameDB x y = false by simp [sameDB, numsB, e_lin])
    have n_lin : (x.lin == y.lin) = false := by simpa using e_lin
    clear e_lin
    as_aux_lemma =>
      go_enter Try.func52, Try.ntmps52
      go_upto_region 1 with fail
      generalize World.alloc (World.alloc w _) _ = w0 at *
      have p_op := P0.2 0 _ (deedR_c0 (unhide HR))
      have q_op := P1.2 0 _ (deedR_c0 (unhide HS))
      have p_task := P0.2 1 _ (deedR_c1 (unhide HR))
      have q_task := P1.2 1 _ (deedR_c1 (unhide HS))
      have i2 := P0.2 2 _ (deedR_c2 (unhide HR))
      have j2 := P1.2 2 _ (deedR_c2 (unhide HS))
      have i3 := P0.2 3 _ (deedR_c3 (unhide HR))
      have j3 := P1.2 3 _ (deedR_c3 (unhide HS))
      have i4 := P0.2 4 _ (deedR_c4 (unhide HR))
      have j4 := P1.2 4 _ (deedR_c4 (unhide HS))
      have i5 := P0.2 5 _ (deedR_c5 (unhide HR))
      have j5 := P1.2 5 _ (deedR_c5 (unhide HS))
      have i6 := P0.2 6 _ (deedR_c6 (unhide HR))
      have j6 := P1.2 6 _ (deedR_c6 (unhide HS))
      have i7 := P0.2 7 _ (unhide Z7)
      have j7 := P1.2 7 _ (unhide Y7)
      go_wp2_with fail
      have hc := specSameSpanN x.s y.s _ [.int .i64 x.s.1, .int .i64 x.s.2.1, .int .i64 x.s.2.2.1, .int .i64 x.s.2.2.2.1, .bool x.s.2.2.2.2.1, .slice a7 x.s.2.2.2.2.2.length k7] _ [.int .i64 y.s.1, .int .i64 y.s.2.1, .int .i64 y.s.2.2.1, .int .i64 y.s.2.2.2.1, .bool y.s.2.2.2.2.1, .slice l7 y.s.2.2.2.2.2.length m7] _ ⟨_, rfl, (unhide G7).keep attrR_keeps B0⟩ hb0 ⟨_, rfl, (unhide F7).keep attrR_keeps B0⟩ hb1
      rw [hss] at hc
      refine hc.mono ?_
      rintro e w1 ⟨rfl, hbz⟩
      have P0 := P0.keep hbz
      have P1 := P1.keep hbz
      have B0 := bthen B0 hbz
      clear hc hbz i2 j2 i3 j3 i4 j4 i5 j5 i6 j6 i7 j7 p_op q_op p_task q_task
      have p_trace := P0.2 8 _ (deedR_c8 (unhide HR))
      have q_trace := P1.2 8 _ (deedR_c8 (unhide HS))
      have p_stamp := P0.2 9 _ (deedR_c9 (unhide HR))
      have q_stamp := P1.2 9 _ (deedR_c9 (unhide HS))
      have p_code := P0.2 10 _ (deedR_c10 (unhide HR))
      have q_code := P1.2 10 _ (deedR_c10 (unhide HS))
      have p_keep := P0.2 11 _ (deedR_c11 (unhide HR))
      have q_keep := P1.2 11 _ (deedR_c11 (unhide HS))
      have p_void := P0.2 12 _ (deedR_c12 (unhide HR))
      have q_void := P1.2 12 _ (deedR_c12 (unhide HS))
      have p_took := P0.2 13 _ (deedR_c13 (unhide HR))
      have q_took := P1.2 13 _ (deedR_c13 (unhide HS))
      have p_n := P0.2 14 _ (deedR_c14 (unhide HR))
      have q_n := P1.2 14 _ (deedR_c14 (unhide HS))
      have p_forgot := P0.2 15 _ (deedR_c15 (unhide HR))
      have q_forgot := P1.2 15 _ (deedR_c15 (unhide HS))
      have p_now := P0.2 16 _ (deedR_c16 (unhide HR))
      have q_now := P1.2 16 _ (deedR_c16 (unhide HS))
      have p_inv := P0.2 17 _ (deedR_c17 (unhide HR))
      have q_inv := P1.2 17 _ (deedR_c17 (unhide HS))
      have p_lin := P0.2 18 _ (deedR_c18 (unhide HR))
      have q_lin := P1.2 18 _ (deedR_c18 (unhide HS))
      go_wp2
      go_ret
      exact ⟨ret_bool (unhide HF).symm, B0⟩
  have n_lin : (x.lin == y.lin) = true := by simpa using e_lin
  have E_lin := hide e_lin
  clear e_lin
  by_cases e_res : x.res = y.res
  case neg =>
    have HF := hide (show sameDB x y = false by simp [sameDB, numsB, e_res])
    have n_res : (x.res == y.res) = false := by simpa using e_res
    clear e_res
    as_aux_lemma =>
      go_enter Try.func52, Try.ntmps52
      go_upto_region 1 with fail
      generalize World.alloc (World.alloc w _) _ = w0 at *
      have p_op := P0.2 0 _ (deedR_c0 (unhide HR))
      have q_op := P1.2 0 _ (deedR_c0 (unhide HS))
      have p_task := P0.2 1 _ (deedR_c1 (unhide HR))
      have q_task := P1.2 1 _ (deedR_c1 (unhide HS))
      have i2 := P0.2 2 _ (deedR_c2 (unhide HR))
      have j2 := P1.2 2 _ (deedR_c2 (unhide HS))
      have i3 := P0.2 3 _ (deedR_c3 (unhide HR))
      have j3 := P1.2 3 _ (deedR_c3 (unhide HS))
      have i4 := P0.2 4 _ (deedR_c4 (unhide HR))
      have j4 := P1.2 4 _ (deedR_c4 (unhide HS))
      have i5 := P0.2 5 _ (deedR_c5 (unhide HR))
      have j5 := P1.2 5 _ (deedR_c5 (unhide HS))
      have i6 := P0.2 6 _ (deedR_c6 (unhide HR))
      have j6 := P1.2 6 _ (deedR_c6 (unhide HS))
      have i7 := P0.2 7 _ (unhide Z7)
      have j7 := P1.2 7 _ (unhide Y7)
      go_wp2_with fail
      have hc := specSameSpanN x.s y.s _ [.int .i64 x.s.1, .int .i64 x.s.2.1, .int .i64 x.s.2.2.1, .int .i64 x.s.2.2.2.1, .bool x.s.2.2.2.2.1, .slice a7 x.s.2.2.2.2.2.length k7] _ [.int .i64 y.s.1, .int .i64 y.s.2.1, .int .i64 y.s.2.2.1, .int .i64 y.s.2.2.2.1, .bool y.s.2.2.2.2.1, .slice l7 y.s.2.2.2.2.2.length m7] _ ⟨_, rfl, (unhide G7).keep attrR_keeps B0⟩ hb0 ⟨_, rfl, (unhide F7).keep attrR_keeps B0⟩ hb1
      rw [hss] at hc
      refine hc.mono ?_
      rintro e w1 ⟨rfl, hbz⟩
      have P0 := P0.keep hbz
      have P1 := P1.keep hbz
      have B0 := bthen B0 hbz
      clear hc hbz i2 j2 i3 j3 i4 j4 i5 j5 i6 j6 i7 j7 p_op q_op p_task q_task
      have p_trace := P0.2 8 _ (deedR_c8 (unhide HR))
      have q_trace := P1.2 8 _ (deedR_c8 (unhide HS))
      have p_stamp := P0.2 9 _ (deedR_c9 (unhide HR))
      have q_stamp := P1.2 9 _ (deedR_c9 (unhide HS))
      have p_code := P0.2 10 _ (deedR_c10 (unhide HR))
      have q_code := P1.2 10 _ (deedR_c10 (unhide HS))
      have p_keep := P0.2 11 _ (deedR_c11 (unhide HR))
      have q_keep := P1.2 11 _ (deedR_c11 (unhide HS))
      have p_void := P0.2 12 _ (deedR_c12 (unhide HR))
      have q_void := P1.2 12 _ (deedR_c12 (unhide HS))
      have p_took := P0.2 13 _ (deedR_c13 (unhide HR))
      have q_took := P1.2 13 _ (deedR_c13 (unhide HS))
      have p_n := P0.2 14 _ (deedR_c14 (unhide HR))
      have q_n := P1.2 14 _ (deedR_c14 (unhide HS))
      have p_forgot := P0.2 15 _ (deedR_c15 (unhide HR))
      have q_forgot := P1.2 15 _ (deedR_c15 (unhide HS))
      have p_now := P0.2 16 _ (deedR_c16 (unhide HR))
      have q_now := P1.2 16 _ (deedR_c16 (unhide HS))
      have p_inv := P0.2 17 _ (deedR_c17 (unhide HR))
      have q_inv := P1.2 17 _ (deedR_c17 (unhide HS))
      have p_lin := P0.2 18 _ (deedR_c18 (unhide HR))
      have q_lin := P1.2 18 _ (deedR_c18 (unhide HS))
      have p_res := P0.2 19 _ (deedR_c19 (unhide HR))
      have q_res := P1.2 19 _ (deedR_c19 (unhide HS))
      go_wp2
      go_ret
      exact ⟨ret_bool (unhide HF).symm, B0⟩
  have n_res : (x.res == y.res) = true := by simpa using e_res
  have E_res := hide e_res
  clear e_res
  have HF := hide (show sameDB x y = true by rw [sameDB, numsB, decide_eq_true (p := x.op = y.op ∧ x.task = y.task ∧ x.trace = y.trace ∧ x.stamp = y.stamp ∧ x.code = y.code ∧ x.took = y.took ∧ x.n = y.n ∧ x.forgot = y.forgot ∧ x.now = y.now ∧ x.inv = y.inv ∧ x.lin = y.lin ∧ x.res = y.res) ⟨unhide E_op, unhide E_task, unhide E_trace, unhide E_stamp, unhide E_code, unhide E_took, unhide E_n, unhide E_forgot, unhide E_now, unhide E_inv, unhide E_lin, unhide E_res⟩, decide_eq_true (unhide E_keep), decide_eq_true (unhide E_void), hss]; rfl)
  as_aux_lemma =>
    go_enter Try.func52, Try.ntmps52
    go_upto_region 1 with fail
    generalize World.alloc (World.alloc w _) _ = w0 at *
    have p_op := P0.2 0 _ (deedR_c0 (unhide HR))
    have q_op := P1.2 0 _ (deedR_c0 (unhide HS))
    have p_task := P0.2 1 _ (deedR_c1 (unhide HR))
    have q_task := P1.2 1 _ (deedR_c1 (unhide HS))
    have i2 := P0.2 2 _ (deedR_c2 (unhide HR))
    have j2 := P1.2 2 _ (deedR_c2 (unhide HS))
    have i3 := P0.2 3 _ (deedR_c3 (unhide HR))
    have j3 := P1.2 3 _ (deedR_c3 (unhide HS))
    have i4 := P0.2 4 _ (deedR_c4 (unhide HR))
    have j4 := P1.2 4 _ (deedR_c4 (unhide HS))
    have i5 := P0.2 5 _ (deedR_c5 (unhide HR))
    have j5 := P1.2 5 _ (deedR_c5 (unhide HS))
    have i6 := P0.2 6 _ (deedR_c6 (unhide HR))
    have j6 := P1.2 6 _ (deedR_c6 (unhide HS))
    have i7 := P0.2 7 _ (unhide Z7)
    have j7 := P1.2 7 _ (unhide Y7)
    go_wp2_with fail
    have hc := specSameSpanN x.s y.s _ [.int .i64 x.s.1, .int .i64 x.s.2.1, .int .i64 x.s.2.2.1, .int .i64 x.s.2.2.2.1, .bool x.s.2.2.2.2.1, .slice a7 x.s.2.2.2.2.2.length k7] _ [.int .i64 y.s.1, .int .i64 y.s.2.1, .int .i64 y.s.2.2.1, .int .i64 y.s.2.2.2.1, .bool y.s.2.2.2.2.1, .slice l7 y.s.2.2.2.2.2.length m7] _ ⟨_, rfl, (unhide G7).keep attrR_keeps B0⟩ hb0 ⟨_, rfl, (unhide F7).keep attrR_keeps B0⟩ hb1
    rw [hss] at hc
    refine hc.mono ?_
    rintro e w1 ⟨rfl, hbz⟩
    have P0 := P0.keep hbz
    have P1 := P1.keep hbz
    have B0 := bthen B0 hbz
    clear hc hbz i2 j2 i3 j3 i4 j4 i5 j5 i6 j6 i7 j7 p_op q_op p_task q_task
    have p_trace := P0.2 8 _ (deedR_c8 (unhide HR))
    have q_trace := P1.2 8 _ (deedR_c8 (unhide HS))
    have p_stamp := P0.2 9 _ (deedR_c9 (unhide HR))
    have q_stamp := P1.2 9 _ (deedR_c9 (unhide HS))
    have p_code := P0.2 10 _ (deedR_c10 (unhide HR))
    have q_code := P1.2 10 _ (deedR_c10 (unhide HS))
    have p_keep := P0.2 11 _ (deedR_c11 (unhide HR))
    have q_keep := P1.2 11 _ (deedR_c11 (unhide HS))
    have p_void := P0.2 12 _ (deedR_c12 (unhide HR))
    have q_void := P1.2 12 _ (deedR_c12 (unhide HS))
    have p_took := P0.2 13 _ (deedR_c13 (unhide HR))
    have q_took := P1.2 13 _ (deedR_c13 (unhide HS))
    have p_n := P0.2 14 _ (deedR_c14 (unhide HR))
    have q_n := P1.2 14 _ (deedR_c14 (unhide HS))
    have p_forgot := P0.2 15 _ (deedR_c15 (unhide HR))
    have q_forgot := P1.2 15 _ (deedR_c15 (unhide HS))
    have p_now := P0.2 16 _ (deedR_c16 (unhide HR))
    have q_now := P1.2 16 _ (deedR_c16 (unhide HS))
    have p_inv := P0.2 17 _ (deedR_c17 (unhide HR))
    have q_inv := P1.2 17 _ (deedR_c17 (unhide HS))
    have p_lin := P0.2 18 _ (deedR_c18 (unhide HR))
    have q_lin := P1.2 18 _ (deedR_c18 (unhide HS))
    have p_res := P0.2 19 _ (deedR_c19 (unhide HR))
    have q_res := P1.2 19 _ (deedR_c19 (unhide HS))
    go_wp2
    go_ret
    exact ⟨ret_bool (unhide HF).symm, B0⟩
end Go.Proofs.Ytklhljknkcmecaa
