/-
  Contract of TaskOk of the program.
-/
import Derived.Test.YtklhljknkcmecacTaskOk
namespace Go.Proofs.Ytklhljknkcmecac
open Go.ChangeShapes Go.WideShapes Go.ChangeAt Go.RowKit
set_option linter.unusedVariables false
set_option maxRecDepth 100000

def taskB (x : TaskD) (k : Int) : Bool :=
  (inB k 0 4 && (inB x.pc 0 3 && decide (0 ≤ x.h))) && (if x.op = 0 then decide (x.pc = 0 ∧ x.h = 0) && (noSpanB x.s && (noTnB x.trace x.stamp && decide (x.hand.length = 0)))
    else if x.op = 1 then decide (k < 3) && (spanOkB x.s && (dropB x && decide (x.hand.length = 0)))
    else if x.op = 2 then decide (3 ≤ k) && (noSpanB x.s && (tnB x.trace x.stamp && handB x)) else false)
theorem taskB_g {x : TaskD} {k : Int} (h : ¬ ((0 ≤ k ∧ k ≤ 4) ∧ (0 ≤ x.pc ∧ x.pc ≤ 3) ∧ 0 ≤ x.h)) : taskB x k = false := by
  have : (inB k 0 4 && (inB x.pc 0 3 && decide (0 ≤ x.h))) = false := by
    rw [Bool.eq_false_iff]
    intro e
    simp only [Bool.and_eq_true, inB_iff, decide_eq_true_eq] at e
    exact h e
  rw [taskB, this]; rfl
theorem taskB_ok {x : TaskD} {k : Int} (h : (0 ≤ k ∧ k ≤ 4) ∧ (0 ≤ x.pc ∧ x.pc ≤ 3) ∧ 0 ≤ x.h) : (inB k 0 4 && (inB x.pc 0 3 && decide (0 ≤ x.h))) = true := by
  simp only [Bool.and_eq_true, inB_iff, decide_eq_true_eq]; exact h
theorem taskB_0 {x : TaskD} {k : Int} (h : (0 ≤ k ∧ k ≤ 4) ∧ (0 ≤ x.pc ∧ x.pc ≤ 3) ∧ 0 ≤ x.h) (e : x.op = 0) : taskB x k = (decide (x.pc = 0 ∧ x.h = 0) && (noSpanB x.s && (noTnB x.trace x.stamp && decide (x.hand.length = 0)))) := by
  rw [taskB, taskB_ok h, if_pos e, Bool.true_and]
theorem taskB_1 {x : TaskD} {k : Int} (h : (0 ≤ k ∧ k ≤ 4) ∧ (0 ≤ x.pc ∧ x.pc ≤ 3) ∧ 0 ≤ x.h) (e : x.op = 1) : taskB x k = (decide (k < 3) && (spanOkB x.s && (dropB x && decide (x.hand.length = 0)))) := by
  rw [taskB, taskB_ok h, if_neg (by omega), if_pos e, Bool.true_and]
theorem taskB_2 {x : TaskD} {k : Int} (h : (0 ≤ k ∧ k ≤ 4) ∧ (0 ≤ x.pc ∧ x.pc ≤ 3) ∧ 0 ≤ x.h) (e : x.op = 2) : taskB x k = (decide (3 ≤ k) && (noSpanB x.s && (tnB x.trace x.stamp && handB x))) := by
  rw [taskB, taskB_ok h, if_neg (by omega), if_neg (by omega), if_pos e, Bool.true_and]
theorem taskB_n {x : TaskD} {k : Int} (e0 : x.op ≠ 0) (e1 : x.op ≠ 1) (e2 : x.op ≠ 2) : taskB x k = false := by
  rw [taskB, if_neg e0, if_neg e1, if_neg e2, Bool.and_false]
set_option maxHeartbeats 40000000 in
theorem implTaskOk (x : TaskD) (k : Int) (S0 : Nat → Prop) (c0 : List Value) (w : World) (h0 : taskR w S0 c0 x) (b0 : taskBulk x ≤ 1048576) :
    Calls Try.prog 18 #[.agg c0.toArray, .int .i64 k] w fun e w' => e = .returned (.bool (taskB x k)) ∧ Below w.heap.size w w' := by
  have HR := hide h0
  obtain ⟨s, s', rfl, g, g'⟩ := h0
  obtain ⟨a, c, rfl⟩ := g.form
  obtain ⟨a2, c2, rfl⟩ := g'.form
  have hl := g'.len
  have HG := hide g
  have HH := hide g'
  have P0 := Held.new w [.int .i64 x.op, .int .i64 x.pc, .int .i64 x.s.1, .int .i64 x.s.2.1, .int .i64 x.s.2.2.1, .int .i64 x.s.2.2.2.1, .bool x.s.2.2.2.2.1, .slice a x.s.2.2.2.2.2.length c, .int .i64 x.trace, .int .i64 x.stamp, .slice a2 x.hand.length c2, .int .i64 x.h] 35
  have B0 := bnew w (.cells #[.int .i64 x.op, .int .i64 x.pc, .int .i64 x.s.1, .int .i64 x.s.2.1, .int .i64 x.s.2.2.1, .int .i64 x.s.2.2.2.1, .bool x.s.2.2.2.2.1, .slice a x.s.2.2.2.2.2.length c, .int .i64 x.trace, .int .i64 x.stamp, .slice a2 x.hand.length c2, .int .i64 x.h] 35)
  have hsb : spanBulk x.s ≤ 1048576 := by unfold taskBulk at b0; unfold spanBulk; omega
  have hhb : bulkL itemBulk x.hand ≤ 1048576 := by unfold taskBulk at b0; omega
  clear g g'
  by_cases k0 : k < 0
  ·
    have HF := hide (show taskB x k = false by exact taskB_g (by omega))
    as_aux_lemma =>
      go_enter Try.func18, Try.ntmps18
      go_upto_region 1 with fail
      generalize World.alloc w _ = w0 at *
      have p0 := P0.2 0 _ rfl
      have p1 := P0.2 1 _ rfl
      have p2 := P0.2 2 _ rfl
      have p3 := P0.2 3 _ rfl
      have p4 := P0.2 4 _ rfl
      have p5 := P0.2 5 _ rfl
      have p6 := P0.2 6 _ rfl
      have p7 := P0.2 7 _ rfl
      have p8 := P0.2 8 _ rfl
      have p9 := P0.2 9 _ rfl
      have p10 := P0.2 10 _ rfl
      have p11 := P0.2 11 _ rfl
      go_wp2
      go_ret
      exact ⟨ret_bool (unhide HF).symm, B0⟩
  by_cases k1 : 4 < k
  ·
    have HF := hide (show taskB x k = false by exact taskB_g (by omega))
    as_aux_lemma =>
      go_enter Try.func18, Try.ntmps18
      go_upto_region 1 with fail
      generalize World.alloc w _ = w0 at *
      have p0 := P0.2 0 _ rfl
      have p1 := P0.2 1 _ rfl
      have p2 := P0.2 2 _ rfl
      have p3 := P0.2 3 _ rfl
      have p4 := P0.2 4 _ rfl
      have p5 := P0.2 5 _ rfl
      have p6 := P0.2 6 _ rfl
      have p7 := P0.2 7 _ rfl
      have p8 := P0.2 8 _ rfl
      have p9 := P0.2 9 _ rfl
      have p10 := P0.2 10 _ rfl
      have p11 := P0.2 11 _ rfl
      go_wp2
      go_ret
      exact ⟨ret_bool (unhide HF).symm, B0⟩
  by_cases k2 : x.pc < 0
  ·
    have HF := hide (show taskB x k = false by exact taskB_g (by omega))
    as_aux_lemma =>
      go_enter Try.func18, Try.ntmps18
      go_upto_region 1 with fail
      generalize World.alloc w _ = w0 at *
      have p0 := P0.2 0 _ rfl
      have p1 := P0.2 1 _ rfl
      have p2 := P0.2 2 _ rfl
      have p3 := P0.2 3 _ rfl
      have p4 := P0.2 4 _ rfl
      have p5 := P0.2 5 _ rfl
      have p6 := P0.2 6 _ rfl
      have p7 := P0.2 7 _ rfl
      have p8 := P0.2 8 _ rfl
      have p9 := P0.2 9 _ rfl
      have p10 := P0.2 10 _ rfl
      have p11 := P0.2 11 _ rfl
      go_wp2
      go_ret
      exact ⟨ret_bool (unhide HF).symm, B0⟩
  by_cases k3 : 3 < x.pc
  ·
    have HF := hide (show taskB x k = false by exact taskB_g (by omega))
    as_aux_lemma =>
      go_enter Try.func18, Try.ntmps18
      go_upto_region 1 with fail
      generalize World.alloc w _ = w0 at *
      have p0 := P0.2 0 _ rfl
      have p1 := P0.2 1 _ rfl
      have p2 := P0.2 2 _ rfl
      have p3 := P0.2 3 _ rfl
      have p4 := P0.2 4 _ rfl
      have p5 := P0.2 5 _ rfl
      have p6 := P0.2 6 _ rfl
      have p7 := P0.2 7 _ rfl
      have p8 := P0.2 8 _ rfl
      have p9 := P0.2 9 _ rfl
      have p10 := P0.2 10 _ rfl
      have p11 := P0.2 11 _ rfl
      go_wp2
      go_ret
      exact ⟨ret_bool (unhide HF).symm, B0⟩
  by_cases k4 : x.h < 0
  ·
    have HF := hide (show taskB x k = false by exact taskB_g (by omega))
    as_aux_lemma =>
      go_enter Try.func18, Try.ntmps18
      go_upto_region 1 with fail
      generalize World.alloc w _ = w0 at *
      have p0 := P0.2 0 _ rfl
      have p1 := P0.2 1 _ rfl
      have p2 := P0.2 2 _ rfl
      have p3 := P0.2 3 _ rfl
      have p4 := P0.2 4 _ rfl
      have p5 := P0.2 5 _ rfl
      have p6 := P0.2 6 _ rfl
      have p7 := P0.2 7 _ rfl
      have p8 := P0.2 8 _ rfl
      have p9 := P0.2 9 _ rfl
      have p10 := P0.2 10 _ rfl
      have p11 := P0.2 11 _ rfl
      go_wp2
      go_ret
      exact ⟨ret_bool (unhide HF).symm, B0⟩
  have HK := hide (show (0 ≤ k ∧ k ≤ 4) ∧ (0 ≤ x.pc ∧ x.pc ≤ 3) ∧ 0 ≤ x.h from ⟨⟨by omega, by omega⟩, ⟨by omega, by omega⟩, by omega⟩)
  by_cases o0 : x.op = 0
  ·
    have d0 : (x.op == 0) = true := by simpa using o0
    have HT := hide (taskB_0 (unhide HK) o0)
    clear o0
    by_cases c0 : x.pc = 0
    case neg =>
      have q0 : (x.pc == 0) = false := by simpa using c0
      have HF := hide (show taskB x k = false by rw [unhide HT, decide_eq_false (p := x.pc = 0 ∧ x.h = 0) (fun h => c0 h.1)]; rfl)
      as_aux_lemma =>
        go_enter Try.func18, Try.ntmps18
        go_upto_region 1 with fail
        generalize World.alloc w _ = w0 at *
        have p0 := P0.2 0 _ rfl
        have p1 := P0.2 1 _ rfl
        have p2 := P0.2 2 _ rfl
        have p3 := P0.2 3 _ rfl
        have p4 := P0.2 4 _ rfl
        have p5 := P0.2 5 _ rfl
        have p6 := P0.2 6 _ rfl
        have p7 := P0.2 7 _ rfl
        have p8 := P0.2 8 _ rfl
        have p9 := P0.2 9 _ rfl
        have p10 := P0.2 10 _ rfl
        have p11 := P0.2 11 _ rfl
        go_wp2
        go_ret
        exact ⟨ret_bool (unhide HF).symm, B0⟩
    have q0 : (x.pc == 0) = true := by simpa using c0
    have C0 := hide c0
    clear c0
    by_cases c1 : x.h = 0
    case neg =>
      have q1 : (x.h == 0) = false := by simpa using c1
      have HF := hide (show taskB x k = false by rw [unhide HT, decide_eq_false (p := x.pc = 0 ∧ x.h = 0) (fun h => c1 h.2)]; rfl)
      as_aux_lemma =>
        go_enter Try.func18, Try.ntmps18
        go_upto_region 1 with fail
        generalize World.alloc w _ = w0 at *
        have p0 := P0.2 0 _ rfl
        have p1 := P0.2 1 _ rfl
        have p2 := P0.2 2 _ rfl
        have p3 := P0.2 3 _ rfl
        have p4 := P0.2 4 _ rfl
        have p5 := P0.2 5 _ rfl
        have p6 := P0.2 6 _ rfl
        have p7 := P0.2 7 _ rfl
        have p8 := P0.2 8 _ rfl
        have p9 := P0.2 9 _ rfl
        have p10 := P0.2 10 _ rfl
        have p11 := P0.2 11 _ rfl
        go_wp2
        go_ret
        exact ⟨ret_bool (unhide HF).symm, B0⟩
    have q1 : (x.h == 0) = true := by simpa using c1
    have C1 := hide c1
    clear c1
    have HT := hide ((unhide HT).trans (by rw [decide_eq_true (p := x.pc = 0 ∧ x.h = 0) ⟨unhide C0, unhide C1⟩, Bool.true_and]))
    cases hns : noSpanB x.s
    ·
      have HF := hide (show taskB x k = false by rw [unhide HT, hns]; rfl)
      as_aux_lemma =>
        go_enter Try.func18, Try.ntmps18
        go_upto_region 1 with fail
        generalize World.alloc w _ = w0 at *
        have p0 := P0.2 0 _ rfl
        have p1 := P0.2 1 _ rfl
        have p2 := P0.2 2 _ rfl
        have p3 := P0.2 3 _ rfl
        have p4 := P0.2 4 _ rfl
        have p5 := P0.2 5 _ rfl
        have p6 := P0.2 6 _ rfl
        have p7 := P0.2 7 _ rfl
        have p8 := P0.2 8 _ rfl
        have p9 := P0.2 9 _ rfl
        have p10 := P0.2 10 _ rfl
        have p11 := P0.2 11 _ rfl
        go_wp2_with fail
        have hc := implNoThing x.s S0 [.int .i64 x.s.1, .int .i64 x.s.2.1, .int .i64 x.s.2.2.1, .int .i64 x.s.2.2.2.1, .bool x.s.2.2.2.2.1, .slice a x.s.2.2.2.2.2.length c] _ ⟨_, rfl, (unhide HG).keep attrR_keeps B0⟩
        rw [hns] at hc
        refine hc.mono ?_
        rintro e w1 ⟨rfl, hb⟩
        have P0 := P0.keep hb
        have B0 := bthen B0 hb
        clear hc hb
        clear p0 p1 p2 p3 p4 p5 p6 p7 p8 p9 p10 p11
        have p0 := P0.2 0 _ rfl
        have p1 := P0.2 1 _ rfl
        have p2 := P0.2 2 _ rfl
        have p3 := P0.2 3 _ rfl
        have p4 := P0.2 4 _ rfl
        have p5 := P0.2 5 _ rfl
        have p6 := P0.2 6 _ rfl
        have p7 := P0.2 7 _ rfl
        have p8 := P0.2 8 _ rfl
        have p9 := P0.2 9 _ rfl
        have p10 := P0.2 10 _ rfl
        have p11 := P0.2 11 _ rfl
        go_wp2
        go_ret
        exact ⟨ret_bool (unhide HF).symm, B0⟩
    cases hnt : noTnB x.trace x.stamp
    ·
      have hd' := of_decide_eq_false hnt
      by_cases t0 : x.trace = 0
      ·
        have t1 : ¬ x.stamp = 0 := fun h => hd' ⟨t0, h⟩
        have q2 : (x.trace == 0) = true := by simpa using t0
        have q3 : (x.stamp == 0) = false := by simpa using t1
        clear hd' t0
        have HF := hide (show taskB x k = false by rw [unhide HT, hnt]; simp)
        as_aux_lemma =>
          go_enter Try.func18, Try.ntmps18
          go_upto_region 1 with fail
          generalize World.alloc w _ = w0 at *
          have p0 := P0.2 0 _ rfl
          have p1 := P0.2 1 _ rfl
          have p2 := P0.2 2 _ rfl
          have p3 := P0.2 3 _ rfl
          have p4 := P0.2 4 _ rfl
          have p5 := P0.2 5 _ rfl
          have p6 := P0.2 6 _ rfl
          have p7 := P0.2 7 _ rfl
          have p8 := P0.2 8 _ rfl
          have p9 := P0.2 9 _ rfl
          have p10 := P0.2 10 _ rfl
          have p11 := P0.2 11 _ rfl
          go_wp2_with fail
          have hc := implNoThing x.s S0 [.int .i64 x.s.1, .int .i64 x.s.2.1, .int .i64 x.s.2.2.1, .int .i64 x.s.2.2.2.1, .bool x.s.2.2.2.2.1, .slice a x.s.2.2.2.2.2.length c] _ ⟨_, rfl, (unhide HG).keep attrR_keeps B0⟩
          rw [hns] at hc
          refine hc.mono ?_
          rintro e w1 ⟨rfl, hb⟩
          have P0 := P0.keep hb
          have B0 := bthen B0 hb
          clear hc hb
          clear p0 p1 p2 p3 p4 p5 p6 p7 p8 p9 p10 p11
          have p0 := P0.2 0 _ rfl
          have p1 := P0.2 1 _ rfl
          have p2 := P0.2 2 _ rfl
          have p3 := P0.2 3 _ rfl
          have p4 := P0.2 4 _ rfl
          have p5 := P0.2 5 _ rfl
          have p6 := P0.2 6 _ rfl
          have p7 := P0.2 7 _ rfl
          have p8 := P0.2 8 _ rfl
          have p9 := P0.2 9 _ rfl
          have p10 := P0.2 10 _ rfl
          have p11 := P0.2 11 _ rfl
          go_wp2_with fail
          have hc := implTrailOf x S0 [.int .i64 x.op, .int .i64 x.pc, .int .i64 x.s.1, .int .i64 x.s.2.1, .int .i64 x.s.2.2.1, .int .i64 x.s.2.2.2.1, .bool x.s.2.2.2.2.1, .slice a x.s.2.2.2.2.2.length c, .int .i64 x.trace, .int .i64 x.stamp, .slice a2 x.hand.length c2, .int .i64 x.h] _ (taskR_keeps _ _ _ None1 _ _ (Below.turn B0) none_off (unhide HR))
          refine hc.mono ?_
          rintro e w1 ⟨rfl, hb⟩
          have P0 := P0.keep hb
          have B0 := bthen B0 hb
          clear hc hb
          clear p0 p1 p2 p3 p4 p5 p6 p7 p8 p9 p10 p11
          have p0 := P0.2 0 _ rfl
          have p1 := P0.2 1 _ rfl
          have p2 := P0.2 2 _ rfl
          have p3 := P0.2 3 _ rfl
          have p4 := P0.2 4 _ rfl
          have p5 := P0.2 5 _ rfl
          have p6 := P0.2 6 _ rfl
          have p7 := P0.2 7 _ rfl
          have p8 := P0.2 8 _ rfl
          have p9 := P0.2 9 _ rfl
          have p10 := P0.2 10 _ rfl
          have p11 := P0.2 11 _ rfl
          go_wp2
          go_ret
          exact ⟨ret_bool (unhide HF).symm, B0⟩
      ·
        clear hd'
        have HF := hide (show taskB x k = false by rw [unhide HT, hnt]; simp)
        as_aux_lemma =>
          go_enter Try.func18, Try.ntmps18
          go_upto_region 1 with fail
          generalize World.alloc w _ = w0 at *
          have p0 := P0.2 0 _ rfl
          have p1 := P0.2 1 _ rfl
          have p2 := P0.2 2 _ rfl
          have p3 := P0.2 3 _ rfl
          have p4 := P0.2 4 _ rfl
          have p5 := P0.2 5 _ rfl
          have p6 := P0.2 6 _ rfl
          have p7 := P0.2 7 _ rfl
          have p8 := P0.2 8 _ rfl
          have p9 := P0.2 9 _ rfl
          have p10 := P0.2 10 _ rfl
          have p11 := P0.2 11 _ rfl
          go_wp2_with fail
          have hc := implNoThing x.s S0 [.int .i64 x.s.1, .int .i64 x.s.2.1, .int .i64 x.s.2.2.1, .int .i64 x.s.2.2.2.1, .bool x.s.2.2.2.2.1, .slice a x.s.2.2.2.2.2.length c] _ ⟨_, rfl, (unhide HG).keep attrR_keeps B0⟩
          rw [hns] at hc
          refine hc.mono ?_
          rintro e w1 ⟨rfl, hb⟩
          have P0 := P0.keep hb
          have B0 := bthen B0 hb
          clear hc hb
          clear p0 p1 p2 p3 p4 p5 p6 p7 p8 p9 p10 p11
          have p0 := P0.2 0 _ rfl
          have p1 := P0.2 1 _ rfl
          have p2 := P0.2 2 _ rfl
          have p3 := P0.2 3 _ rfl
          have p4 := P0.2 4 _ rfl
          have p5 := P0.2 5 _ rfl
          have p6 := P0.2 6 _ rfl
          have p7 := P0.2 7 _ rfl
          have p8 := P0.2 8 _ rfl
          have p9 := P0.2 9 _ rfl
          have p10 := P0.2 10 _ rfl
          have p11 := P0.2 11 _ rfl
          go_wp2_with fail
          have hc := implTrailOf x S0 [.int .i64 x.op, .int .i64 x.pc, .int .i64 x.s.1, .int .i64 x.s.2.1, .int .i64 x.s.2.2.1, .int .i64 x.s.2.2.2.1, .bool x.s.2.2.2.2.1, .slice a x.s.2.2.2.2.2.length c, .int .i64 x.trace, .int .i64 x.stamp, .slice a2 x.hand.length c2, .int .i64 x.h] _ (taskR_keeps _ _ _ None1 _ _ (Below.turn B0) none_off (unhide HR))
          refine hc.mono ?_
          rintro e w1 ⟨rfl, hb⟩
          have P0 := P0.keep hb
          have B0 := bthen B0 hb
          clear hc hb
          clear p0 p1 p2 p3 p4 p5 p6 p7 p8 p9 p10 p11
          have p0 := P0.2 0 _ rfl
          have p1 := P0.2 1 _ rfl
          have p2 := P0.2 2 _ rfl
          have p3 := P0.2 3 _ rfl
          have p4 := P0.2 4 _ rfl
          have p5 := P0.2 5 _ rfl
          have p6 := P0.2 6 _ rfl
          have p7 := P0.2 7 _ rfl
          have p8 := P0.2 8 _ rfl
          have p9 := P0.2 9 _ rfl
          have p10 := P0.2 10 _ rfl
          have p11 := P0.2 11 _ rfl
          go_wp2
          go_ret
          exact ⟨ret_bool (unhide HF).symm, B0⟩
    obtain ⟨t0, t1⟩ := of_decide_eq_true hnt
    have q2 : (x.trace == 0) = true := by simpa using t0
    have q3 : (x.stamp == 0) = true := by simpa using t1
    clear t0 t1
    have HF := hide (show taskB x k = decide (x.hand.length = 0) by rw [unhide HT, hns, hnt]; rfl)
    as_aux_lemma =>
      go_enter Try.func18, Try.ntmps18
      go_upto_region 1 with fail
      generalize World.alloc w _ = w0 at *
      have p0 := P0.2 0 _ rfl
      have p1 := P0.2 1 _ rfl
      have p2 := P0.2 2 _ rfl
      have p3 := P0.2 3 _ rfl
      have p4 := P0.2 4 _ rfl
      have p5 := P0.2 5 _ rfl
      have p6 := P0.2 6 _ rfl
      have p7 := P0.2 7 _ rfl
      have p8 := P0.2 8 _ rfl
      have p9 := P0.2 9 _ rfl
      have p10 := P0.2 10 _ rfl
      have p11 := P0.2 11 _ rfl
      go_wp2_with fail
      have hc := implNoThing x.s S0 [.int .i64 x.s.1, .int .i64 x.s.2.1, .int .i64 x.s.2.2.1, .int .i64 x.s.2.2.2.1, .bool x.s.2.2.2.2.1, .slice a x.s.2.2.2.2.2.length c] _ ⟨_, rfl, (unhide HG).keep attrR_keeps B0⟩
      rw [hns] at hc
      refine hc.mono ?_
      rintro e w1 ⟨rfl, hb⟩
      have P0 := P0.keep hb
      have B0 := bthen B0 hb
      clear hc hb
      clear p0 p1 p2 p3 p4 p5 p6 p7 p8 p9 p10 p11
      have p0 := P0.2 0 _ rfl
      have p1 := P0.2 1 _ rfl
      have p2 := P0.2 2 _ rfl
      have p3 := P0.2 3 _ rfl
      have p4 := P0.2 4 _ rfl
      have p5 := P0.2 5 _ rfl
      have p6 := P0.2 6 _ rfl
      have p7 := P0.2 7 _ rfl
      have p8 := P0.2 8 _ rfl
      have p9 := P0.2 9 _ rfl
      have p10 := P0.2 10 _ rfl
      have p11 := P0.2 11 _ rfl
      go_wp2_with fail
      have hc := implTrailOf x S0 [.int .i64 x.op, .int .i64 x.pc, .int .i64 x.s.1, .int .i64 x.s.2.1, .int .i64 x.s.2.2.1, .int .i64 x.s.2.2.2.1, .bool x.s.2.2.2.2.1, .slice a x.s.2.2.2.2.2.length c, .int .i64 x.trace, .int .i64 x.stamp, .slice a2 x.hand.length c2, .int .i64 x.h] _ (taskR_keeps _ _ _ None1 _ _ (Below.turn B0) none_off (unhide HR))
      refine hc.mono ?_
      rintro e w1 ⟨rfl, hb⟩
      have P0 := P0.keep hb
      have B0 := bthen B0 hb
      clear hc hb
      clear p0 p1 p2 p3 p4 p5 p6 p7 p8 p9 p10 p11
      have p0 := P0.2 0 _ rfl
      have p1 := P0.2 1 _ rfl
      have p2 := P0.2 2 _ rfl
      have p3 := P0.2 3 _ rfl
      have p4 := P0.2 4 _ rfl
      have p5 := P0.2 5 _ rfl
      have p6 := P0.2 6 _ rfl
      have p7 := P0.2 7 _ rfl
      have p8 := P0.2 8 _ rfl
      have p9 := P0.2 9 _ rfl
      have p10 := P0.2 10 _ rfl
      have p11 := P0.2 11 _ rfl
      go_wp2
      go_ret
      exact ⟨ret_bool (by rw [unhide HF]; first | rfl | (rw [Bool.eq_iff_iff]; simp)), B0⟩
  have d0 : (x.op == 0) = false := by simpa using o0
  by_cases o1 : x.op = 1
  ·
    have d1 : (x.op == 1) = true := by simpa using o1
    have HT := hide (taskB_1 (unhide HK) o1)
    clear o1 o0
    by_cases c0 : k < 3
    case neg =>
      have HF := hide (show taskB x k = false by rw [unhide HT, decide_eq_false c0]; rfl)
      as_aux_lemma =>
        go_enter Try.func18, Try.ntmps18
        go_upto_region 1 with fail
        generalize World.alloc w _ = w0 at *
        have p0 := P0.2 0 _ rfl
        have p1 := P0.2 1 _ rfl
        have p2 := P0.2 2 _ rfl
        have p3 := P0.2 3 _ rfl
        have p4 := P0.2 4 _ rfl
        have p5 := P0.2 5 _ rfl
        have p6 := P0.2 6 _ rfl
        have p7 := P0.2 7 _ rfl
        have p8 := P0.2 8 _ rfl
        have p9 := P0.2 9 _ rfl
        have p10 := P0.2 10 _ rfl
        have p11 := P0.2 11 _ rfl
        go_wp2
        go_ret
        exact ⟨ret_bool (unhide HF).symm, B0⟩
    have HT := hide ((unhide HT).trans (by rw [decide_eq_true c0, Bool.true_and]))
    cases hso : spanOkB x.s
    ·
      have HF := hide (show taskB x k = false by rw [unhide HT, hso]; rfl)
      as_aux_lemma =>
        go_enter Try.func18, Try.ntmps18
        go_upto_region 1 with fail
        generalize World.alloc w _ = w0 at *
        have p0 := P0.2 0 _ rfl
        have p1 := P0.2 1 _ rfl
        have p2 := P0.2 2 _ rfl
        have p3 := P0.2 3 _ rfl
        have p4 := P0.2 4 _ rfl
        have p5 := P0.2 5 _ rfl
        have p6 := P0.2 6 _ rfl
        have p7 := P0.2 7 _ rfl
        have p8 := P0.2 8 _ rfl
        have p9 := P0.2 9 _ rfl
        have p10 := P0.2 10 _ rfl
        have p11 := P0.2 11 _ rfl
        go_wp2_with fail
        have hc := implSpanOkN x.s S0 [.int .i64 x.s.1, .int .i64 x.s.2.1, .int .i64 x.s.2.2.1, .int .i64 x.s.2.2.2.1, .bool x.s.2.2.2.2.1, .slice a x.s.2.2.2.2.2.length c] _ ⟨_, rfl, (unhide HG).keep attrR_keeps B0⟩ hsb
        rw [hso] at hc
        refine hc.mono ?_
        rintro e w1 ⟨rfl, hb⟩
        have P0 := P0.keep hb
        have B0 := bthen B0 hb
        clear hc hb
        clear p0 p1 p2 p3 p4 p5 p6 p7 p8 p9 p10 p11
        have p0 := P0.2 0 _ rfl
        have p1 := P0.2 1 _ rfl
        have p2 := P0.2 2 _ rfl
        have p3 := P0.2 3 _ rfl
        have p4 := P0.2 4 _ rfl
        have p5 := P0.2 5 _ rfl
        have p6 := P0.2 6 _ rfl
        have p7 := P0.2 7 _ rfl
        have p8 := P0.2 8 _ rfl
        have p9 := P0.2 9 _ rfl
        have p10 := P0.2 10 _ rfl
        have p11 := P0.2 11 _ rfl
        go_wp2
        go_ret
        exact ⟨ret_bool (unhide HF).symm, B0⟩
    cases hdr : dropB x
    ·
      have HF := hide (show taskB x k = false by rw [unhide HT, hdr]; simp)
      as_aux_lemma =>
        go_enter Try.func18, Try.ntmps18
        go_upto_region 1 with fail
        generalize World.alloc w _ = w0 at *
        have p0 := P0.2 0 _ rfl
        have p1 := P0.2 1 _ rfl
        have p2 := P0.2 2 _ rfl
        have p3 := P0.2 3 _ rfl
        have p4 := P0.2 4 _ rfl
        have p5 := P0.2 5 _ rfl
        have p6 := P0.2 6 _ rfl
        have p7 := P0.2 7 _ rfl
        have p8 := P0.2 8 _ rfl
        have p9 := P0.2 9 _ rfl
        have p10 := P0.2 10 _ rfl
        have p11 := P0.2 11 _ rfl
        go_wp2_with fail
        have hc := implSpanOkN x.s S0 [.int .i64 x.s.1, .int .i64 x.s.2.1, .int .i64 x.s.2.2.1, .int .i64 x.s.2.2.2.1, .bool x.s.2.2.2.2.1, .slice a x.s.2.2.2.2.2.length c] _ ⟨_, rfl, (unhide HG).keep attrR_keeps B0⟩ hsb
        rw [hso] at hc
        refine hc.mono ?_
        rintro e w1 ⟨rfl, hb⟩
        have P0 := P0.keep hb
        have B0 := bthen B0 hb
        clear hc hb
        clear p0 p1 p2 p3 p4 p5 p6 p7 p8 p9 p10 p11
        have p0 := P0.2 0 _ rfl
        have p1 := P0.2 1 _ rfl
        have p2 := P0.2 2 _ rfl
        have p3 := P0.2 3 _ rfl
        have p4 := P0.2 4 _ rfl
        have p5 := P0.2 5 _ rfl
        have p6 := P0.2 6 _ rfl
        have p7 := P0.2 7 _ rfl
        have p8 := P0.2 8 _ rfl
        have p9 := P0.2 9 _ rfl
        have p10 := P0.2 10 _ rfl
        have p11 := P0.2 11 _ rfl
        go_wp2_with fail
        have hc := implDropOk x S0 [.int .i64 x.op, .int .i64 x.pc, .int .i64 x.s.1, .int .i64 x.s.2.1, .int .i64 x.s.2.2.1, .int .i64 x.s.2.2.2.1, .bool x.s.2.2.2.2.1, .slice a x.s.2.2.2.2.2.length c, .int .i64 x.trace, .int .i64 x.stamp, .slice a2 x.hand.length c2, .int .i64 x.h] _ (taskR_keeps _ _ _ None1 _ _ (Below.turn B0) none_off (unhide HR))
        rw [hdr] at hc
        refine hc.mono ?_
        rintro e w1 ⟨rfl, hb⟩
        have P0 := P0.keep hb
        have B0 := bthen B0 hb
        clear hc hb
        clear p0 p1 p2 p3 p4 p5 p6 p7 p8 p9 p10 p11
        have p0 := P0.2 0 _ rfl
        have p1 := P0.2 1 _ rfl
        have p2 := P0.2 2 _ rfl
        have p3 := P0.2 3 _ rfl
        have p4 := P0.2 4 _ rfl
        have p5 := P0.2 5 _ rfl
        have p6 := P0.2 6 _ rfl
        have p7 := P0.2 7 _ rfl
        have p8 := P0.2 8 _ rfl
        have p9 := P0.2 9 _ rfl
        have p10 := P0.2 10 _ rfl
        have p11 := P0.2 11 _ rfl
        go_wp2
        go_ret
        exact ⟨ret_bool (unhide HF).symm, B0⟩
    have HF := hide (show taskB x k = decide (x.hand.length = 0) by rw [unhide HT, hso, hdr]; rfl)
    as_aux_lemma =>
      go_enter Try.func18, Try.ntmps18
      go_upto_region 1 with fail
      generalize World.alloc w _ = w0 at *
      have p0 := P0.2 0 _ rfl
      have p1 := P0.2 1 _ rfl
      have p2 := P0.2 2 _ rfl
      have p3 := P0.2 3 _ rfl
      have p4 := P0.2 4 _ rfl
      have p5 := P0.2 5 _ rfl
      have p6 := P0.2 6 _ rfl
      have p7 := P0.2 7 _ rfl
      have p8 := P0.2 8 _ rfl
      have p9 := P0.2 9 _ rfl
      have p10 := P0.2 10 _ rfl
      have p11 := P0.2 11 _ rfl
      go_wp2_with fail
      have hc := implSpanOkN x.s S0 [.int .i64 x.s.1, .int .i64 x.s.2.1, .int .i64 x.s.2.2.1, .int .i64 x.s.2.2.2.1, .bool x.s.2.2.2.2.1, .slice a x.s.2.2.2.2.2.length c] _ ⟨_, rfl, (unhide HG).keep attrR_keeps B0⟩ hsb
      rw [hso] at hc
      refine hc.mono ?_
      rintro e w1 ⟨rfl, hb⟩
      have P0 := P0.keep hb
      have B0 := bthen B0 hb
      clear hc hb
      clear p0 p1 p2 p3 p4 p5 p6 p7 p8 p9 p10 p11
      have p0 := P0.2 0 _ rfl
      have p1 := P0.2 1 _ rfl
      have p2 := P0.2 2 _ rfl
      have p3 := P0.2 3 _ rfl
      have p4 := P0.2 4 _ rfl
      have p5 := P0.2 5 _ rfl
      have p6 := P0.2 6 _ rfl
      have p7 := P0.2 7 _ rfl
      have p8 := P0.2 8 _ rfl
      have p9 := P0.2 9 _ rfl
      have p10 := P0.2 10 _ rfl
      have p11 := P0.2 11 _ rfl
      go_wp2_with fail
      have hc := implDropOk x S0 [.int .i64 x.op, .int .i64 x.pc, .int .i64 x.s.1, .int .i64 x.s.2.1, .int .i64 x.s.2.2.1, .int .i64 x.s.2.2.2.1, .bool x.s.2.2.2.2.1, .slice a x.s.2.2.2.2.2.length c, .int .i64 x.trace, .int .i64 x.stamp, .slice a2 x.hand.length c2, .int .i64 x.h] _ (taskR_keeps _ _ _ None1 _ _ (Below.turn B0) none_off (unhide HR))
      rw [hdr] at hc
      refine hc.mono ?_
      rintro e w1 ⟨rfl, hb⟩
      have P0 := P0.keep hb
      have B0 := bthen B0 hb
      clear hc hb
      clear p0 p1 p2 p3 p4 p5 p6 p7 p8 p9 p10 p11
      have p0 := P0.2 0 _ rfl
      have p1 := P0.2 1 _ rfl
      have p2 := P0.2 2 _ rfl
      have p3 := P0.2 3 _ rfl
      have p4 := P0.2 4 _ rfl
      have p5 := P0.2 5 _ rfl
      have p6 := P0.2 6 _ rfl
      have p7 := P0.2 7 _ rfl
      have p8 := P0.2 8 _ rfl
      have p9 := P0.2 9 _ rfl
      have p10 := P0.2 10 _ rfl
      have p11 := P0.2 11 _ rfl
      go_wp2
      go_ret
      exact ⟨ret_bool (by rw [unhide HF]; first | rfl | (rw [Bool.eq_iff_iff]; simp)), B0⟩
  have d1 : (x.op == 1) = false := by simpa using o1
  by_cases o2 : x.op = 2
  ·
    have d2 : (x.op == 2) = true := by simpa using o2
    have HT := hide (taskB_2 (unhide HK) o2)
    clear o2 o1 o0
    by_cases c0 : 3 ≤ k
    case neg =>
      have HF := hide (show taskB x k = false by rw [unhide HT, decide_eq_false c0]; rfl)
      as_aux_lemma =>
        go_enter Try.func18, Try.ntmps18
        go_upto_region 1 with fail
        generalize World.alloc w _ = w0 at *
        have p0 := P0.2 0 _ rfl
        have p1 := P0.2 1 _ rfl
        have p2 := P0.2 2 _ rfl
        have p3 := P0.2 3 _ rfl
        have p4 := P0.2 4 _ rfl
        have p5 := P0.2 5 _ rfl
        have p6 := P0.2 6 _ rfl
        have p7 := P0.2 7 _ rfl
        have p8 := P0.2 8 _ rfl
        have p9 := P0.2 9 _ rfl
        have p10 := P0.2 10 _ rfl
        have p11 := P0.2 11 _ rfl
        go_wp2
        go_ret
        exact ⟨ret_bool (unhide HF).symm, B0⟩
    have HT := hide ((unhide HT).trans (by rw [decide_eq_true c0, Bool.true_and]))
    cases hns : noSpanB x.s
    ·
      have HF := hide (show taskB x k = false by rw [unhide HT, hns]; rfl)
      as_aux_lemma =>
        go_enter Try.func18, Try.ntmps18
        go_upto_region 1 with fail
        generalize World.alloc w _ = w0 at *
        have p0 := P0.2 0 _ rfl
        have p1 := P0.2 1 _ rfl
        have p2 := P0.2 2 _ rfl
        have p3 := P0.2 3 _ rfl
        have p4 := P0.2 4 _ rfl
        have p5 := P0.2 5 _ rfl
        have p6 := P0.2 6 _ rfl
        have p7 := P0.2 7 _ rfl
        have p8 := P0.2 8 _ rfl
        have p9 := P0.2 9 _ rfl
        have p10 := P0.2 10 _ rfl
        have p11 := P0.2 11 _ rfl
        go_wp2_with fail
        have hc := implNoThing x.s S0 [.int .i64 x.s.1, .int .i64 x.s.2.1, .int .i64 x.s.2.2.1, .int .i64 x.s.2.2.2.1, .bool x.s.2.2.2.2.1, .slice a x.s.2.2.2.2.2.length c] _ ⟨_, rfl, (unhide HG).keep attrR_keeps B0⟩
        rw [hns] at hc
        refine hc.mono ?_
        rintro e w1 ⟨rfl, hb⟩
        have P0 := P0.keep hb
        have B0 := bthen B0 hb
        clear hc hb
        clear p0 p1 p2 p3 p4 p5 p6 p7 p8 p9 p10 p11
        have p0 := P0.2 0 _ rfl
        have p1 := P0.2 1 _ rfl
        have p2 := P0.2 2 _ rfl
        have p3 := P0.2 3 _ rfl
        have p4 := P0.2 4 _ rfl
        have p5 := P0.2 5 _ rfl
        have p6 := P0.2 6 _ rfl
        have p7 := P0.2 7 _ rfl
        have p8 := P0.2 8 _ rfl
        have p9 := P0.2 9 _ rfl
        have p10 := P0.2 10 _ rfl
        have p11 := P0.2 11 _ rfl
        go_wp2
        go_ret
        exact ⟨ret_bool (unhide HF).symm, B0⟩
    cases htn : tnB x.trace x.stamp
    ·
      have HF := hide (show taskB x k = false by rw [unhide HT, htn]; simp)
      as_aux_lemma =>
        go_enter Try.func18, Try.ntmps18
        go_upto_region 1 with fail
        generalize World.alloc w _ = w0 at *
        have p0 := P0.2 0 _ rfl
        have p1 := P0.2 1 _ rfl
        have p2 := P0.2 2 _ rfl
        have p3 := P0.2 3 _ rfl
        have p4 := P0.2 4 _ rfl
        have p5 := P0.2 5 _ rfl
        have p6 := P0.2 6 _ rfl
        have p7 := P0.2 7 _ rfl
        have p8 := P0.2 8 _ rfl
        have p9 := P0.2 9 _ rfl
        have p10 := P0.2 10 _ rfl
        have p11 := P0.2 11 _ rfl
        go_wp2_with fail
        have hc := implNoThing x.s S0 [.int .i64 x.s.1, .int .i64 x.s.2.1, .int .i64 x.s.2.2.1, .int .i64 x.s.2.2.2.1, .bool x.s.2.2.2.2.1, .slice a x.s.2.2.2.2.2.length c] _ ⟨_, rfl, (unhide HG).keep attrR_keeps B0⟩
        rw [hns] at hc
        refine hc.mono ?_
        rintro e w1 ⟨rfl, hb⟩
        have P0 := P0.keep hb
        have B0 := bthen B0 hb
        clear hc hb
        clear p0 p1 p2 p3 p4 p5 p6 p7 p8 p9 p10 p11
        have p0 := P0.2 0 _ rfl
        have p1 := P0.2 1 _ rfl
        have p2 := P0.2 2 _ rfl
        have p3 := P0.2 3 _ rfl
        have p4 := P0.2 4 _ rfl
        have p5 := P0.2 5 _ rfl
        have p6 := P0.2 6 _ rfl
        have p7 := P0.2 7 _ rfl
        have p8 := P0.2 8 _ rfl
        have p9 := P0.2 9 _ rfl
        have p10 := P0.2 10 _ rfl
        have p11 := P0.2 11 _ rfl
        go_wp2_with fail
        have hc := implTrailOf x S0 [.int .i64 x.op, .int .i64 x.pc, .int .i64 x.s.1, .int .i64 x.s.2.1, .int .i64 x.s.2.2.1, .int .i64 x.s.2.2.2.1, .bool x.s.2.2.2.2.1, .slice a x.s.2.2.2.2.2.length c, .int .i64 x.trace, .int .i64 x.stamp, .slice a2 x.hand.length c2, .int .i64 x.h] _ (taskR_keeps _ _ _ None1 _ _ (Below.turn B0) none_off (unhide HR))
        refine hc.mono ?_
        rintro e w1 ⟨rfl, hb⟩
        have P0 := P0.keep hb
        have B0 := bthen B0 hb
        clear hc hb
        clear p0 p1 p2 p3 p4 p5 p6 p7 p8 p9 p10 p11
        have p0 := P0.2 0 _ rfl
        have p1 := P0.2 1 _ rfl
        have p2 := P0.2 2 _ rfl
        have p3 := P0.2 3 _ rfl
        have p4 := P0.2 4 _ rfl
        have p5 := P0.2 5 _ rfl
        have p6 := P0.2 6 _ rfl
        have p7 := P0.2 7 _ rfl
        have p8 := P0.2 8 _ rfl
        have p9 := P0.2 9 _ rfl
        have p10 := P0.2 10 _ rfl
        have p11 := P0.2 11 _ rfl
        go_wp2_with fail
        have hc := implRight x.trace x.stamp w1
        rw [htn] at hc
        refine hc.mono ?_
        rintro e w1 ⟨rfl, hb⟩
        have P0 := P0.keep hb
        have B0 := bthen B0 hb
        clear hc hb
        clear p0 p1 p2 p3 p4 p5 p6 p7 p8 p9 p10 p11
        have p0 := P0.2 0 _ rfl
        have p1 := P0.2 1 _ rfl
        have p2 := P0.2 2 _ rfl
        have p3 := P0.2 3 _ rfl
        have p4 := P0.2 4 _ rfl
        have p5 := P0.2 5 _ rfl
        have p6 := P0.2 6 _ rfl
        have p7 := P0.2 7 _ rfl
        have p8 := P0.2 8 _ rfl
        have p9 := P0.2 9 _ rfl
        have p10 := P0.2 10 _ rfl
        have p11 := P0.2 11 _ rfl
        go_wp2
        go_ret
        exact ⟨ret_bool (unhide HF).symm, B0⟩
    have HF := hide (show taskB x k = handB x by rw [unhide HT, hns, htn]; rfl)
    as_aux_lemma =>
      go_enter Try.func18, Try.ntmps18
      go_upto_region 1 with fail
      generalize World.alloc w _ = w0 at *
      have p0 := P0.2 0 _ rfl
      have p1 := P0.2 1 _ rfl
      have p2 := P0.2 2 _ rfl
      have p3 := P0.2 3 _ rfl
      have p4 := P0.2 4 _ rfl
      have p5 := P0.2 5 _ rfl
      have p6 := P0.2 6 _ rfl
      have p7 := P0.2 7 _ rfl
      have p8 := P0.2 8 _ rfl
      have p9 := P0.2 9 _ rfl
      have p10 := P0.2 10 _ rfl
      have p11 := P0.2 11 _ rfl
      go_wp2_with fail
      have hc := implNoThing x.s S0 [.int .i64 x.s.1, .int .i64 x.s.2.1, .int .i64 x.s.2.2.1, .int .i64 x.s.2.2.2.1, .bool x.s.2.2.2.2.1, .slice a x.s.2.2.2.2.2.length c] _ ⟨_, rfl, (unhide HG).keep attrR_keeps B0⟩
      rw [hns] at hc
      refine hc.mono ?_
      rintro e w1 ⟨rfl, hb⟩
      have P0 := P0.keep hb
      have B0 := bthen B0 hb
      clear hc hb
      clear p0 p1 p2 p3 p4 p5 p6 p7 p8 p9 p10 p11
      have p0 := P0.2 0 _ rfl
      have p1 := P0.2 1 _ rfl
      have p2 := P0.2 2 _ rfl
      have p3 := P0.2 3 _ rfl
      have p4 := P0.2 4 _ rfl
      have p5 := P0.2 5 _ rfl
      have p6 := P0.2 6 _ rfl
      have p7 := P0.2 7 _ rfl
      have p8 := P0.2 8 _ rfl
      have p9 := P0.2 9 _ rfl
      have p10 := P0.2 10 _ rfl
      have p11 := P0.2 11 _ rfl
      go_wp2_with fail
      have hc := implTrailOf x S0 [.int .i64 x.op, .int .i64 x.pc, .int .i64 x.s.1, .int .i64 x.s.2.1, .int .i64 x.s.2.2.1, .int .i64 x.s.2.2.2.1, .bool x.s.2.2.2.2.1, .slice a x.s.2.2.2.2.2.length c, .int .i64 x.trace, .int .i64 x.stamp, .slice a2 x.hand.length c2, .int .i64 x.h] _ (taskR_keeps _ _ _ None1 _ _ (Below.turn B0) none_off (unhide HR))
      refine hc.mono ?_
      rintro e w1 ⟨rfl, hb⟩
      have P0 := P0.keep hb
      have B0 := bthen B0 hb
      clear hc hb
      clear p0 p1 p2 p3 p4 p5 p6 p7 p8 p9 p10 p11
      have p0 := P0.2 0 _ rfl
      have p1 := P0.2 1 _ rfl
      have p2 := P0.2 2 _ rfl
      have p3 := P0.2 3 _ rfl
      have p4 := P0.2 4 _ rfl
      have p5 := P0.2 5 _ rfl
      have p6 := P0.2 6 _ rfl
      have p7 := P0.2 7 _ rfl
      have p8 := P0.2 8 _ rfl
      have p9 := P0.2 9 _ rfl
      have p10 := P0.2 10 _ rfl
      have p11 := P0.2 11 _ rfl
      go_wp2_with fail
      have hc := implRight x.trace x.stamp w1
      rw [htn] at hc
      refine hc.mono ?_
      rintro e w1 ⟨rfl, hb⟩
      have P0 := P0.keep hb
      have B0 := bthen B0 hb
      clear hc hb
      clear p0 p1 p2 p3 p4 p5 p6 p7 p8 p9 p10 p11
      have p0 := P0.2 0 _ rfl
      have p1 := P0.2 1 _ rfl
      have p2 := P0.2 2 _ rfl
      have p3 := P0.2 3 _ rfl
      have p4 := P0.2 4 _ rfl
      have p5 := P0.2 5 _ rfl
      have p6 := P0.2 6 _ rfl
      have p7 := P0.2 7 _ rfl
      have p8 := P0.2 8 _ rfl
      have p9 := P0.2 9 _ rfl
      have p10 := P0.2 10 _ rfl
      have p11 := P0.2 11 _ rfl
      go_wp2_with fail
      have hc := implHandOk x S0 [.int .i64 x.op, .int .i64 x.pc, .int .i64 x.s.1, .int .i64 x.s.2.1, .int .i64 x.s.2.2.1, .int .i64 x.s.2.2.2.1, .bool x.s.2.2.2.2.1, .slice a x.s.2.2.2.2.2.length c, .int .i64 x.trace, .int .i64 x.stamp, .slice a2 x.hand.length c2, .int .i64 x.h] _ (taskR_keeps _ _ _ None1 _ _ (Below.turn B0) none_off (unhide HR)) b0
      refine hc.mono ?_
      rintro e w1 ⟨rfl, hb⟩
      have P0 := P0.keep hb
      have B0 := bthen B0 hb
      clear hc hb
      clear p0 p1 p2 p3 p4 p5 p6 p7 p8 p9 p10 p11
      have p0 := P0.2 0 _ rfl
      have p1 := P0.2 1 _ rfl
      have p2 := P0.2 2 _ rfl
      have p3 := P0.2 3 _ rfl
      have p4 := P0.2 4 _ rfl
      have p5 := P0.2 5 _ rfl
      have p6 := P0.2 6 _ rfl
      have p7 := P0.2 7 _ rfl
      have p8 := P0.2 8 _ rfl
      have p9 := P0.2 9 _ rfl
      have p10 := P0.2 10 _ rfl
      have p11 := P0.2 11 _ rfl
      go_wp2
      go_ret
      exact ⟨ret_bool (unhide HF).symm, B0⟩
  have d2 : (x.op == 2) = false := by simpa using o2
  have HF := hide (show taskB x k = false by exact taskB_n o0 o1 o2)
  as_aux_lemma =>
    go_enter Try.func18, Try.ntmps18
    go_upto_region 1 with fail
    generalize World.alloc w _ = w0 at *
    have p0 := P0.2 0 _ rfl
    have p1 := P0.2 1 _ rfl
    have p2 := P0.2 2 _ rfl
    have p3 := P0.2 3 _ rfl
    have p4 := P0.2 4 _ rfl
    have p5 := P0.2 5 _ rfl
    have p6 := P0.2 6 _ rfl
    have p7 := P0.2 7 _ rfl
    have p8 := P0.2 8 _ rfl
    have p9 := P0.2 9 _ rfl
    have p10 := P0.2 10 _ rfl
    have p11 := P0.2 11 _ rfl
    go_wp2
    go_ret
    exact ⟨ret_bool (unhide HF).symm, B0⟩
end Go.Proofs.Ytklhljknkcmecac
