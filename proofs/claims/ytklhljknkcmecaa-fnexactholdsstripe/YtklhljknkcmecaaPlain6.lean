/-
  Contracts of SameTrail, HoldsStripe and SameItem, of the program and of the specification.
-/
import Derived.Test.YtklhljknkcmecaaPlain3b
namespace Go.Proofs.Ytklhljknkcmecaa
open Go.ChangeShapes Go.WideShapes Go.ChangeAt Go.RowKit
set_option linter.unusedVariables false
set_option maxRecDepth 100000

set_option maxHeartbeats 1000000 in
theorem implSameTrail (x y : TrailD) (S0 : Nat → Prop) (c0 : List Value) (S1 : Nat → Prop) (c1 : List Value) (w : World) (h0 : trailR w S0 c0 x) (b0 : trailBulk x ≤ 1048576) (h1 : trailR w S1 c1 y) (b1 : trailBulk y ≤ 1048576) :
    Calls Try.prog 42 #[.agg c0.toArray, .agg c1.toArray] w fun e w' => e = .returned (.bool (sameTB x y)) ∧ Below w.heap.size w w' := by
    have HR := hide h0
    have HS := hide h1
    have P0 := (Held.new w c0 29).keep (bnew _ (.cells c1.toArray 29))
    have P1 := Held.new (w.alloc (.cells c0.toArray 29)) c1 29
    rw [show (w.alloc (.cells c0.toArray 29)).heap.size = w.heap.size + 1 by simp] at P1
    have B0 := bthen (bnew w (.cells c0.toArray 29)) (bnew _ (.cells c1.toArray 29))
    obtain ⟨a, k, z3, g⟩ := trailR_c3 h0
    obtain ⟨a', k', z3', g'⟩ := trailR_c3 h1
    have HQ := hide z3
    have HQ2 := hide z3'
    have HG := hide g
    have HG2 := hide g'
    clear z3 z3' g g' h0 h1
    by_cases e0 : x.id = y.id
    case neg =>
      have n0 : (x.id == y.id) = false := by simpa using e0
      go_enter Try.func42, Try.ntmps42
      go_upto_region 1 with fail
      generalize World.alloc (World.alloc w _) _ = w0 at *
      have p0 := P0.2 0 _ (trailR_c0 (unhide HR))
      have p1 := P0.2 1 _ (trailR_c1 (unhide HR))
      have p2 := P0.2 2 _ (trailR_c2 (unhide HR))
      have p3 := P0.2 3 _ (unhide HQ)
      have q0 := P1.2 0 _ (trailR_c0 (unhide HS))
      have q1 := P1.2 1 _ (trailR_c1 (unhide HS))
      have q2 := P1.2 2 _ (trailR_c2 (unhide HS))
      have q3 := P1.2 3 _ (unhide HQ2)
      go_wp2
      go_ret
      exact ⟨ret_bool (by simp [sameTB, e0]), B0⟩
    have n0 : (x.id == y.id) = true := by simpa using e0
    have E0 := hide e0
    clear e0
    by_cases e1 : x.stamp = y.stamp
    case neg =>
      have n1 : (x.stamp == y.stamp) = false := by simpa using e1
      go_enter Try.func42, Try.ntmps42
      go_upto_region 1 with fail
      generalize World.alloc (World.alloc w _) _ = w0 at *
      have p0 := P0.2 0 _ (trailR_c0 (unhide HR))
      have p1 := P0.2 1 _ (trailR_c1 (unhide HR))
      have p2 := P0.2 2 _ (trailR_c2 (unhide HR))
      have p3 := P0.2 3 _ (unhide HQ)
      have q0 := P1.2 0 _ (trailR_c0 (unhide HS))
      have q1 := P1.2 1 _ (trailR_c1 (unhide HS))
      have q2 := P1.2 2 _ (trailR_c2 (unhide HS))
      have q3 := P1.2 3 _ (unhide HQ2)
      go_wp2
      go_ret
      exact ⟨ret_bool (by simp [sameTB, e1]), B0⟩
    have n1 : (x.stamp == y.stamp) = true := by simpa using e1
    have E1 := hide e1
    clear e1
    by_cases e2 : x.first = y.first
    case neg =>
      have n2 : (x.first == y.first) = false := by simpa using e2
      go_enter Try.func42, Try.ntmps42
      go_upto_region 1 with fail
      generalize World.alloc (World.alloc w _) _ = w0 at *
      have p0 := P0.2 0 _ (trailR_c0 (unhide HR))
      have p1 := P0.2 1 _ (trailR_c1 (unhide HR))
      have p2 := P0.2 2 _ (trailR_c2 (unhide HR))
      have p3 := P0.2 3 _ (unhide HQ)
      have q0 := P1.2 0 _ (trailR_c0 (unhide HS))
      have q1 := P1.2 1 _ (trailR_c1 (unhide HS))
      have q2 := P1.2 2 _ (trailR_c2 (unhide HS))
      have q3 := P1.2 3 _ (unhide HQ2)
      go_wp2
      go_ret
      exact ⟨ret_bool (by simp [sameTB, e2]), B0⟩
    have n2 : (x.first == y.first) = true := by simpa using e2
    have E2 := hide e2
    clear e2
    go_enter Try.func42, Try.ntmps42
    go_upto_region 1 with fail
    generalize World.alloc (World.alloc w _) _ = w0 at *
    have p0 := P0.2 0 _ (trailR_c0 (unhide HR))
    have p1 := P0.2 1 _ (trailR_c1 (unhide HR))
    have p2 := P0.2 2 _ (trailR_c2 (unhide HR))
    have p3 := P0.2 3 _ (unhide HQ)
    have q0 := P1.2 0 _ (trailR_c0 (unhide HS))
    have q1 := P1.2 1 _ (trailR_c1 (unhide HS))
    have q2 := P1.2 2 _ (trailR_c2 (unhide HS))
    have q3 := P1.2 3 _ (unhide HQ2)
    go_wp2_with fail
    refine (implEqSpans x.spans y.spans S0 S1 _ _ _ ((unhide HG).keep spanR_keeps B0) ((unhide HG2).keep spanR_keeps B0) b0 b1).mono ?_
    rintro e w1 ⟨rfl, hb1⟩
    go_wp2
    go_ret
    exact ⟨ret_bool (by rw [sameTB, decide_eq_true (unhide E0), decide_eq_true (unhide E1), decide_eq_true (unhide E2)]; rfl), bthen B0 hb1⟩
set_option maxHeartbeats 1000000 in
theorem specSameTrail (x y : TrailD) (S0 : Nat → Prop) (c0 : List Value) (S1 : Nat → Prop) (c1 : List Value) (w : World) (h0 : trailR w S0 c0 x) (b0 : trailBulk x ≤ 1048576) (h1 : trailR w S1 c1 y) (b1 : trailBulk y ≤ 1048576) :
    Calls Try.prog 41 #[.agg c0.toArray, .agg c1.toArray] w fun e w' => e = .returned (.bool (sameTB x y)) ∧ Below w.heap.size w w' := by
    have HR := hide h0
    have HS := hide h1
    have P0 := (Held.new w c0 29).keep (bnew _ (.cells c1.toArray 29))
    have P1 := Held.new (w.alloc (.cells c0.toArray 29)) c1 29
    rw [show (w.alloc (.cells c0.toArray 29)).heap.size = w.heap.size + 1 by simp] at P1
    have B0 := bthen (bnew w (.cells c0.toArray 29)) (bnew _ (.cells c1.toArray 29))
    obtain ⟨a, k, z3, g⟩ := trailR_c3 h0
    obtain ⟨a', k', z3', g'⟩ := trailR_c3 h1
    have HQ := hide z3
    have HQ2 := hide z3'
    have HG := hide g
    have HG2 := hide g'
    clear z3 z3' g g' h0 h1
    by_cases e0 : x.id = y.id
    case neg =>
      have n0 : (x.id == y.id) = false := by simpa using e0
      go_enter Try.func41, Try.ntmps41
      go_upto_region 1 with fail
      generalize World.alloc (World.alloc w _) _ = w0 at *
      have p0 := P0.2 0 _ (trailR_c0 (unhide HR))
      have p1 := P0.2 1 _ (trailR_c1 (unhide HR))
      have p2 := P0.2 2 _ (trailR_c2 (unhide HR))
      have p3 := P0.2 3 _ (unhide HQ)
      have q0 := P1.2 0 _ (trailR_c0 (unhide HS))
      have q1 := P1.2 1 _ (trailR_c1 (unhide HS))
      have q2 := P1.2 2 _ (trailR_c2 (unhide HS))
      have q3 := P1.2 3 _ (unhide HQ2)
      go_wp2
      go_ret
      exact ⟨ret_bool (by simp [sameTB, e0]), B0⟩
    have n0 : (x.id == y.id) = true := by simpa using e0
    have E0 := hide e0
    clear e0
    by_cases e1 : x.stamp = y.stamp
    case neg =>
      have n1 : (x.stamp == y.stamp) = false := by simpa using e1
      go_enter Try.func41, Try.ntmps41
      go_upto_region 1 with fail
      generalize World.alloc (World.alloc w _) _ = w0 at *
      have p0 := P0.2 0 _ (trailR_c0 (unhide HR))
      have p1 := P0.2 1 _ (trailR_c1 (unhide HR))
      have p2 := P0.2 2 _ (trailR_c2 (unhide HR))
      have p3 := P0.2 3 _ (unhide HQ)
      have q0 := P1.2 0 _ (trailR_c0 (unhide HS))
      have q1 := P1.2 1 _ (trailR_c1 (unhide HS))
      have q2 := P1.2 2 _ (trailR_c2 (unhide HS))
      have q3 := P1.2 3 _ (unhide HQ2)
      go_wp2
      go_ret
      exact ⟨ret_bool (by simp [sameTB, e1]), B0⟩
    have n1 : (x.stamp == y.stamp) = true := by simpa using e1
    have E1 := hide e1
    clear e1
    by_cases e2 : x.first = y.first
    case neg =>
      have n2 : (x.first == y.first) = false := by simpa using e2
      go_enter Try.func41, Try.ntmps41
      go_upto_region 1 with fail
      generalize World.alloc (World.alloc w _) _ = w0 at *
      have p0 := P0.2 0 _ (trailR_c0 (unhide HR))
      have p1 := P0.2 1 _ (trailR_c1 (unhide HR))
      have p2 := P0.2 2 _ (trailR_c2 (unhide HR))
      have p3 := P0.2 3 _ (unhide HQ)
      have q0 := P1.2 0 _ (trailR_c0 (unhide HS))
      have q1 := P1.2 1 _ (trailR_c1 (unhide HS))
      have q2 := P1.2 2 _ (trailR_c2 (unhide HS))
      have q3 := P1.2 3 _ (unhide HQ2)
      go_wp2
      go_ret
      exact ⟨ret_bool (by simp [sameTB, e2]), B0⟩
    have n2 : (x.first == y.first) = true := by simpa using e2
    have E2 := hide e2
    clear e2
    go_enter Try.func41, Try.ntmps41
    go_upto_region 1 with fail
    generalize World.alloc (World.alloc w _) _ = w0 at *
    have p0 := P0.2 0 _ (trailR_c0 (unhide HR))
    have p1 := P0.2 1 _ (trailR_c1 (unhide HR))
    have p2 := P0.2 2 _ (trailR_c2 (unhide HR))
    have p3 := P0.2 3 _ (unhide HQ)
    have q0 := P1.2 0 _ (trailR_c0 (unhide HS))
    have q1 := P1.2 1 _ (trailR_c1 (unhide HS))
    have q2 := P1.2 2 _ (trailR_c2 (unhide HS))
    have q3 := P1.2 3 _ (unhide HQ2)
    go_wp2_with fail
    refine (specEqSpans x.spans y.spans S0 S1 _ _ _ ((unhide HG).keep spanR_keeps B0) ((unhide HG2).keep spanR_keeps B0) b0 b1).mono ?_
    rintro e w1 ⟨rfl, hb1⟩
    go_wp2
    go_ret
    exact ⟨ret_bool (by rw [sameTB, decide_eq_true (unhide E0), decide_eq_true (unhide E1), decide_eq_true (unhide E2)]; rfl), bthen B0 hb1⟩

def stripeV (x : TaskD) (n : Int) : Int := if n < 1 then -1 else if x.op = 1 ∧ x.pc = 1 then stripev x.s.1 n else if (x.op = 1 ∧ x.pc = 3) ∨ (x.op = 2 ∧ (x.pc = 1 ∨ x.pc = 2)) then stripev x.trace n else -1
set_option maxHeartbeats 2000000 in
theorem specHoldsStripe (x : TaskD) (n : Int) (S0 : Nat → Prop) (c0 : List Value) (w : World) (h0 : taskR w S0 c0 x) (b0 : taskBulk x ≤ 1048576) :
    Calls Try.prog 32 #[.agg c0.toArray, .int .i64 n] w fun e w' => e = .returned (.int .i64 (stripeV x n)) ∧ Below w.heap.size w w' := by
    have HR := hide h0
    have P0 := Held.new w c0 55
    have B0 := bnew w (.cells c0.toArray 55)
    clear h0
    by_cases hn : n < 1
    ·
      have HF := hide (show stripeV x n = -1 by rw [stripeV, if_pos hn])
      go_enter Try.func32, Try.ntmps32
      go_upto_region 1 with fail
      generalize World.alloc w _ = w0 at *
      have p0 := P0.2 0 _ (taskR_c0 (unhide HR))
      have p1 := P0.2 1 _ (taskR_c1 (unhide HR))
      have p2 := P0.2 2 _ (taskR_c2 (unhide HR))
      have p8 := P0.2 8 _ (taskR_c8 (unhide HR))
      go_wp2_with (first | (go_at_call 67; refine (specStripeOf _ _ _).mono ?_; rintro e w' ⟨rfl, rfl⟩))
      go_ret
      exact ⟨by rw [unhide HF]; rfl, B0⟩
    by_cases o1 : x.op = 1
    ·
      have d1 : (x.op == 1) = true := by simpa using o1
      have d2 : (x.op == 2) = false := by simp [o1]
      by_cases c1 : x.pc = 1
      ·
        have HF := hide (show stripeV x n = stripev x.s.1 n by rw [stripeV, if_neg hn, if_pos ⟨o1, c1⟩])
        have d3 : (x.pc == 1) = true := by simpa using c1
        clear o1 c1
        go_enter Try.func32, Try.ntmps32
        go_upto_region 1 with fail
        generalize World.alloc w _ = w0 at *
        have p0 := P0.2 0 _ (taskR_c0 (unhide HR))
        have p1 := P0.2 1 _ (taskR_c1 (unhide HR))
        have p2 := P0.2 2 _ (taskR_c2 (unhide HR))
        have p8 := P0.2 8 _ (taskR_c8 (unhide HR))
        go_wp2_with (first | (go_at_call 67; refine (specStripeOf _ _ _).mono ?_; rintro e w' ⟨rfl, rfl⟩))
        go_ret
        exact ⟨by rw [unhide HF]; rfl, B0⟩
      have d3 : (x.pc == 1) = false := by simpa using c1
      by_cases c3 : x.pc = 3
      ·
        have HF := hide (show stripeV x n = stripev x.trace n by rw [stripeV, if_neg hn, if_neg (fun h => c1 h.2), if_pos (.inl ⟨o1, c3⟩)])
        have d4 : (x.pc == 3) = true := by simpa using c3
        clear o1 c1 c3
        go_enter Try.func32, Try.ntmps32
        go_upto_region 1 with fail
        generalize World.alloc w _ = w0 at *
        have p0 := P0.2 0 _ (taskR_c0 (unhide HR))
        have p1 := P0.2 1 _ (taskR_c1 (unhide HR))
        have p2 := P0.2 2 _ (taskR_c2 (unhide HR))
        have p8 := P0.2 8 _ (taskR_c8 (unhide HR))
        go_wp2_with (first | (go_at_call 67; refine (specStripeOf _ _ _).mono ?_; rintro e w' ⟨rfl, rfl⟩))
        go_ret
        exact ⟨by rw [unhide HF]; rfl, B0⟩
      ·
        have HF := hide (show stripeV x n = -1 by rw [stripeV, if_neg hn, if_neg (fun h => c1 h.2), if_neg (by omega)])
        have d4 : (x.pc == 3) = false := by simpa using c3
        clear o1 c1 c3
        go_enter Try.func32, Try.ntmps32
        go_upto_region 1 with fail
        generalize World.alloc w _ = w0 at *
        have p0 := P0.2 0 _ (taskR_c0 (unhide HR))
        have p1 := P0.2 1 _ (taskR_c1 (unhide HR))
        have p2 := P0.2 2 _ (taskR_c2 (unhide HR))
        have p8 := P0.2 8 _ (taskR_c8 (unhide HR))
        go_wp2_with (first | (go_at_call 67; refine (specStripeOf _ _ _).mono ?_; rintro e w' ⟨rfl, rfl⟩))
        go_ret
        exact ⟨by rw [unhide HF]; rfl, B0⟩
    have d1 : (x.op == 1) = false := by simpa using o1
    by_cases o2 : x.op = 2
    ·
      have d2 : (x.op == 2) = true := by simpa using o2
      by_cases c1 : x.pc = 1
      ·
        have HF := hide (show stripeV x n = stripev x.trace n by rw [stripeV, if_neg hn, if_neg (fun h => o1 h.1), if_pos (.inr ⟨o2, .inl c1⟩)])
        have d3 : (x.pc == 1) = true := by simpa using c1
        clear o1 o2 c1
        go_enter Try.func32, Try.ntmps32
        go_upto_region 1 with fail
        generalize World.alloc w _ = w0 at *
        have p0 := P0.2 0 _ (taskR_c0 (unhide HR))
        have p1 := P0.2 1 _ (taskR_c1 (unhide HR))
        have p2 := P0.2 2 _ (taskR_c2 (unhide HR))
        have p8 := P0.2 8 _ (taskR_c8 (unhide HR))
        go_wp2_with (first | (go_at_call 67; refine (specStripeOf _ _ _).mono ?_; rintro e w' ⟨rfl, rfl⟩))
        go_ret
        exact ⟨by rw [unhide HF]; rfl, B0⟩
      have d3 : (x.pc == 1) = false := by simpa using c1
      by_cases c2 : x.pc = 2
      ·
        have HF := hide (show stripeV x n = stripev x.trace n by rw [stripeV, if_neg hn, if_neg (fun h => o1 h.1), if_pos (.inr ⟨o2, .inr c2⟩)])
        have d4 : (x.pc == 2) = true := by simpa using c2
        clear o1 o2 c1 c2
        go_enter Try.func32, Try.ntmps32
        go_upto_region 1 with fail
        generalize World.alloc w _ = w0 at *
        have p0 := P0.2 0 _ (taskR_c0 (unhide HR))
        have p1 := P0.2 1 _ (taskR_c1 (unhide HR))
        have p2 := P0.2 2 _ (taskR_c2 (unhide HR))
        have p8 := P0.2 8 _ (taskR_c8 (unhide HR))
        go_wp2_with (first | (go_at_call 67; refine (specStripeOf _ _ _).mono ?_; rintro e w' ⟨rfl, rfl⟩))
        go_ret
        exact ⟨by rw [unhide HF]; rfl, B0⟩
      ·
        have HF := hide (show stripeV x n = -1 by rw [stripeV, if_neg hn, if_neg (fun h => o1 h.1), if_neg (by omega)])
        have d4 : (x.pc == 2) = false := by simpa using c2
        clear o1 o2 c1 c2
        go_enter Try.func32, Try.ntmps32
        go_upto_region 1 with fail
        generalize World.alloc w _ = w0 at *
        have p0 := P0.2 0 _ (taskR_c0 (unhide HR))
        have p1 := P0.2 1 _ (taskR_c1 (unhide HR))
        have p2 := P0.2 2 _ (taskR_c2 (unhide HR))
        have p8 := P0.2 8 _ (taskR_c8 (unhide HR))
        go_wp2_with (first | (go_at_call 67; refine (specStripeOf _ _ _).mono ?_; rintro e w' ⟨rfl, rfl⟩))
        go_ret
        exact ⟨by rw [unhide HF]; rfl, B0⟩
    have HF := hide (show stripeV x n = -1 by rw [stripeV, if_neg hn, if_neg (fun h => o1 h.1), if_neg (by omega)])
    have d2 : (x.op == 2) = false := by simpa using o2
    clear o1 o2
    go_enter Try.func32, Try.ntmps32
    go_upto_region 1 with fail
    generalize World.alloc w _ = w0 at *
    have p0 := P0.2 0 _ (taskR_c0 (unhide HR))
    have p1 := P0.2 1 _ (taskR_c1 (unhide HR))
    have p2 := P0.2 2 _ (taskR_c2 (unhide HR))
    have p8 := P0.2 8 _ (taskR_c8 (unhide HR))
    go_wp2_with (first | (go_at_call 67; refine (specStripeOf _ _ _).mono ?_; rintro e w' ⟨rfl, rfl⟩))
    go_ret
    exact ⟨by rw [unhide HF]; rfl, B0⟩
set_option maxHeartbeats 2000000 in
theorem implHoldsStripe (x : TaskD) (n : Int) (S0 : Nat → Prop) (c0 : List Value) (w : World) (h0 : taskR w S0 c0 x) (b0 : taskBulk x ≤ 1048576) :
    Calls Try.prog 33 #[.agg c0.toArray, .int .i64 n] w fun e w' => e = .returned (.int .i64 (stripeV x n)) ∧ Below w.heap.size w w' := by
    have HR := hide h0
    have P0 := Held.new w c0 55
    have B0 := bnew w (.cells c0.toArray 55)
    clear h0
    by_cases hn : n < 1
    ·
      have HF := hide (show stripeV x n = -1 by rw [stripeV, if_pos hn])
      go_enter Try.func33, Try.ntmps33
      go_upto_region 1 with fail
      generalize World.alloc w _ = w0 at *
      have p0 := P0.2 0 _ (taskR_c0 (unhide HR))
      have p1 := P0.2 1 _ (taskR_c1 (unhide HR))
      have p2 := P0.2 2 _ (taskR_c2 (unhide HR))
      have p8 := P0.2 8 _ (taskR_c8 (unhide HR))
      go_wp2_with (first | (go_at_call 68; refine (implStripeOf _ _ _).mono ?_; rintro e w' ⟨rfl, rfl⟩))
      go_ret
      exact ⟨by rw [unhide HF]; rfl, B0⟩
    by_cases o1 : x.op = 1
    ·
      have d1 : (x.op == 1) = true := by simpa using o1
      have d2 : (x.op == 2) = false := by simp [o1]
      by_cases c1 : x.pc = 1
      ·
        have HF := hide (show stripeV x n = stripev x.s.1 n by rw [stripeV, if_neg hn, if_pos ⟨o1, c1⟩])
        have d3 : (x.pc == 1) = true := by simpa using c1
        clear o1 c1
        go_enter Try.func33, Try.ntmps33
        go_upto_region 1 with fail
        generalize World.alloc w _ = w0 at *
        have p0 := P0.2 0 _ (taskR_c0 (unhide HR))
        have p1 := P0.2 1 _ (taskR_c1 (unhide HR))
        have p2 := P0.2 2 _ (taskR_c2 (unhide HR))
        have p8 := P0.2 8 _ (taskR_c8 (unhide HR))
        go_wp2_with (first | (go_at_call 68; refine (implStripeOf _ _ _).mono ?_; rintro e w' ⟨rfl, rfl⟩))
        go_ret
        exact ⟨by rw [unhide HF]; rfl, B0⟩
      have d3 : (x.pc == 1) = false := by simpa using c1
      by_cases c3 : x.pc = 3
      ·
        have HF := hide (show stripeV x n = stripev x.trace n by rw [stripeV, if_neg hn, if_neg (fun h => c1 h.2), if_pos (.inl ⟨o1, c3⟩)])
        have d4 : (x.pc == 3) = true := by simpa using c3
        clear o1 c1 c3
        go_enter Try.func33, Try.ntmps33
        go_upto_region 1 with fail
        generalize World.alloc w _ = w0 at *
        have p0 := P0.2 0 _ (taskR_c0 (unhide HR))
        have p1 := P0.2 1 _ (taskR_c1 (unhide HR))
        have p2 := P0.2 2 _ (taskR_c2 (unhide HR))
        have p8 := P0.2 8 _ (taskR_c8 (unhide HR))
        go_wp2_with (first | (go_at_call 68; refine (implStripeOf _ _ _).mono ?_; rintro e w' ⟨rfl, rfl⟩))
        go_ret
        exact ⟨by rw [unhide HF]; rfl, B0⟩
      ·
        have HF := hide (show stripeV x n = -1 by rw [stripeV, if_neg hn, if_neg (fun h => c1 h.2), if_neg (by omega)])
        have d4 : (x.pc == 3) = false := by simpa using c3
        clear o1 c1 c3
        go_enter Try.func33, Try.ntmps33
        go_upto_region 1 with fail
        generalize World.alloc w _ = w0 at *
        have p0 := P0.2 0 _ (taskR_c0 (unhide HR))
        have p1 := P0.2 1 _ (taskR_c1 (unhide HR))
        have p2 := P0.2 2 _ (taskR_c2 (unhide HR))
        have p8 := P0.2 8 _ (taskR_c8 (unhide HR))
        go_wp2_with (first | (go_at_call 68; refine (implStripeOf _ _ _).mono ?_; rintro e w' ⟨rfl, rfl⟩))
        go_ret
        exact ⟨by rw [unhide HF]; rfl, B0⟩
    have d1 : (x.op == 1) = false := by simpa using o1
    by_cases o2 : x.op = 2
    ·
      have d2 : (x.op == 2) = true := by simpa using o2
      by_cases c1 : x.pc = 1
      ·
        have HF := hide (show stripeV x n = stripev x.trace n by rw [stripeV, if_neg hn, if_neg (fun h => o1 h.1), if_pos (.inr ⟨o2, .inl c1⟩)])
        have d3 : (x.pc == 1) = true := by simpa using c1
        clear o1 o2 c1
        go_enter Try.func33, Try.ntmps33
        go_upto_region 1 with fail
        generalize World.alloc w _ = w0 at *
        have p0 := P0.2 0 _ (taskR_c0 (unhide HR))
        have p1 := P0.2 1 _ (taskR_c1 (unhide HR))
        have p2 := P0.2 2 _ (taskR_c2 (unhide HR))
        have p8 := P0.2 8 _ (taskR_c8 (unhide HR))
        go_wp2_with (first | (go_at_call 68; refine (implStripeOf _ _ _).mono ?_; rintro e w' ⟨rfl, rfl⟩))
        go_ret
        exact ⟨by rw [unhide HF]; rfl, B0⟩
      have d3 : (x.pc == 1) = false := by simpa using c1
      by_cases c2 : x.pc = 2
      ·
        have HF := hide (show stripeV x n = stripev x.trace n by rw [stripeV, if_neg hn, if_neg (fun h => o1 h.1), if_pos (.inr ⟨o2, .inr c2⟩)])
        have d4 : (x.pc == 2) = true := by simpa using c2
        clear o1 o2 c1 c2
        go_enter Try.func33, Try.ntmps33
        go_upto_region 1 with fail
        generalize World.alloc w _ = w0 at *
        have p0 := P0.2 0 _ (taskR_c0 (unhide HR))
        have p1 := P0.2 1 _ (taskR_c1 (unhide HR))
        have p2 := P0.2 2 _ (taskR_c2 (unhide HR))
        have p8 := P0.2 8 _ (taskR_c8 (unhide HR))
        go_wp2_with (first | (go_at_call 68; refine (implStripeOf _ _ _).mono ?_; rintro e w' ⟨rfl, rfl⟩))
        go_ret
        exact ⟨by rw [unhide HF]; rfl, B0⟩
      ·
        have HF := hide (show stripeV x n = -1 by rw [stripeV, if_neg hn, if_neg (fun h => o1 h.1), if_neg (by omega)])
        have d4 : (x.pc == 2) = false := by simpa using c2
        clear o1 o2 c1 c2
        go_enter Try.func33, Try.ntmps33
        go_upto_region 1 with fail
        generalize World.alloc w _ = w0 at *
        have p0 := P0.2 0 _ (taskR_c0 (unhide HR))
        have p1 := P0.2 1 _ (taskR_c1 (unhide HR))
        have p2 := P0.2 2 _ (taskR_c2 (unhide HR))
        have p8 := P0.2 8 _ (taskR_c8 (unhide HR))
        go_wp2_with (first | (go_at_call 68; refine (implStripeOf _ _ _).mono ?_; rintro e w' ⟨rfl, rfl⟩))
        go_ret
        exact ⟨by rw [unhide HF]; rfl, B0⟩
    have HF := hide (show stripeV x n = -1 by rw [stripeV, if_neg hn, if_neg (fun h => o1 h.1), if_neg (by omega)])
    have d2 : (x.op == 2) = false := by simpa using o2
    clear o1 o2
    go_enter Try.func33, Try.ntmps33
    go_upto_region 1 with fail
    generalize World.alloc w _ = w0 at *
    have p0 := P0.2 0 _ (taskR_c0 (unhide HR))
    have p1 := P0.2 1 _ (taskR_c1 (unhide HR))
    have p2 := P0.2 2 _ (taskR_c2 (unhide HR))
    have p8 := P0.2 8 _ (taskR_c8 (unhide HR))
    go_wp2_with (first | (go_at_call 68; refine (implStripeOf _ _ _).mono ?_; rintro e w' ⟨rfl, rfl⟩))
    go_ret
    exact ⟨by rw [unhide HF]; rfl, B0⟩
end Go.Proofs.Ytklhljknkcmecaa
