/-
  What is asked of one deed: whether it took place, was offered with a code, was judged, and when.
-/
import Derived.Test.YtciipadkdglhmaaADeed
import Derived.Test.YtciipadkdglhmaaAbs2
namespace Go.Proofs.Ytciipadkdglhmaa
open Go.ChangeShapes Go.WideShapes Go.ChangeAt Go.RowKit
set_option linter.unusedVariables false
set_option maxRecDepth 100000

def tookB (x : DeedD) : Bool := decide (x.lin ≠ -1)
def offB (code : Int) (x : DeedD) : Bool := decide (x.op = 1) && tookB x && decide (x.code = code)
def judB (x : DeedD) : Bool := decide (x.op = 2) && tookB x && !x.void
def keptB (st : Int) (x : DeedD) : Bool := judB x && x.keep && decide (x.stamp = st)
def dropB (x : DeedD) : Bool := decide (x.op = 3)
def whenB (f t : Int) (x : DeedD) : Bool := decide (x.op = 2) && tookB x && decide (f ≤ x.now) && decide (x.now ≤ t)
theorem implTook (x : DeedD) (S0 : Nat → Prop) (c0 : List Value) (w : World) (h0 : deedR w S0 c0 x) (b0 : deedBulk x ≤ 1048576) :
    Calls Try.prog 62 #[.agg c0.toArray] w fun e w' => e = .returned (.bool (tookB x)) ∧ Below w.heap.size w w' := by
  have P0 := Held.new w c0 77
  have B0 := bnew w (.cells c0.toArray 77)
  have r0 : RowT Try.prog 77 c0.length := by rw [deedR_len h0]; exact rowIDeed
  have HR := hide h0
  clear h0
  by_cases e : x.lin = -1
  · have q : (x.lin == -1) = true := by simpa using e
    have q' : (x.lin != -1) = false := by simpa using e
    have HF := hide (show tookB x = false by simp [tookB, e])
    clear e
    go_enter Try.func62, Try.ntmps62
    go_upto_region 1 with fail
    generalize World.alloc w _ = w0 at *
    have p18 := P0.2 18 _ (deedR_c18 (unhide HR))
    go_wp2
    go_ret
    exact ⟨ret_bool (unhide HF).symm, B0⟩
  · have q : (x.lin == -1) = false := by simpa using e
    have q' : (x.lin != -1) = true := by simpa using e
    have HF := hide (show tookB x = true by simp [tookB, e])
    clear e
    go_enter Try.func62, Try.ntmps62
    go_upto_region 1 with fail
    generalize World.alloc w _ = w0 at *
    have p18 := P0.2 18 _ (deedR_c18 (unhide HR))
    go_wp2
    go_ret
    exact ⟨ret_bool (unhide HF).symm, B0⟩
set_option maxHeartbeats 2000000 in
theorem implOffered (x : DeedD) (code : Int) (S0 : Nat → Prop) (c0 : List Value) (w : World) (h0 : deedR w S0 c0 x) (b0 : deedBulk x ≤ 1048576) :
    Calls Try.prog 58 #[.agg c0.toArray, .int .i64 code] w fun e w' => e = .returned (.bool (offB code x)) ∧ Below w.heap.size w w' := by
  have P0 := Held.new w c0 77
  have B0 := bnew w (.cells c0.toArray 77)
  have r0 : RowT Try.prog 77 c0.length := by rw [deedR_len h0]; exact rowIDeed
  have HR := hide h0
  clear h0
  by_cases e : x.op = 1
  case neg =>
    have q : (x.op == 1) = false := by simpa using e
    have HF := hide (show offB code x = false by simp [offB, e])
    clear e
    go_enter Try.func58, Try.ntmps58
    go_upto_region 1 with fail
    generalize World.alloc w _ = w0 at *
    have p0 := P0.2 0 _ (deedR_c0 (unhide HR))
    go_wp2
    go_ret
    exact ⟨ret_bool (unhide HF).symm, B0⟩
  have q : (x.op == 1) = true := by simpa using e
  have HE := hide e
  clear e
  cases hp : tookB x
  · have HF := hide (show offB code x = false by simp [offB, hp])
    go_enter Try.func58, Try.ntmps58
    go_upto_region 1 with fail
    generalize World.alloc w _ = w0 at *
    have p0 := P0.2 0 _ (deedR_c0 (unhide HR))
    go_wp2_with (first | (refine wpl_loadG (by rfl) 77 _ rfl _ 0 rfl c0 P0.inB r0 ?_) | (refine wpl_load rfl 77 _ rfl _ 0 rfl c0 P0.inB r0 ?_))
    have hc := implTook x S0 c0 _ (deedR_keeps _ _ _ None1 _ _ (Below.turn B0) none_off (unhide HR)) b0
    rw [hp] at hc
    refine hc.mono ?_
    rintro e w1 ⟨rfl, hb1⟩
    clear hc
    go_wp2
    go_ret
    exact ⟨ret_bool (unhide HF).symm, bthen B0 hb1⟩
  · by_cases e2 : x.code = code
    · have q2 : (x.code == code) = true := by simpa using e2
      have HF := hide (show offB code x = true by simp [offB, unhide HE, *])
      go_enter Try.func58, Try.ntmps58
      go_upto_region 1 with fail
      generalize World.alloc w _ = w0 at *
      have p0 := P0.2 0 _ (deedR_c0 (unhide HR))
      go_wp2_with (first | (refine wpl_loadG (by rfl) 77 _ rfl _ 0 rfl c0 P0.inB r0 ?_) | (refine wpl_load rfl 77 _ rfl _ 0 rfl c0 P0.inB r0 ?_))
      have hc := implTook x S0 c0 _ (deedR_keeps _ _ _ None1 _ _ (Below.turn B0) none_off (unhide HR)) b0
      rw [hp] at hc
      refine hc.mono ?_
      rintro e w1 ⟨rfl, hb1⟩
      clear hc
      have p10 := (P0.keep hb1).2 10 _ (deedR_c10 (unhide HR))
      go_wp2
      go_ret
      exact ⟨ret_bool ((unhide HF).symm), bthen B0 hb1⟩
    · have q2 : (x.code == code) = false := by simpa using e2
      have HF := hide (show offB code x = false by simp [offB, unhide HE, *])
      go_enter Try.func58, Try.ntmps58
      go_upto_region 1 with fail
      generalize World.alloc w _ = w0 at *
      have p0 := P0.2 0 _ (deedR_c0 (unhide HR))
      go_wp2_with (first | (refine wpl_loadG (by rfl) 77 _ rfl _ 0 rfl c0 P0.inB r0 ?_) | (refine wpl_load rfl 77 _ rfl _ 0 rfl c0 P0.inB r0 ?_))
      have hc := implTook x S0 c0 _ (deedR_keeps _ _ _ None1 _ _ (Below.turn B0) none_off (unhide HR)) b0
      rw [hp] at hc
      refine hc.mono ?_
      rintro e w1 ⟨rfl, hb1⟩
      clear hc
      have p10 := (P0.keep hb1).2 10 _ (deedR_c10 (unhide HR))
      go_wp2
      go_ret
      exact ⟨ret_bool ((unhide HF).symm), bthen B0 hb1⟩
set_option maxHeartbeats 2000000 in
theorem implJudged (x : DeedD) (S0 : Nat → Prop) (c0 : List Value) (w : World) (h0 : deedR w S0 c0 x) (b0 : deedBulk x ≤ 1048576) :
    Calls Try.prog 63 #[.agg c0.toArray] w fun e w' => e = .returned (.bool (judB x)) ∧ Below w.heap.size w w' := by
  have P0 := Held.new w c0 77
  have B0 := bnew w (.cells c0.toArray 77)
  have r0 : RowT Try.prog 77 c0.length := by rw [deedR_len h0]; exact rowIDeed
  have HR := hide h0
  clear h0
  by_cases e : x.op = 2
  case neg =>
    have q : (x.op == 2) = false := by simpa using e
    have HF := hide (show judB x = false by simp [judB, e])
    clear e
    go_enter Try.func63, Try.ntmps63
    go_upto_region 1 with fail
    generalize World.alloc w _ = w0 at *
    have p0 := P0.2 0 _ (deedR_c0 (unhide HR))
    go_wp2
    go_ret
    exact ⟨ret_bool (unhide HF).symm, B0⟩
  have q : (x.op == 2) = true := by simpa using e
  have HE := hide e
  clear e
  cases hp : tookB x
  · have HF := hide (show judB x = false by simp [judB, hp])
    go_enter Try.func63, Try.ntmps63
    go_upto_region 1 with fail
    generalize World.alloc w _ = w0 at *
    have p0 := P0.2 0 _ (deedR_c0 (unhide HR))
    go_wp2_with (first | (refine wpl_loadG (by rfl) 77 _ rfl _ 0 rfl c0 P0.inB r0 ?_) | (refine wpl_load rfl 77 _ rfl _ 0 rfl c0 P0.inB r0 ?_))
    have hc := implTook x S0 c0 _ (deedR_keeps _ _ _ None1 _ _ (Below.turn B0) none_off (unhide HR)) b0
    rw [hp] at hc
    refine hc.mono ?_
    rintro e w1 ⟨rfl, hb1⟩
    clear hc
    go_wp2
    go_ret
    exact ⟨ret_bool (unhide HF).symm, bthen B0 hb1⟩
  · cases e2 : x.void
    · have HF := hide (show judB x = true by simp [judB, unhide HE, *])
      go_enter Try.func63, Try.ntmps63
      go_upto_region 1 with fail
      generalize World.alloc w _ = w0 at *
      have p0 := P0.2 0 _ (deedR_c0 (unhide HR))
      go_wp2_with (first | (refine wpl_loadG (by rfl) 77 _ rfl _ 0 rfl c0 P0.inB r0 ?_) | (refine wpl_load rfl 77 _ rfl _ 0 rfl c0 P0.inB r0 ?_))
      have hc := implTook x S0 c0 _ (deedR_keeps _ _ _ None1 _ _ (Below.turn B0) none_off (unhide HR)) b0
      rw [hp] at hc
      refine hc.mono ?_
      rintro e w1 ⟨rfl, hb1⟩
      clear hc
      have p12 := (P0.keep hb1).2 12 _ (deedR_c12 (unhide HR))
      rw [e2] at p12
      go_wp2
      go_ret
      exact ⟨ret_bool ((unhide HF).symm), bthen B0 hb1⟩
    · have HF := hide (show judB x = false by simp [judB, unhide HE, *])
      go_enter Try.func63, Try.ntmps63
      go_upto_region 1 with fail
      generalize World.alloc w _ = w0 at *
      have p0 := P0.2 0 _ (deedR_c0 (unhide HR))
      go_wp2_with (first | (refine wpl_loadG (by rfl) 77 _ rfl _ 0 rfl c0 P0.inB r0 ?_) | (refine wpl_load rfl 77 _ rfl _ 0 rfl c0 P0.inB r0 ?_))
      have hc := implTook x S0 c0 _ (deedR_keeps _ _ _ None1 _ _ (Below.turn B0) none_off (unhide HR)) b0
      rw [hp] at hc
      refine hc.mono ?_
      rintro e w1 ⟨rfl, hb1⟩
      clear hc
      have p12 := (P0.keep hb1).2 12 _ (deedR_c12 (unhide HR))
      rw [e2] at p12
      go_wp2
      go_ret
      exact ⟨ret_bool ((unhide HF).symm), bthen B0 hb1⟩
end Go.Proofs.Ytciipadkdglhmaa
