/-
  Deed: what lies in memory, read and owned; contracts of the law's own sizes, copies and comparisons.
-/
import Derived.Test.YtciipadkdglhmaaASpan
import Derived.Test.YtciipadkdglhmaaToSt
import Derived.Deep.CutRange
namespace Go.Proofs.Ytciipadkdglhmaa
open Go.ChangeShapes Go.WideShapes Go.ChangeAt Go.RowKit
set_option linter.unusedVariables false
set_option maxRecDepth 100000

structure DeedD where
  op : Int
  task : Int
  s : SpanD
  trace : Int
  stamp : Int
  code : Int
  keep : Bool
  void : Bool
  took : Int
  n : Int
  forgot : Int
  now : Int
  inv : Int
  lin : Int
  res : Int
def deedBulk (x : DeedD) : Nat := bulkL attrBulk x.s.2.2.2.2.2
def deedR (w : World) (S : Nat → Prop) (cs : List Value) (x : DeedD) : Prop := ∃ s0, cs = [.int .i64 x.op, .int .i64 x.task, .int .i64 x.s.1, .int .i64 x.s.2.1, .int .i64 x.s.2.2.1, .int .i64 x.s.2.2.2.1, .bool x.s.2.2.2.2.1, s0, .int .i64 x.trace, .int .i64 x.stamp, .int .i64 x.code, .bool x.keep, .bool x.void, .int .i64 x.took, .int .i64 x.n, .int .i64 x.forgot, .int .i64 x.now, .int .i64 x.inv, .int .i64 x.lin, .int .i64 x.res] ∧ LAt 4 attrR w S s0 x.s.2.2.2.2.2
def deedO (w : World) (S : Nat → Prop) (cs : List Value) (x : DeedD) : Prop := ∃ s0, cs = [.int .i64 x.op, .int .i64 x.task, .int .i64 x.s.1, .int .i64 x.s.2.1, .int .i64 x.s.2.2.1, .int .i64 x.s.2.2.2.1, .bool x.s.2.2.2.2.1, s0, .int .i64 x.trace, .int .i64 x.stamp, .int .i64 x.code, .bool x.keep, .bool x.void, .int .i64 x.took, .int .i64 x.n, .int .i64 x.forgot, .int .i64 x.now, .int .i64 x.inv, .int .i64 x.lin, .int .i64 x.res] ∧ LOw 4 attrO w S s0 x.s.2.2.2.2.2
theorem deedR_keeps : Keeps deedR := by
  intro w w' S T cs x ht hd h
  obtain ⟨s0, e, g0⟩ := h
  exact ⟨s0, e, g0.turn attrR_keeps ht hd⟩
theorem deedR_widens : Widens deedR := by
  intro w S T cs x hs h
  obtain ⟨s0, e, g0⟩ := h
  exact ⟨s0, e, g0.widens attrR_widens hs⟩
theorem deedO_keeps : Keeps deedO := by
  intro w w' S T cs x ht hd h
  obtain ⟨s0, e, g0⟩ := h
  exact ⟨s0, e, g0.turn attrO_keeps ht hd⟩
theorem deedO_widens : Widens deedO := by
  intro w S T cs x hs h
  obtain ⟨s0, e, g0⟩ := h
  exact ⟨s0, e, g0.widens hs⟩
theorem deedO_read (w : World) (S : Nat → Prop) (cs : List Value) (x : DeedD) (h : deedO w S cs x) : deedR w S cs x := by
  obtain ⟨s0, e, g0⟩ := h
  exact ⟨s0, e, g0.read attrR_widens attrO_read⟩
theorem deedO_len {w : World} {S : Nat → Prop} {cs : List Value} {x : DeedD} (h : deedO w S cs x) : cs.length = 20 := by
  obtain ⟨s0, rfl, _⟩ := h; rfl

set_option maxHeartbeats 2000000 in
theorem mSzDeed (x : DeedD) (S : Nat → Prop) (cs : List Value) (left : Int) (w : World) (h0 : 0 ≤ left) (h1 : left ≤ 1048576) (hx : deedR w S cs x) :
    Calls Try.prog 48 #[.agg cs.toArray, .int .i64 left] w fun e w' => (∃ z : Int, e = .returned (.int .i64 z) ∧ (z < 0 ∨ (0 ≤ z ∧ z + deedBulk x ≤ left))) ∧ Below w.heap.size w w' := by
  unfold deedBulk
  obtain ⟨s0, rfl, g0⟩ := hx
  obtain ⟨a0, k0, rfl⟩ := g0.form
  have H0 := Held.new w [.int .i64 x.op, .int .i64 x.task, .int .i64 x.s.1, .int .i64 x.s.2.1, .int .i64 x.s.2.2.1, .int .i64 x.s.2.2.2.1, .bool x.s.2.2.2.2.1, .slice a0 x.s.2.2.2.2.2.length k0, .int .i64 x.trace, .int .i64 x.stamp, .int .i64 x.code, .bool x.keep, .bool x.void, .int .i64 x.took, .int .i64 x.n, .int .i64 x.forgot, .int .i64 x.now, .int .i64 x.inv, .int .i64 x.lin, .int .i64 x.res] 128
  have B0 := bnew w (.cells #[.int .i64 x.op, .int .i64 x.task, .int .i64 x.s.1, .int .i64 x.s.2.1, .int .i64 x.s.2.2.1, .int .i64 x.s.2.2.2.1, .bool x.s.2.2.2.2.1, .slice a0 x.s.2.2.2.2.2.length k0, .int .i64 x.trace, .int .i64 x.stamp, .int .i64 x.code, .bool x.keep, .bool x.void, .int .i64 x.took, .int .i64 x.n, .int .i64 x.forgot, .int .i64 x.now, .int .i64 x.inv, .int .i64 x.lin, .int .i64 x.res] 128)
  go_enter Try.func48, Try.ntmps48
  go_wp2_with fail
  refine (mSzSpan x.s S [.int .i64 x.s.1, .int .i64 x.s.2.1, .int .i64 x.s.2.2.1, .int .i64 x.s.2.2.2.1, .bool x.s.2.2.2.2.1, .slice a0 x.s.2.2.2.2.2.length k0] left _ h0 h1 ⟨_, rfl, g0.keep attrR_keeps B0⟩).mono ?_
  rintro e w1 ⟨⟨z1, rfl, hz1⟩, hb1⟩
  have HZ1 := hide hz1
  have B1 := bthen B0 hb1
  have H1 := H0.keep hb1
  clear hz1 hb1
  by_cases hneg1 : z1 < 0
  · go_wp2
    go_ret
    exact ⟨⟨_, rfl, .inl (by omega)⟩, B1⟩
  have hzz1 : 0 ≤ z1 ∧ z1 + spanBulk x.s ≤ left := by rcases unhide HZ1 with h | h <;> omega
  clear HZ1
  have hfin : z1 < 0 ∨ (0 ≤ z1 ∧ z1 + (bulkL attrBulk x.s.2.2.2.2.2 : Nat) ≤ left) := by unfold spanBulk at *; omega
  have HF := hide hfin
  clear hfin
  go_wp2
  go_ret
  exact ⟨⟨_, rfl, unhide HF⟩, B1⟩

theorem rowLDeed : RowT Try.prog 128 20 := ⟨_, Try.underlying128, rfl, by kernel_rfl⟩
theorem rowIDeed : RowT Try.prog 77 20 := ⟨_, Try.underlying77, rfl, by kernel_rfl⟩
set_option maxHeartbeats 4000000 in
theorem mToDeed (x : DeedD) (S : Nat → Prop) (cs : List Value) (w : World) (hb : deedBulk x ≤ 1048576) (hx : deedR w S cs x) :
    Calls Try.prog 56 #[.agg cs.toArray] w fun e w' => ∃ cs', e = .returned (.agg cs'.toArray) ∧ deedO w' (Within w.heap.size w'.heap.size) cs' x ∧ Below w.heap.size w w' := by
  obtain ⟨s0, rfl, g0⟩ := hx
  obtain ⟨a0, k0, rfl⟩ := g0.form
  unfold deedBulk at hb
  go_enter Try.func56, Try.ntmps56
  go_upto_region 2 with fail
  generalize hW : World.alloc (World.alloc (World.alloc w _) _) _ = w1
  have T1 : ToSt w w1 20 [.int .i64 x.op, .int .i64 x.task, .int .i64 x.s.1, .int .i64 x.s.2.1, .int .i64 x.s.2.2.1, .int .i64 x.s.2.2.2.1, .bool x.s.2.2.2.2.1, .slice a0 x.s.2.2.2.2.2.length k0, .int .i64 x.trace, .int .i64 x.stamp, .int .i64 x.code, .bool x.keep, .bool x.void, .int .i64 x.took, .int .i64 x.n, .int .i64 x.forgot, .int .i64 x.now, .int .i64 x.inv, .int .i64 x.lin, .int .i64 x.res] [.int .i64 0, .int .i64 0, .int .i64 0, .int .i64 0, .int .i64 0, .int .i64 0, .bool false, .slice none 0 0, .int .i64 0, .int .i64 0, .int .i64 0, .bool false, .bool false, .int .i64 0, .int .i64 0, .int .i64 0, .int .i64 0, .int .i64 0, .int .i64 0, .int .i64 0] := by rw [← hW]; exact ToSt.start w 20 [.int .i64 x.op, .int .i64 x.task, .int .i64 x.s.1, .int .i64 x.s.2.1, .int .i64 x.s.2.2.1, .int .i64 x.s.2.2.2.1, .bool x.s.2.2.2.2.1, .slice a0 x.s.2.2.2.2.2.length k0, .int .i64 x.trace, .int .i64 x.stamp, .int .i64 x.code, .bool x.keep, .bool x.void, .int .i64 x.took, .int .i64 x.n, .int .i64 x.forgot, .int .i64 x.now, .int .i64 x.inv, .int .i64 x.lin, .int .i64 x.res] [.int .i64 0, .int .i64 0, .int .i64 0, .int .i64 0, .int .i64 0, .int .i64 0, .bool false, .slice none 0 0, .int .i64 0, .int .i64 0, .int .i64 0, .bool false, .bool false, .int .i64 0, .int .i64 0, .int .i64 0, .int .i64 0, .int .i64 0, .int .i64 0, .int .i64 0] [.int .i64 0, .int .i64 0, .int .i64 0, .int .i64 0, .int .i64 0, .int .i64 0, .bool false, .slice none 0 0, .int .i64 0, .int .i64 0, .int .i64 0, .bool false, .bool false, .int .i64 0, .int .i64 0, .int .i64 0, .int .i64 0, .int .i64 0, .int .i64 0, .int .i64 0] 128 77 rfl rfl
  clear hW
  have c1 := T1.par 0 _ rfl
  have c2 := T1.old 0 _ rfl
  have c3 := T1.free 0 (by omega)
  go_upto_region 3 with fail
  clear c1 c2 c3
  generalize hW : World.setCell w1 _ _ = w2
  have T2 : ToSt w w2 20 [.int .i64 x.op, .int .i64 x.task, .int .i64 x.s.1, .int .i64 x.s.2.1, .int .i64 x.s.2.2.1, .int .i64 x.s.2.2.2.1, .bool x.s.2.2.2.2.1, .slice a0 x.s.2.2.2.2.2.length k0, .int .i64 x.trace, .int .i64 x.stamp, .int .i64 x.code, .bool x.keep, .bool x.void, .int .i64 x.took, .int .i64 x.n, .int .i64 x.forgot, .int .i64 x.now, .int .i64 x.inv, .int .i64 x.lin, .int .i64 x.res] [.int .i64 x.op, .int .i64 0, .int .i64 0, .int .i64 0, .int .i64 0, .int .i64 0, .bool false, .slice none 0 0, .int .i64 0, .int .i64 0, .int .i64 0, .bool false, .bool false, .int .i64 0, .int .i64 0, .int .i64 0, .int .i64 0, .int .i64 0, .int .i64 0, .int .i64 0] := by rw [← hW]; exact T1.set 0 (.int .i64 x.op) (by simp)
  have hz2 : w2.heap.size = w1.heap.size := by rw [← hW]; simp
  clear hW T1
  have c1 := T2.par 1 _ rfl
  have c2 := T2.old 1 _ rfl
  have c3 := T2.free 1 (by omega)
  go_upto_region 4 with fail
  clear c1 c2 c3
  generalize hW : World.setCell w2 _ _ = w3
  have T3 : ToSt w w3 20 [.int .i64 x.op, .int .i64 x.task, .int .i64 x.s.1, .int .i64 x.s.2.1, .int .i64 x.s.2.2.1, .int .i64 x.s.2.2.2.1, .bool x.s.2.2.2.2.1, .slice a0 x.s.2.2.2.2.2.length k0, .int .i64 x.trace, .int .i64 x.stamp, .int .i64 x.code, .bool x.keep, .bool x.void, .int .i64 x.took, .int .i64 x.n, .int .i64 x.forgot, .int .i64 x.now, .int .i64 x.inv, .int .i64 x.lin, .int .i64 x.res] [.int .i64 x.op, .int .i64 x.task, .int .i64 0, .int .i64 0, .int .i64 0, .int .i64 0, .bool false, .slice none 0 0, .int .i64 0, .int .i64 0, .int .i64 0, .bool false, .bool false, .int .i64 0, .int .i64 0, .int .i64 0, .int .i64 0, .int .i64 0, .int .i64 0, .int .i64 0] := by rw [← hW]; exact T2.set 1 (.int .i64 x.task) (by simp)
  have hz3 : w3.heap.size = w2.heap.size := by rw [← hW]; simp
  clear hW T2
  have c1 := T3.parIn 2 [.int .i64 x.s.1, .int .i64 x.s.2.1, .int .i64 x.s.2.2.1, .int .i64 x.s.2.2.2.1, .bool x.s.2.2.2.2.1, .slice a0 x.s.2.2.2.2.2.length k0] rfl
  go_wp2_with (first | (refine wpl_load rfl 120 _ rfl _ _ rfl [.int .i64 x.s.1, .int .i64 x.s.2.1, .int .i64 x.s.2.2.1, .int .i64 x.s.2.2.2.1, .bool x.s.2.2.2.2.1, .slice a0 x.s.2.2.2.2.2.length k0] c1 rowLSpan ?_))
  clear c1
  refine (mToSpan x.s S [.int .i64 x.s.1, .int .i64 x.s.2.1, .int .i64 x.s.2.2.1, .int .i64 x.s.2.2.2.1, .bool x.s.2.2.2.2.1, .slice a0 x.s.2.2.2.2.2.length k0] w3 (by first | omega | (unfold spanBulk; omega)) ⟨_, rfl, g0.keep attrR_keeps T3.below⟩).mono ?_
  rintro e w4 ⟨cs4, rfl, yy, hb4⟩
  obtain ⟨t0, rfl, y0⟩ := yy
  obtain ⟨b0, m0, rfl⟩ := y0.form
  have hz4 := hb4.size
  have T4 := T3.call hb4
  have hs3 := T3.size
  clear hb4 T3
  have c2 := T4.wr 2 6 (by omega)
  go_upto_region 5 with (first | (refine wpl_store_at rfl 75 _ _ rfl _ _ [.int .i64 x.s.1, .int .i64 x.s.2.1, .int .i64 x.s.2.2.1, .int .i64 x.s.2.2.2.1, .bool x.s.2.2.2.2.1, .slice b0 x.s.2.2.2.2.2.length m0] rfl rfl c2 (by intro v hv; simp only [List.mem_cons, List.not_mem_nil, or_false] at hv; rcases hv with rfl | rfl | rfl | rfl | rfl | rfl <;> rfl) rowISpan ?_))
  clear c2
  generalize hW : putL _ _ _ _ w4 = w5
  have T5 : ToSt w w5 20 [.int .i64 x.op, .int .i64 x.task, .int .i64 x.s.1, .int .i64 x.s.2.1, .int .i64 x.s.2.2.1, .int .i64 x.s.2.2.2.1, .bool x.s.2.2.2.2.1, .slice a0 x.s.2.2.2.2.2.length k0, .int .i64 x.trace, .int .i64 x.stamp, .int .i64 x.code, .bool x.keep, .bool x.void, .int .i64 x.took, .int .i64 x.n, .int .i64 x.forgot, .int .i64 x.now, .int .i64 x.inv, .int .i64 x.lin, .int .i64 x.res] [.int .i64 x.op, .int .i64 x.task, .int .i64 x.s.1, .int .i64 x.s.2.1, .int .i64 x.s.2.2.1, .int .i64 x.s.2.2.2.1, .bool x.s.2.2.2.2.1, .slice b0 x.s.2.2.2.2.2.length m0, .int .i64 0, .int .i64 0, .int .i64 0, .bool false, .bool false, .int .i64 0, .int .i64 0, .int .i64 0, .int .i64 0, .int .i64 0, .int .i64 0, .int .i64 0] := by rw [← hW]; exact T4.put 2 [.int .i64 x.s.1, .int .i64 x.s.2.1, .int .i64 x.s.2.2.1, .int .i64 x.s.2.2.2.1, .bool x.s.2.2.2.2.1, .slice b0 x.s.2.2.2.2.2.length m0] (by simp)
  have y0 := own_put (b := w.heap.size + 2) (o := 2) (cs := [.int .i64 x.s.1, .int .i64 x.s.2.1, .int .i64 x.s.2.2.1, .int .i64 x.s.2.2.2.1, .bool x.s.2.2.2.2.1, .slice b0 x.s.2.2.2.2.2.length m0]) attrO_keeps y0 (by omega)
  rw [hW] at y0
  have hz5 : w4.heap.size ≤ w5.heap.size := by rw [← hW]; exact (putL_turn _ _ _ _ _).size
  clear hW T4
  have c1 := T5.par 8 _ rfl
  have c2 := T5.old 8 _ rfl
  have c3 := T5.free 8 (by omega)
  go_upto_region 6 with fail
  clear c1 c2 c3
  generalize hW : World.setCell w5 _ _ = w6
  have T6 : ToSt w w6 20 [.int .i64 x.op, .int .i64 x.task, .int .i64 x.s.1, .int .i64 x.s.2.1, .int .i64 x.s.2.2.1, .int .i64 x.s.2.2.2.1, .bool x.s.2.2.2.2.1, .slice a0 x.s.2.2.2.2.2.length k0, .int .i64 x.trace, .int .i64 x.stamp, .int .i64 x.code, .bool x.keep, .bool x.void, .int .i64 x.took, .int .i64 x.n, .int .i64 x.forgot, .int .i64 x.now, .int .i64 x.inv, .int .i64 x.lin, .int .i64 x.res] [.int .i64 x.op, .int .i64 x.task, .int .i64 x.s.1, .int .i64 x.s.2.1, .int .i64 x.s.2.2.1, .int .i64 x.s.2.2.2.1, .bool x.s.2.2.2.2.1, .slice b0 x.s.2.2.2.2.2.length m0, .int .i64 x.trace, .int .i64 0, .int .i64 0, .bool false, .bool false, .int .i64 0, .int .i64 0, .int .i64 0, .int .i64 0, .int .i64 0, .int .i64 0, .int .i64 0] := by rw [← hW]; exact T5.set 8 (.int .i64 x.trace) (by simp)
  have y0 := own_set (b := w.heap.size + 2) (i := 8) (u := .int .i64 x.trace) attrO_keeps y0 (by omega)
  rw [hW] at y0
  have hz6 : w6.heap.size = w5.heap.size := by rw [← hW]; simp
  clear hW T5
  have c1 := T6.par 9 _ rfl
  have c2 := T6.old 9 _ rfl
  have c3 := T6.free 9 (by omega)
  go_upto_region 7 with fail
  clear c1 c2 c3
  generalize hW : World.setCell w6 _ _ = w7
  have T7 : ToSt w w7 20 [.int .i64 x.op, .int .i64 x.task, .int .i64 x.s.1, .int .i64 x.s.2.1, .int .i64 x.s.2.2.1, .int .i64 x.s.2.2.2.1, .bool x.s.2.2.2.2.1, .slice a0 x.s.2.2.2.2.2.length k0, .int .i64 x.trace, .int .i64 x.stamp, .int .i64 x.code, .bool x.keep, .bool x.void, .int .i64 x.took, .int .i64 x.n, .int .i64 x.forgot, .int .i64 x.now, .int .i64 x.inv, .int .i64 x.lin, .int .i64 x.res] [.int .i64 x.op, .int .i64 x.task, .int .i64 x.s.1, .int .i64 x.s.2.1, .int .i64 x.s.2.2.1, .int .i64 x.s.2.2.2.1, .bool x.s.2.2.2.2.1, .slice b0 x.s.2.2.2.2.2.length m0, .int .i64 x.trace, .int .i64 x.stamp, .int .i64 0, .bool false, .bool false, .int .i64 0, .int .i64 0, .int .i64 0, .int .i64 0, .int .i64 0, .int .i64 0, .int .i64 0] := by rw [← hW]; exact T6.set 9 (.int .i64 x.stamp) (by simp)
  have y0 := own_set (b := w.heap.size + 2) (i := 9) (u := .int .i64 x.stamp) attrO_keeps y0 (by omega)
  rw [hW] at y0
  have hz7 : w7.heap.size = w6.heap.size := by rw [← hW]; simp
  clear hW T6
  have c1 := T7.par 10 _ rfl
  have c2 := T7.old 10 _ rfl
  have c3 := T7.free 10 (by omega)
  go_upto_region 8 with fail
  clear c1 c2 c3
  generalize hW : World.setCell w7 _ _ = w8
  have T8 : ToSt w w8 20 [.int .i64 x.op, .int .i64 x.task, .int .i64 x.s.1, .int .i64 x.s.2.1, .int .i64 x.s.2.2.1, .int .i64 x.s.2.2.2.1, .bool x.s.2.2.2.2.1, .slice a0 x.s.2.2.2.2.2.length k0, .int .i64 x.trace, .int .i64 x.stamp, .int .i64 x.code, .bool x.keep, .bool x.void, .int .i64 x.took, .int .i64 x.n, .int .i64 x.forgot, .int .i64 x.now, .int .i64 x.inv, .int .i64 x.lin, .int .i64 x.res] [.int .i64 x.op, .int .i64 x.task, .int .i64 x.s.1, .int .i64 x.s.2.1, .int .i64 x.s.2.2.1, .int .i64 x.s.2.2.2.1, .bool x.s.2.2.2.2.1, .slice b0 x.s.2.2.2.2.2.length m0, .int .i64 x.trace, .int .i64 x.stamp, .int .i64 x.code, .bool false, .bool false, .int .i64 0, .int .i64 0, .int .i64 0, .int .i64 0, .int .i64 0, .int .i64 0, .int .i64 0] := by rw [← hW]; exact T7.set 10 (.int .i64 x.code) (by simp)
  have y0 := own_set (b := w.heap.size + 2) (i := 10) (u := .int .i64 x.code) attrO_keeps y0 (by omega)
  rw [hW] at y0
  have hz8 : w8.heap.size = w7.heap.size := by rw [← hW]; simp
  clear hW T7
  have c1 := T8.par 11 _ rfl
  have c2 := T8.old 11 _ rfl
  have c3 := T8.free 11 (by omega)
  go_upto_region 9 with fail
  clear c1 c2 c3
  generalize hW : World.setCell w8 _ _ = w9
  have T9 : ToSt w w9 20 [.int .i64 x.op, .int .i64 x.task, .int .i64 x.s.1, .int .i64 x.s.2.1, .int .i64 x.s.2.2.1, .int .i64 x.s.2.2.2.1, .bool x.s.2.2.2.2.1, .slice a0 x.s.2.2.2.2.2.length k0, .int .i64 x.trace, .int .i64 x.stamp, .int .i64 x.code, .bool x.keep, .bool x.void, .int .i64 x.took, .int .i64 x.n, .int .i64 x.forgot, .int .i64 x.now, .int .i64 x.inv, .int .i64 x.lin, .int .i64 x.res] [.int .i64 x.op, .int .i64 x.task, .int .i64 x.s.1, .int .i64 x.s.2.1, .int .i64 x.s.2.2.1, .int .i64 x.s.2.2.2.1, .bool x.s.2.2.2.2.1, .slice b0 x.s.2.2.2.2.2.length m0, .int .i64 x.trace, .int .i64 x.stamp, .int .i64 x.code, .bool x.keep, .bool false, .int .i64 0, .int .i64 0, .int .i64 0, .int .i64 0, .int .i64 0, .int .i64 0, .int .i64 0] := by rw [← hW]; exact T8.set 11 (.bool x.keep) (by simp)
  have y0 := own_set (b := w.heap.size + 2) (i := 11) (u := .bool x.keep) attrO_keeps y0 (by omega)
  rw [hW] at y0
  have hz9 : w9.heap.size = w8.heap.size := by rw [← hW]; simp
  clear hW T8
  have c1 := T9.par 12 _ rfl
  have c2 := T9.old 12 _ rfl
  have c3 := T9.free 12 (by omega)
  go_upto_region 10 with fail
  clear c1 c2 c3
  generalize hW : World.setCell w9 _ _ = w10
  have T10 : ToSt w w10 20 [.int .i64 x.op, .int .i64 x.task, .int .i64 x.s.1, .int .i64 x.s.2.1, .int .i64 x.s.2.2.1, .int .i64 x.s.2.2.2.1, .bool x.s.2.2.2.2.1, .slice a0 x.s.2.2.2.2.2.length k0, .int .i64 x.trace, .int .i64 x.stamp, .int .i64 x.code, .bool x.keep, .bool x.void, .int .i64 x.took, .int .i64 x.n, .int .i64 x.forgot, .int .i64 x.now, .int .i64 x.inv, .int .i64 x.lin, .int .i64 x.res] [.int .i64 x.op, .int .i64 x.task, .int .i64 x.s.1, .int .i64 x.s.2.1, .int .i64 x.s.2.2.1, .int .i64 x.s.2.2.2.1, .bool x.s.2.2.2.2.1, .slice b0 x.s.2.2.2.2.2.length m0, .int .i64 x.trace, .int .i64 x.stamp, .int .i64 x.code, .bool x.keep, .bool x.void, .int .i64 0, .int .i64 0, .int .i64 0, .int .i64 0, .int .i64 0, .int .i64 0, .int .i64 0] := by rw [← hW]; exact T9.set 12 (.bool x.void) (by simp)
  have y0 := own_set (b := w.heap.size + 2) (i := 12) (u := .bool x.void) attrO_keeps y0 (by omega)
  rw [hW] at y0
  have hz10 : w10.heap.size = w9.heap.size := by rw [← hW]; simp
  clear hW T9
  have c1 := T10.par 13 _ rfl
  have c2 := T10.old 13 _ rfl
  have c3 := T10.free 13 (by omega)
  go_upto_region 11 with fail
  clear c1 c2 c3
  generalize hW : World.setCell w10 _ _ = w11
  have T11 : ToSt w w11 20 [.int .i64 x.op, .int .i64 x.task, .int .i64 x.s.1, .int .i64 x.s.2.1, .int .i64 x.s.2.2.1, .int .i64 x.s.2.2.2.1, .bool x.s.2.2.2.2.1, .slice a0 x.s.2.2.2.2.2.length k0, .int .i64 x.trace, .int .i64 x.stamp, .int .i64 x.code, .bool x.keep, .bool x.void, .int .i64 x.took, .int .i64 x.n, .int .i64 x.forgot, .int .i64 x.now, .int .i64 x.inv, .int .i64 x.lin, .int .i64 x.res] [.int .i64 x.op, .int .i64 x.task, .int .i64 x.s.1, .int .i64 x.s.2.1, .int .i64 x.s.2.2.1, .int .i64 x.s.2.2.2.1, .bool x.s.2.2.2.2.1, .slice b0 x.s.2.2.2.2.2.length m0, .int .i64 x.trace, .int .i64 x.stamp, .int .i64 x.code, .bool x.keep, .bool x.void, .int .i64 x.took, .int .i64 0, .int .i64 0, .int .i64 0, .int .i64 0, .int .i64 0, .int .i64 0] := by rw [← hW]; exact T10.set 13 (.int .i64 x.took) (by simp)
  have y0 := own_set (b := w.heap.size + 2) (i := 13) (u := .int .i64 x.took) attrO_keeps y0 (by omega)
  rw [hW] at y0
  have hz11 : w11.heap.size = w10.heap.size := by rw [← hW]; simp
  clear hW T10
  have c1 := T11.par 14 _ rfl
  have c2 := T11.old 14 _ rfl
  have c3 := T11.free 14 (by omega)
  go_upto_region 12 with fail
  clear c1 c2 c3
  generalize hW : World.setCell w11 _ _ = w12
  have T12 : ToSt w w12 20 [.int .i64 x.op, .int .i64 x.task, .int .i64 x.s.1, .int .i64 x.s.2.1, .int .i64 x.s.2.2.1, .int .i64 x.s.2.2.2.1, .bool x.s.2.2.2.2.1, .slice a0 x.s.2.2.2.2.2.length k0, .int .i64 x.trace, .int .i64 x.stamp, .int .i64 x.code, .bool x.keep, .bool x.void, .int .i64 x.took, .int .i64 x.n, .int .i64 x.forgot, .int .i64 x.now, .int .i64 x.inv, .int .i64 x.lin, .int .i64 x.res] [.int .i64 x.op, .int .i64 x.task, .int .i64 x.s.1, .int .i64 x.s.2.1, .int .i64 x.s.2.2.1, .int .i64 x.s.2.2.2.1, .bool x.s.2.2.2.2.1, .slice b0 x.s.2.2.2.2.2.length m0, .int .i64 x.trace, .int .i64 x.stamp, .int .i64 x.code, .bool x.keep, .bool x.void, .int .i64 x.took, .int .i64 x.n, .int .i64 0, .int .i64 0, .int .i64 0, .int .i64 0, .int .i64 0] := by rw [← hW]; exact T11.set 14 (.int .i64 x.n) (by simp)
  have y0 := own_set (b := w.heap.size + 2) (i := 14) (u := .int .i64 x.n) attrO_keeps y0 (by omega)
  rw [hW] at y0
  have hz12 : w12.heap.size = w11.heap.size := by rw [← hW]; simp
  clear hW T11
  have c1 := T12.par 15 _ rfl
  have c2 := T12.old 15 _ rfl
  have c3 := T12.free 15 (by omega)
  go_upto_region 13 with fail
  clear c1 c2 c3
  generalize hW : World.setCell w12 _ _ = w13
  have T13 : ToSt w w13 20 [.int .i64 x.op, .int .i64 x.task, .int .i64 x.s.1, .int .i64 x.s.2.1, .int .i64 x.s.2.2.1, .int .i64 x.s.2.2.2.1, .bool x.s.2.2.2.2.1, .slice a0 x.s.2.2.2.2.2.length k0, .int .i64 x.trace, .int .i64 x.stamp, .int .i64 x.code, .bool x.keep, .bool x.void, .int .i64 x.took, .int .i64 x.n, .int .i64 x.forgot, .int .i64 x.now, .int .i64 x.inv, .int .i64 x.lin, .int .i64 x.res] [.int .i64 x.op, .int .i64 x.task, .int .i64 x.s.1, .int .i64 x.s.2.1, .int .i64 x.s.2.2.1, .int .i64 x.s.2.2.2.1, .bool x.s.2.2.2.2.1, .slice b0 x.s.2.2.2.2.2.length m0, .int .i64 x.trace, .int .i64 x.stamp, .int .i64 x.code, .bool x.keep, .bool x.void, .int .i64 x.took, .int .i64 x.n, .int .i64 x.forgot, .int .i64 0, .int .i64 0, .int .i64 0, .int .i64 0] := by rw [← hW]; exact T12.set 15 (.int .i64 x.forgot) (by simp)
  have y0 := own_set (b := w.heap.size + 2) (i := 15) (u := .int .i64 x.forgot) attrO_keeps y0 (by omega)
  rw [hW] at y0
  have hz13 : w13.heap.size = w12.heap.size := by rw [← hW]; simp
  clear hW T12
  have c1 := T13.par 16 _ rfl
  have c2 := T13.old 16 _ rfl
  have c3 := T13.free 16 (by omega)
  go_upto_region 14 with fail
  clear c1 c2 c3
  generalize hW : World.setCell w13 _ _ = w14
  have T14 : ToSt w w14 20 [.int .i64 x.op, .int .i64 x.task, .int .i64 x.s.1, .int .i64 x.s.2.1, .int .i64 x.s.2.2.1, .int .i64 x.s.2.2.2.1, .bool x.s.2.2.2.2.1, .slice a0 x.s.2.2.2.2.2.length k0, .int .i64 x.trace, .int .i64 x.stamp, .int .i64 x.code, .bool x.keep, .bool x.void, .int .i64 x.took, .int .i64 x.n, .int .i64 x.forgot, .int .i64 x.now, .int .i64 x.inv, .int .i64 x.lin, .int .i64 x.res] [.int .i64 x.op, .int .i64 x.task, .int .i64 x.s.1, .int .i64 x.s.2.1, .int .i64 x.s.2.2.1, .int .i64 x.s.2.2.2.1, .bool x.s.2.2.2.2.1, .slice b0 x.s.2.2.2.2.2.length m0, .int .i64 x.trace, .int .i64 x.stamp, .int .i64 x.code, .bool x.keep, .bool x.void, .int .i64 x.took, .int .i64 x.n, .int .i64 x.forgot, .int .i64 x.now, .int .i64 0, .int .i64 0, .int .i64 0] := by rw [← hW]; exact T13.set 16 (.int .i64 x.now) (by simp)
  have y0 := own_set (b := w.heap.size + 2) (i := 16) (u := .int .i64 x.now) attrO_keeps y0 (by omega)
  rw [hW] at y0
  have hz14 : w14.heap.size = w13.heap.size := by rw [← hW]; simp
  clear hW T13
  have c1 := T14.par 17 _ rfl
  have c2 := T14.old 17 _ rfl
  have c3 := T14.free 17 (by omega)
  go_upto_region 15 with fail
  clear c1 c2 c3
  generalize hW : World.setCell w14 _ _ = w15
  have T15 : ToSt w w15 20 [.int .i64 x.op, .int .i64 x.task, .int .i64 x.s.1, .int .i64 x.s.2.1, .int .i64 x.s.2.2.1, .int .i64 x.s.2.2.2.1, .bool x.s.2.2.2.2.1, .slice a0 x.s.2.2.2.2.2.length k0, .int .i64 x.trace, .int .i64 x.stamp, .int .i64 x.code, .bool x.keep, .bool x.void, .int .i64 x.took, .int .i64 x.n, .int .i64 x.forgot, .int .i64 x.now, .int .i64 x.inv, .int .i64 x.lin, .int .i64 x.res] [.int .i64 x.op, .int .i64 x.task, .int .i64 x.s.1, .int .i64 x.s.2.1, .int .i64 x.s.2.2.1, .int .i64 x.s.2.2.2.1, .bool x.s.2.2.2.2.1, .slice b0 x.s.2.2.2.2.2.length m0, .int .i64 x.trace, .int .i64 x.stamp, .int .i64 x.code, .bool x.keep, .bool x.void, .int .i64 x.took, .int .i64 x.n, .int .i64 x.forgot, .int .i64 x.now, .int .i64 x.inv, .int .i64 0, .int .i64 0] := by rw [← hW]; exact T14.set 17 (.int .i64 x.inv) (by simp)
  have y0 := own_set (b := w.heap.size + 2) (i := 17) (u := .int .i64 x.inv) attrO_keeps y0 (by omega)
  rw [hW] at y0
  have hz15 : w15.heap.size = w14.heap.size := by rw [← hW]; simp
  clear hW T14
  have c1 := T15.par 18 _ rfl
  have c2 := T15.old 18 _ rfl
  have c3 := T15.free 18 (by omega)
  go_upto_region 16 with fail
  clear c1 c2 c3
  generalize hW : World.setCell w15 _ _ = w16
  have T16 : ToSt w w16 20 [.int .i64 x.op, .int .i64 x.task, .int .i64 x.s.1, .int .i64 x.s.2.1, .int .i64 x.s.2.2.1, .int .i64 x.s.2.2.2.1, .bool x.s.2.2.2.2.1, .slice a0 x.s.2.2.2.2.2.length k0, .int .i64 x.trace, .int .i64 x.stamp, .int .i64 x.code, .bool x.keep, .bool x.void, .int .i64 x.took, .int .i64 x.n, .int .i64 x.forgot, .int .i64 x.now, .int .i64 x.inv, .int .i64 x.lin, .int .i64 x.res] [.int .i64 x.op, .int .i64 x.task, .int .i64 x.s.1, .int .i64 x.s.2.1, .int .i64 x.s.2.2.1, .int .i64 x.s.2.2.2.1, .bool x.s.2.2.2.2.1, .slice b0 x.s.2.2.2.2.2.length m0, .int .i64 x.trace, .int .i64 x.stamp, .int .i64 x.code, .bool x.keep, .bool x.void, .int .i64 x.took, .int .i64 x.n, .int .i64 x.forgot, .int .i64 x.now, .int .i64 x.inv, .int .i64 x.lin, .int .i64 0] := by rw [← hW]; exact T15.set 18 (.int .i64 x.lin) (by simp)
  have y0 := own_set (b := w.heap.size + 2) (i := 18) (u := .int .i64 x.lin) attrO_keeps y0 (by omega)
  rw [hW] at y0
  have hz16 : w16.heap.size = w15.heap.size := by rw [← hW]; simp
  clear hW T15
  have c1 := T16.par 19 _ rfl
  have c2 := T16.old 19 _ rfl
  have c3 := T16.free 19 (by omega)
  go_upto_region 17 with fail
  clear c1 c2 c3
  generalize hW : World.setCell w16 _ _ = w17
  have T17 : ToSt w w17 20 [.int .i64 x.op, .int .i64 x.task, .int .i64 x.s.1, .int .i64 x.s.2.1, .int .i64 x.s.2.2.1, .int .i64 x.s.2.2.2.1, .bool x.s.2.2.2.2.1, .slice a0 x.s.2.2.2.2.2.length k0, .int .i64 x.trace, .int .i64 x.stamp, .int .i64 x.code, .bool x.keep, .bool x.void, .int .i64 x.took, .int .i64 x.n, .int .i64 x.forgot, .int .i64 x.now, .int .i64 x.inv, .int .i64 x.lin, .int .i64 x.res] [.int .i64 x.op, .int .i64 x.task, .int .i64 x.s.1, .int .i64 x.s.2.1, .int .i64 x.s.2.2.1, .int .i64 x.s.2.2.2.1, .bool x.s.2.2.2.2.1, .slice b0 x.s.2.2.2.2.2.length m0, .int .i64 x.trace, .int .i64 x.stamp, .int .i64 x.code, .bool x.keep, .bool x.void, .int .i64 x.took, .int .i64 x.n, .int .i64 x.forgot, .int .i64 x.now, .int .i64 x.inv, .int .i64 x.lin, .int .i64 x.res] := by rw [← hW]; exact T16.set 19 (.int .i64 x.res) (by simp)
  have y0 := own_set (b := w.heap.size + 2) (i := 19) (u := .int .i64 x.res) attrO_keeps y0 (by omega)
  rw [hW] at y0
  have hz17 : w17.heap.size = w16.heap.size := by rw [← hW]; simp
  clear hW T16
  have hs17 := T17.size
  have hfin : deedO w17 (Within (w.heap.size + 3) w17.heap.size) [.int .i64 x.op, .int .i64 x.task, .int .i64 x.s.1, .int .i64 x.s.2.1, .int .i64 x.s.2.2.1, .int .i64 x.s.2.2.2.1, .bool x.s.2.2.2.2.1, .slice b0 x.s.2.2.2.2.2.length m0, .int .i64 x.trace, .int .i64 x.stamp, .int .i64 x.code, .bool x.keep, .bool x.void, .int .i64 x.took, .int .i64 x.n, .int .i64 x.forgot, .int .i64 x.now, .int .i64 x.inv, .int .i64 x.lin, .int .i64 x.res] x := ⟨_, rfl, y0.widens (fun k hk => ⟨by have := hk.1; omega, by have := hk.2; omega⟩)⟩
  have HF := hide hfin
  clear hfin y0
  have c1 := T17.2.2.2.2.1.inB
  have c2 := T17.2.2.2.1
  obtain ⟨f1, f2, f3⟩ := T17.fin rfl
  have HG := hide (And.intro f1 (And.intro f2 f3))
  clear f1 f2 f3
  go_wp2_with (first | (refine wpl_load rfl 77 _ rfl _ 0 rfl _ c1 rowIDeed ?_) | (refine wpl_store_at rfl 77 _ _ rfl _ 0 [.int .i64 x.op, .int .i64 x.task, .int .i64 x.s.1, .int .i64 x.s.2.1, .int .i64 x.s.2.2.1, .int .i64 x.s.2.2.2.1, .bool x.s.2.2.2.2.1, .slice b0 x.s.2.2.2.2.2.length m0, .int .i64 x.trace, .int .i64 x.stamp, .int .i64 x.code, .bool x.keep, .bool x.void, .int .i64 x.took, .int .i64 x.n, .int .i64 x.forgot, .int .i64 x.now, .int .i64 x.inv, .int .i64 x.lin, .int .i64 x.res] rfl rfl c2 (by intro v hv; simp only [List.mem_cons, List.not_mem_nil, or_false] at hv; rcases hv with rfl | rfl | rfl | rfl | rfl | rfl | rfl | rfl | rfl | rfl | rfl | rfl | rfl | rfl | rfl | rfl | rfl | rfl | rfl | rfl <;> rfl) rowIDeed ?_))
  obtain ⟨f1, f2, f3⟩ := unhide HG
  refine bodyPost_ret (v := .agg #[.int .i64 x.op, .int .i64 x.task, .int .i64 x.s.1, .int .i64 x.s.2.1, .int .i64 x.s.2.2.1, .int .i64 x.s.2.2.2.1, .bool x.s.2.2.2.2.1, .slice b0 x.s.2.2.2.2.2.length m0, .int .i64 x.trace, .int .i64 x.stamp, .int .i64 x.code, .bool x.keep, .bool x.void, .int .i64 x.took, .int .i64 x.n, .int .i64 x.forgot, .int .i64 x.now, .int .i64 x.inv, .int .i64 x.lin, .int .i64 x.res]) (res_row (t := 2) (cs := [.int .i64 x.op, .int .i64 x.task, .int .i64 x.s.1, .int .i64 x.s.2.1, .int .i64 x.s.2.2.1, .int .i64 x.s.2.2.2.1, .bool x.s.2.2.2.2.1, .slice b0 x.s.2.2.2.2.2.length m0, .int .i64 x.trace, .int .i64 x.stamp, .int .i64 x.code, .bool x.keep, .bool x.void, .int .i64 x.took, .int .i64 x.n, .int .i64 x.forgot, .int .i64 x.now, .int .i64 x.inv, .int .i64 x.lin, .int .i64 x.res]) rfl rfl f1 rowIDeed) rfl ⟨[.int .i64 x.op, .int .i64 x.task, .int .i64 x.s.1, .int .i64 x.s.2.1, .int .i64 x.s.2.2.1, .int .i64 x.s.2.2.2.1, .bool x.s.2.2.2.2.1, .slice b0 x.s.2.2.2.2.2.length m0, .int .i64 x.trace, .int .i64 x.stamp, .int .i64 x.code, .bool x.keep, .bool x.void, .int .i64 x.took, .int .i64 x.n, .int .i64 x.forgot, .int .i64 x.now, .int .i64 x.inv, .int .i64 x.lin, .int .i64 x.res], rfl, ?_, f2⟩
  exact own_fin deedO_keeps deedO_widens (unhide HF) f3 (fun k hk e => by omega) (by omega)

set_option maxHeartbeats 4000000 in
theorem mEqDeed (x : DeedD) (S S' : Nat → Prop) (cs cs' : List Value) (w : World) (hx : deedR w S cs x) (hy : deedR w S' cs' x) :
    Calls Try.prog 71 #[.agg cs.toArray, .agg cs'.toArray] w fun e w' => e = .returned (.bool true) ∧ Below w.heap.size w w' := by
  obtain ⟨s0, rfl, g0⟩ := hx
  obtain ⟨a0, k0, rfl⟩ := g0.form
  obtain ⟨sy0, rfl, gy0⟩ := hy
  obtain ⟨ay0, ky0, rfl⟩ := gy0.form
  have P0 := (Held.new w [.int .i64 x.op, .int .i64 x.task, .int .i64 x.s.1, .int .i64 x.s.2.1, .int .i64 x.s.2.2.1, .int .i64 x.s.2.2.2.1, .bool x.s.2.2.2.2.1, .slice a0 x.s.2.2.2.2.2.length k0, .int .i64 x.trace, .int .i64 x.stamp, .int .i64 x.code, .bool x.keep, .bool x.void, .int .i64 x.took, .int .i64 x.n, .int .i64 x.forgot, .int .i64 x.now, .int .i64 x.inv, .int .i64 x.lin, .int .i64 x.res] 77).keep (bnew _ (.cells #[.int .i64 x.op, .int .i64 x.task, .int .i64 x.s.1, .int .i64 x.s.2.1, .int .i64 x.s.2.2.1, .int .i64 x.s.2.2.2.1, .bool x.s.2.2.2.2.1, .slice ay0 x.s.2.2.2.2.2.length ky0, .int .i64 x.trace, .int .i64 x.stamp, .int .i64 x.code, .bool x.keep, .bool x.void, .int .i64 x.took, .int .i64 x.n, .int .i64 x.forgot, .int .i64 x.now, .int .i64 x.inv, .int .i64 x.lin, .int .i64 x.res] 77))
  have Q0 := Held.new (w.alloc (.cells #[.int .i64 x.op, .int .i64 x.task, .int .i64 x.s.1, .int .i64 x.s.2.1, .int .i64 x.s.2.2.1, .int .i64 x.s.2.2.2.1, .bool x.s.2.2.2.2.1, .slice a0 x.s.2.2.2.2.2.length k0, .int .i64 x.trace, .int .i64 x.stamp, .int .i64 x.code, .bool x.keep, .bool x.void, .int .i64 x.took, .int .i64 x.n, .int .i64 x.forgot, .int .i64 x.now, .int .i64 x.inv, .int .i64 x.lin, .int .i64 x.res] 77)) [.int .i64 x.op, .int .i64 x.task, .int .i64 x.s.1, .int .i64 x.s.2.1, .int .i64 x.s.2.2.1, .int .i64 x.s.2.2.2.1, .bool x.s.2.2.2.2.1, .slice ay0 x.s.2.2.2.2.2.length ky0, .int .i64 x.trace, .int .i64 x.stamp, .int .i64 x.code, .bool x.keep, .bool x.void, .int .i64 x.took, .int .i64 x.n, .int .i64 x.forgot, .int .i64 x.now, .int .i64 x.inv, .int .i64 x.lin, .int .i64 x.res] 77
  rw [show (w.alloc (.cells #[.int .i64 x.op, .int .i64 x.task, .int .i64 x.s.1, .int .i64 x.s.2.1, .int .i64 x.s.2.2.1, .int .i64 x.s.2.2.2.1, .bool x.s.2.2.2.2.1, .slice a0 x.s.2.2.2.2.2.length k0, .int .i64 x.trace, .int .i64 x.stamp, .int .i64 x.code, .bool x.keep, .bool x.void, .int .i64 x.took, .int .i64 x.n, .int .i64 x.forgot, .int .i64 x.now, .int .i64 x.inv, .int .i64 x.lin, .int .i64 x.res] 77)).heap.size = w.heap.size + 1 by simp] at Q0
  have B0 := bthen (bnew w (.cells #[.int .i64 x.op, .int .i64 x.task, .int .i64 x.s.1, .int .i64 x.s.2.1, .int .i64 x.s.2.2.1, .int .i64 x.s.2.2.2.1, .bool x.s.2.2.2.2.1, .slice a0 x.s.2.2.2.2.2.length k0, .int .i64 x.trace, .int .i64 x.stamp, .int .i64 x.code, .bool x.keep, .bool x.void, .int .i64 x.took, .int .i64 x.n, .int .i64 x.forgot, .int .i64 x.now, .int .i64 x.inv, .int .i64 x.lin, .int .i64 x.res] 77)) (bnew _ (.cells #[.int .i64 x.op, .int .i64 x.task, .int .i64 x.s.1, .int .i64 x.s.2.1, .int .i64 x.s.2.2.1, .int .i64 x.s.2.2.2.1, .bool x.s.2.2.2.2.1, .slice ay0 x.s.2.2.2.2.2.length ky0, .int .i64 x.trace, .int .i64 x.stamp, .int .i64 x.code, .bool x.keep, .bool x.void, .int .i64 x.took, .int .i64 x.n, .int .i64 x.forgot, .int .i64 x.now, .int .i64 x.inv, .int .i64 x.lin, .int .i64 x.res] 77))
  go_enter Try.func71, Try.ntmps71
  go_wp2_with fail
  generalize World.alloc (World.alloc w _) _ = w0 at *
  refine (mEqSpan x.s S S' [.int .i64 x.s.1, .int .i64 x.s.2.1, .int .i64 x.s.2.2.1, .int .i64 x.s.2.2.2.1, .bool x.s.2.2.2.2.1, .slice a0 x.s.2.2.2.2.2.length k0] [.int .i64 x.s.1, .int .i64 x.s.2.1, .int .i64 x.s.2.2.1, .int .i64 x.s.2.2.2.1, .bool x.s.2.2.2.2.1, .slice ay0 x.s.2.2.2.2.2.length ky0] _ ⟨_, rfl, g0.keep attrR_keeps B0⟩ ⟨_, rfl, gy0.keep attrR_keeps B0⟩).mono ?_
  rintro e w1 ⟨rfl, hb1⟩
  have B1 := bthen B0 hb1
  have P1 := P0.keep hb1
  have Q1 := Q0.keep hb1
  clear hb1
  have p0 := P1.2 0 _ rfl
  have p1 := P1.2 1 _ rfl
  have p2 := P1.2 2 _ rfl
  have p3 := P1.2 3 _ rfl
  have p4 := P1.2 4 _ rfl
  have p5 := P1.2 5 _ rfl
  have p6 := P1.2 6 _ rfl
  have p7 := P1.2 7 _ rfl
  have p8 := P1.2 8 _ rfl
  have p9 := P1.2 9 _ rfl
  have p10 := P1.2 10 _ rfl
  have p11 := P1.2 11 _ rfl
  have p12 := P1.2 12 _ rfl
  have p13 := P1.2 13 _ rfl
  have p14 := P1.2 14 _ rfl
  have p15 := P1.2 15 _ rfl
  have p16 := P1.2 16 _ rfl
  have p17 := P1.2 17 _ rfl
  have p18 := P1.2 18 _ rfl
  have p19 := P1.2 19 _ rfl
  have q_0 := Q1.2 0 _ rfl
  have q_1 := Q1.2 1 _ rfl
  have q_2 := Q1.2 2 _ rfl
  have q_3 := Q1.2 3 _ rfl
  have q_4 := Q1.2 4 _ rfl
  have q_5 := Q1.2 5 _ rfl
  have q_6 := Q1.2 6 _ rfl
  have q_7 := Q1.2 7 _ rfl
  have q_8 := Q1.2 8 _ rfl
  have q_9 := Q1.2 9 _ rfl
  have q_10 := Q1.2 10 _ rfl
  have q_11 := Q1.2 11 _ rfl
  have q_12 := Q1.2 12 _ rfl
  have q_13 := Q1.2 13 _ rfl
  have q_14 := Q1.2 14 _ rfl
  have q_15 := Q1.2 15 _ rfl
  have q_16 := Q1.2 16 _ rfl
  have q_17 := Q1.2 17 _ rfl
  have q_18 := Q1.2 18 _ rfl
  have q_19 := Q1.2 19 _ rfl
  go_wp2
  go_ret
  exact ⟨rfl, B1⟩

theorem deedR_len2 {w : World} {S : Nat → Prop} {cs : List Value} {x : DeedD} (h : deedR w S cs x) : cs.length = 20 := by
  obtain ⟨s0, rfl, g0⟩ := h
  rfl
theorem deedR_one2 {w : World} {S : Nat → Prop} {cs : List Value} {x : DeedD} (h : deedR w S cs x) : One cs := by
  obtain ⟨s0, rfl, g0⟩ := h
  obtain ⟨a0, k0, rfl⟩ := g0.form
  intro v hv
  simp only [List.mem_cons, List.not_mem_nil, or_false] at hv
  rcases hv with rfl | rfl | rfl | rfl | rfl | rfl | rfl | rfl | rfl | rfl | rfl | rfl | rfl | rfl | rfl | rfl | rfl | rfl | rfl | rfl <;> rfl
theorem mInfoDeed : (Try.prog.info? 77).map (fun i => (i.zero, i.size, i.bytes)) = some (some (.agg #[.int .i64 0, .int .i64 0, .int .i64 0, .int .i64 0, .int .i64 0, .int .i64 0, .bool false, .slice none 0 0, .int .i64 0, .int .i64 0, .int .i64 0, .bool false, .bool false, .int .i64 0, .int .i64 0, .int .i64 0, .int .i64 0, .int .i64 0, .int .i64 0, .int .i64 0]), 20, 168) := by kernel_rfl
theorem mMakeDeed (n : Nat) (hn : n ≤ 1048576) (w : World) : ∃ w0, (Instr.makeSlice 58 (.int .i64 n) (.int .i64 n)).run Try.prog w = .ok (.slice (some ⟨w.heap.size, 0, none⟩) n n) w0 ∧ WrAt w0 w.heap.size 0 (n * 20) ∧ Below w.heap.size w w0 := by
  obtain ⟨i0, hi, hz0, hz1, hz2⟩ := info_parts mInfoDeed
  have h := run_make (P := Try.prog) w 58 77 i0 _ Try.underlying58 hi hz0 .i64 .i64 n n (by omega) (by omega) (by rw [hz2]; omega) (by omega)
  refine ⟨_, h, ?_, bnew _ _⟩
  rw [hz1]
  exact WrAt.new _ _ _ _ (by rw [size_madeCells]; simp)

set_option maxHeartbeats 2000000 in
theorem mSzDeedS (l : List DeedD) (S : Nat → Prop) (v : Value) (left : Int) (w : World) (h0 : 0 ≤ left) (h1 : left ≤ 1048576) (ha : LAt 20 deedR w S v l) :
    Calls Try.prog 17 #[v, .int .i64 left] w fun e w' => (∃ z : Int, e = .returned (.int .i64 z) ∧ (z < 0 ∨ (0 ≤ z ∧ z + bulkL deedBulk l ≤ left))) ∧ Below w.heap.size w w' := by
  obtain ⟨a, cap, rfl⟩ := ha.form
  have hl := ha.len
  have HA := hide ha
  clear ha
  by_cases hlen : left < l.length
  case pos =>
    go_enter Try.func17, Try.ntmps17
    go_wp2
    go_ret
    exact ⟨⟨_, rfl, .inl (by omega)⟩, by (repeat (first | with_reducible assumption | with_reducible exact Below.refl _ _ | with_reducible refine Below.drew ?_ | with_reducible refine bdrewN ?_ _ | (with_reducible refine Below.alloc ?_ ?side _; case side => (first | omega | (simp [go_sem]; done) | (simp [go_sem]; omega))) | (with_reducible refine Below.setCell ?_ ?side _; case side => (first | omega | (simp [go_sem]; done) | (simp [go_sem]; omega)))))⟩
  go_enter Try.func17, Try.ntmps17
  go_wp2
  go_loopw [1, 5] (fun z i wk => ∃ (k : Nat) (zz : Int), k ≤ l.length ∧ i = .int .i64 k ∧ z = .int .i64 zz ∧ 0 ≤ zz ∧ zz + l.length + ((l.take k).map deedBulk).sum ≤ left ∧ Below w.heap.size w wk) (fun _ i _ => l.length - (intOf i).toNat)
  case atStart => exact ⟨0, left - l.length, Nat.zero_le _, rfl, by go_num, by omega, by simp, Below.refl _ _⟩
  case round =>
    obtain ⟨k, zz, hk, rfl, rfl, hz, hsum, hbl⟩ := hrel
    have hbs := hbl.size
    by_cases hlt : k < l.length
    · have hki : (k : Int) < (l.length : Int) := by omega
      have hsn := sum_snoc deedBulk l k hlt
      obtain ⟨b, o, cs, rfl, hbk, hSb, hcs, hin⟩ := (unhide HA).at k hlt
      have hcs := deedR_keeps _ _ S None1 cs _ (Below.turn hbl) none_off hcs
      have hin := hin.turn hbk (Below.turn hbl) (fun e => e)
      have hrw : RowT Try.prog 128 cs.length := by rw [deedR_len2 hcs]; exact rowLDeed
      generalize l[k] = X at *
      have HSN := hide hsn
      clear hsn
      go_wp2_with (first | (refine wpl_load rfl 128 _ rfl _ _ rfl cs hin hrw ?_))
      refine (mSzDeed X S cs zz _ hz (by omega) hcs).mono ?_
      rintro e w2 ⟨⟨z2, rfl, hz2⟩, hb2⟩
      have HZ := hide hz2
      clear hz2
      by_cases hneg : z2 < 0
      · go_wp2
        go_ret
        exact ⟨⟨_, rfl, .inl (by omega)⟩, bthen hbl hb2⟩
      · have hzz : 0 ≤ z2 ∧ z2 + deedBulk X ≤ zz := by rcases unhide HZ with h | h <;> omega
        have hsn' := unhide HSN
        go_wp2
        go_roundw
        case rel => exact ⟨k + 1, z2, by omega, by go_num, by go_num, by omega, by rw [hsn']; omega, bthen hbl hb2⟩
        case measure => simp [intOf]; omega
    · have e : l.take k = l := List.take_of_length_le (by omega)
      rw [e] at hsum
      have hki : ¬ (k : Int) < (l.length : Int) := by omega
      go_wp2
      go_ret
      exact ⟨⟨_, rfl, .inr ⟨hz, by unfold bulkL; omega⟩⟩, hbl⟩
set_option maxHeartbeats 4000000 in
theorem mToDeedS (l : List DeedD) (S : Nat → Prop) (v : Value) (w : World) (h1 : bulkL deedBulk l ≤ 1048576) (ha : LAt 20 deedR w S v l) :
    Calls Try.prog 26 #[v] w fun e w' => ∃ v', e = .returned v' ∧ LOw 20 deedO w' (Within w.heap.size w'.heap.size) v' l ∧ Below w.heap.size w w' := by
  obtain ⟨a, cap, rfl⟩ := ha.form
  have hl := bulkL_len deedBulk l
  have HA := hide ha
  clear ha
  obtain ⟨w0, hmk, hrow, hb0⟩ := mMakeDeed l.length (by omega) w
  go_enter Try.func26, Try.ntmps26
  go_wp2
  go_loopw [4] (fun i wk => ∃ k : Nat, k ≤ l.length ∧ i = .int .i64 k ∧ Below w.heap.size w wk ∧ Hid (Filled 20 deedO w wk l k)) (fun i _ => l.length - (intOf i).toNat)
  case atStart => exact ⟨0, Nat.zero_le _, rfl, hb0, hide (Filled.start _ _ _ _ _ hrow)⟩
  case round =>
    obtain ⟨k, hk, rfl, hbl, hfl⟩ := hrel
    have hbs := hbl.size
    by_cases hlt : k < l.length
    · have hki : (k : Int) < (l.length : Int) := by omega
      obtain ⟨b, o, cs, rfl, hbk, hSb, hcs, hin⟩ := (unhide HA).at k hlt
      have hcs := deedR_keeps _ _ S None1 cs _ (Below.turn hbl) none_off hcs
      have hin := hin.turn hbk (Below.turn hbl) (fun e => e)
      have hXb : deedBulk l[k] ≤ 1048576 := by have := bulkL_mem deedBulk (List.getElem_mem hlt); omega
      have hrw : RowT Try.prog 128 cs.length := by rw [deedR_len2 hcs]; exact rowLDeed
      generalize hX : l[k] = X at *
      have HX := hide hX
      clear hX hmk hrow
      go_wp2_with (first | (refine wpl_load rfl 128 _ rfl _ _ rfl cs hin hrw ?_))
      refine (mToDeed X S cs _ hXb hcs).mono ?_
      rintro e w2 ⟨cs2, rfl, yy, hb2⟩
      have hln := deedO_len yy
      have on2 := deedR_one2 (deedO_read _ _ _ _ yy)
      have hri : RowT Try.prog 77 cs2.length := by rw [hln]; exact rowIDeed
      have hwr : WrAt w2 w.heap.size (k * 20) cs2.length := by
        have h := ((unhide hfl).1.keep hb2).part (k * 20) 20 (by omega)
        rw [hln]; rwa [Nat.zero_add] at h
      have HB := hide (And.intro yy (And.intro hb2 hln))
      clear yy hb2 hln
      go_wp2_with (first | (refine wpl_store_at rfl 77 _ _ rfl _ _ cs2 rfl rfl hwr on2 hri ?_))
      go_roundw
      case rel =>
        obtain ⟨yy, hb2, hln⟩ := unhide HB
        have st := Filled.step (cs := cs2) deedO_keeps (unhide hfl) hlt hb2 (by rw [unhide HX]; exact yy) hln
        exact ⟨k + 1, by omega, by go_num, (bthen hbl hb2).trans ((putL_turn _ _ _ _ _).belowFrom (bthen hbl hb2).size (fun k hk => by omega)), hide st⟩
      case measure => simp [intOf]; omega
    · have hki : ¬ (k : Int) < (l.length : Int) := by omega
      obtain rfl : k = l.length := by omega
      go_wp2
      go_ret
      exact ⟨_, rfl, (unhide hfl).done (by omega), hbl⟩
set_option maxHeartbeats 4000000 in
theorem mEqDeedS (l : List DeedD) (S S' : Nat → Prop) (v v' : Value) (w : World) (ha : LAt 20 deedR w S v l) (hb : LAt 20 deedR w S' v' l) :
    Calls Try.prog 42 #[v, v'] w fun e w' => e = .returned (.bool true) ∧ Below w.heap.size w w' := by
  obtain ⟨a, cap, rfl⟩ := ha.form
  obtain ⟨a', cap', rfl⟩ := hb.form
  have hl := ha.len
  have HA := hide ha
  have HB := hide hb
  clear ha hb
  go_enter Try.func42, Try.ntmps42
  go_wp2
  go_loopw [5] (fun i wk => ∃ k : Nat, k ≤ l.length ∧ i = .int .i64 k ∧ Below w.heap.size w wk) (fun i _ => l.length - (intOf i).toNat)
  case atStart => exact ⟨0, Nat.zero_le _, rfl, Below.refl _ _⟩
  case round =>
    obtain ⟨k, hk, rfl, hbl⟩ := hrel
    have hbs := hbl.size
    by_cases hlt : k < l.length
    · have hki : (k : Int) < (l.length : Int) := by omega
      obtain ⟨b, o, cs, rfl, hbk, hSb, hcs, hin⟩ := (unhide HA).at k hlt
      have hcs := deedR_keeps _ _ S None1 cs _ (Below.turn hbl) none_off hcs
      have hin := hin.turn hbk (Below.turn hbl) (fun e => e)
      have hbkA := Nat.lt_of_lt_of_le hbk hbs
      obtain ⟨b', o', cs2, rfl, hbk', hSb', hcs2, hin2⟩ := (unhide HB).at k hlt
      have hcs2 := deedR_keeps _ _ S' None1 cs2 _ (Below.turn hbl) none_off hcs2
      have hin2 := hin2.turn hbk' (Below.turn hbl) (fun e => e)
      have hbkB := Nat.lt_of_lt_of_le hbk' hbs
      have hrw : RowT Try.prog 77 cs.length := by rw [deedR_len2 hcs]; exact rowIDeed
      have hrw2 : RowT Try.prog 77 cs2.length := by rw [deedR_len2 hcs2]; exact rowIDeed
      generalize l[k] = X at *
      go_upto_region 6 with fail
      refine wp_region_held_drew (S := fun w' => Below wr.heap.size wr w') (by kernel_rfl) (Below.drew (Below.refl _ _)) (fun hHeld => ?_)
      refine wpAnyH_take (i := 0) (oi := ?oo1) (v := ?vv1) ?hi1 (by kernel_rfl) (by kernel_rfl) (by kernel_rfl) ?hQ1 ?hy1 (by assumption) ?rest1
      case hi1 => (simp only [List.getElem?_toArray, List.getElem?_cons_zero]; rfl)
      case hQ1 => exact fun _ _ _ h => h
      case hy1 => exact Or.inl ⟨by rfl, by intro wS hSw; (try dsimp only at hSw); go_simp; try first | (with_reducible rfl) | (simp only [*]; done) | omega⟩
      try simp only [Act.put, List.setIfInBounds_toArray, List.set_cons_zero, List.set_cons_succ]
      refine wpAnyH_take (i := 1) (oi := ?oo2) (v := ?vv2) ?hi2 (by kernel_rfl) (by kernel_rfl) (by kernel_rfl) ?hQ2 ?hy2 (by assumption) ?rest2
      case hi2 => (simp only [List.getElem?_toArray, List.getElem?_cons_zero, List.getElem?_cons_succ]; rfl)
      case hQ2 => exact fun _ _ _ h => h
      case hy2 => exact Or.inl ⟨by rfl, by intro wS hSw; (try dsimp only at hSw); go_simp; try first | (with_reducible rfl) | (simp only [*]; done) | omega⟩
      try simp only [Act.put, List.setIfInBounds_toArray, List.set_cons_zero, List.set_cons_succ]
      refine wpAnyH_take (i := 2) (oi := ?oo3) (v := ?vv3) ?hi3 (by kernel_rfl) (by kernel_rfl) (by kernel_rfl) ?hQ3 ?hy3 (by assumption) ?rest3
      case hi3 => (simp only [List.getElem?_toArray, List.getElem?_cons_zero, List.getElem?_cons_succ]; rfl)
      case hQ3 => exact fun _ _ _ h => h
      case hy3 => exact Or.inl ⟨by rfl, by intro wS hSw; (try dsimp only at hSw); go_simp; try first | (with_reducible rfl) | (simp only [*]; done) | omega⟩
      try simp only [Act.put, List.setIfInBounds_toArray, List.set_cons_zero, List.set_cons_succ]
      refine wpAnyH_take (i := 3) (oi := ?oo4) (v := .agg cs.toArray) ?hi4 (by kernel_rfl) (by kernel_rfl) (by kernel_rfl) ?hQ4 ?hy4 (by assumption) ?rest4
      case hi4 => (simp only [List.getElem?_toArray, List.getElem?_cons_zero, List.getElem?_cons_succ]; rfl)
      case hQ4 => exact fun _ _ _ h => h
      case hy4 => exact yld_load (by rfl) _ _ rfl _ _ rfl cs (fun w' hS => hin.turn hbkA (Below.turn hS) (fun e => e)) hrw
      try simp only [Act.put, List.setIfInBounds_toArray, List.set_cons_zero, List.set_cons_succ]
      refine wpAnyH_take (i := 4) (oi := ?oo5) (v := ?vv5) ?hi5 (by kernel_rfl) (by kernel_rfl) (by kernel_rfl) ?hQ5 ?hy5 (by assumption) ?rest5
      case hi5 => (simp only [List.getElem?_toArray, List.getElem?_cons_zero, List.getElem?_cons_succ]; rfl)
      case hQ5 => exact fun _ _ _ h => h
      case hy5 => exact Or.inl ⟨by rfl, by intro wS hSw; (try dsimp only at hSw); go_simp; try first | (with_reducible rfl) | (simp only [*]; done) | omega⟩
      try simp only [Act.put, List.setIfInBounds_toArray, List.set_cons_zero, List.set_cons_succ]
      refine wpAnyH_take (i := 5) (oi := ?oo6) (v := ?vv6) ?hi6 (by kernel_rfl) (by kernel_rfl) (by kernel_rfl) ?hQ6 ?hy6 (by assumption) ?rest6
      case hi6 => (simp only [List.getElem?_toArray, List.getElem?_cons_zero, List.getElem?_cons_succ]; rfl)
      case hQ6 => exact fun _ _ _ h => h
      case hy6 => exact Or.inl ⟨by rfl, by intro wS hSw; (try dsimp only at hSw); go_simp; try first | (with_reducible rfl) | (simp only [*]; done) | omega⟩
      try simp only [Act.put, List.setIfInBounds_toArray, List.set_cons_zero, List.set_cons_succ]
      refine wpAnyH_take (i := 6) (oi := ?oo7) (v := ?vv7) ?hi7 (by kernel_rfl) (by kernel_rfl) (by kernel_rfl) ?hQ7 ?hy7 (by assumption) ?rest7
      case hi7 => (simp only [List.getElem?_toArray, List.getElem?_cons_zero, List.getElem?_cons_succ]; rfl)
      case hQ7 => exact fun _ _ _ h => h
      case hy7 => exact Or.inl ⟨by rfl, by intro wS hSw; (try dsimp only at hSw); go_simp; try first | (with_reducible rfl) | (simp only [*]; done) | omega⟩
      try simp only [Act.put, List.setIfInBounds_toArray, List.set_cons_zero, List.set_cons_succ]
      refine wpAnyH_take (i := 7) (oi := ?oo8) (v := .agg cs2.toArray) ?hi8 (by kernel_rfl) (by kernel_rfl) (by kernel_rfl) ?hQ8 ?hy8 (by assumption) ?rest8
      case hi8 => (simp only [List.getElem?_toArray, List.getElem?_cons_zero, List.getElem?_cons_succ]; rfl)
      case hQ8 => exact fun _ _ _ h => h
      case hy8 => exact yld_load (by rfl) _ _ rfl _ _ rfl cs2 (fun w' hS => hin2.turn hbkB (Below.turn hS) (fun e => e)) hrw2
      try simp only [Act.put, List.setIfInBounds_toArray, List.set_cons_zero, List.set_cons_succ]
      refine wpAnyH_ready (rs := [8]) (by kernel_rfl) (by simp) ?_
      refine (AllReadyH.cons (o := ?bo9n8) ?bh9n8 (fun K hK => ?br9n8) AllReadyH.nil)
      case bh9n8 => (simp only [List.getElem?_toArray, List.getElem?_cons_zero, List.getElem?_cons_succ]; rfl)
      case br9n8 =>
        go_simp
        refine (mEqDeed X S S' cs cs2 _ (deedR_keeps _ _ _ None1 _ _ (Below.turn hHeld) none_off hcs) (deedR_keeps _ _ _ None1 _ _ (Below.turn hHeld) none_off hcs2)).mono ?_
        rintro e w5 ⟨rfl, hb5⟩
        have hH5 := bthen hHeld hb5
        clear hHeld hb5
        go_wp2_with fail
        refine hK.out _ _ (hH5) (fun hHeld => ?_)
        clear hK
        refine wpAnyH_take (i := 9) (oi := ?oo10) (v := ?vv10) ?hi10 (by kernel_rfl) (by kernel_rfl) (by kernel_rfl) ?hQ10 ?hy10 (by assumption) ?rest10
        case hi10 => (simp only [List.getElem?_toArray, List.getElem?_cons_zero, List.getElem?_cons_succ]; rfl)
        case hQ10 => exact fun _ _ _ h => h
        case hy10 => exact Or.inl ⟨by rfl, by intro wS hSw; (try dsimp only at hSw); go_simp; try first | (with_reducible rfl) | (simp only [*]; done) | omega⟩
        try simp only [Act.put, List.setIfInBounds_toArray, List.set_cons_zero, List.set_cons_succ]
        refine wpAnyH_done (by kernel_rfl) ?_ _
        go_wp2
        go_roundw
        case rel => exact ⟨k + 1, by omega, by go_num, bthen hbl hHeld⟩
        case measure => simp [intOf]; omega
    · have hki : ¬ (k : Int) < (l.length : Int) := by omega
      go_wp2
      go_ret
      exact ⟨rfl, hbl⟩
end Go.Proofs.Ytciipadkdglhmaa
