/-
  Task: what lies in memory, read and owned; contracts of the law's own sizes, copies and comparisons.
-/
import Derived.Test.YtciipadkdglhmaaTItem
import Derived.Deep.CutRange
namespace Go.Proofs.Ytciipadkdglhmaa
open Go.ChangeShapes Go.WideShapes Go.ChangeAt Go.RowKit
set_option linter.unusedVariables false
set_option maxRecDepth 100000

structure TaskD where
  op : Int
  pc : Int
  s : SpanD
  trace : Int
  stamp : Int
  hand : List ItemD
  h : Int
def taskBulk (x : TaskD) : Nat := bulkL attrBulk x.s.2.2.2.2.2 + bulkL itemBulk x.hand
def taskR (w : World) (S : Nat → Prop) (cs : List Value) (x : TaskD) : Prop := ∃ s0 s1, cs = [.int .i64 x.op, .int .i64 x.pc, .int .i64 x.s.1, .int .i64 x.s.2.1, .int .i64 x.s.2.2.1, .int .i64 x.s.2.2.2.1, .bool x.s.2.2.2.2.1, s0, .int .i64 x.trace, .int .i64 x.stamp, s1, .int .i64 x.h] ∧ LAt 4 attrR w S s0 x.s.2.2.2.2.2 ∧ LAt 7 itemR w S s1 x.hand
def taskO (w : World) (S : Nat → Prop) (cs : List Value) (x : TaskD) : Prop := ∃ s0 s1 : Value, ∃ T : Nat → Nat → Prop, cs = [.int .i64 x.op, .int .i64 x.pc, .int .i64 x.s.1, .int .i64 x.s.2.1, .int .i64 x.s.2.2.1, .int .i64 x.s.2.2.2.1, .bool x.s.2.2.2.2.1, s0, .int .i64 x.trace, .int .i64 x.stamp, s1, .int .i64 x.h] ∧ (∀ i k, T i k → S k) ∧ (∀ i j k, T i k → T j k → i = j) ∧ LOw 4 attrO w (T 0) s0 x.s.2.2.2.2.2 ∧ LOw 7 itemO w (T 1) s1 x.hand
theorem taskR_keeps : Keeps taskR := by
  intro w w' S T cs x ht hd h
  obtain ⟨s0, s1, e, g0, g1⟩ := h
  exact ⟨s0, s1, e, g0.turn attrR_keeps ht hd, g1.turn itemR_keeps ht hd⟩
theorem taskR_widens : Widens taskR := by
  intro w S T cs x hs h
  obtain ⟨s0, s1, e, g0, g1⟩ := h
  exact ⟨s0, s1, e, g0.widens attrR_widens hs, g1.widens itemR_widens hs⟩
theorem taskO_keeps : Keeps taskO := by
  intro w w' S T cs x ht hd h
  obtain ⟨s0, s1, U, e, u1, u2, g0, g1⟩ := h
  exact ⟨s0, s1, U, e, u1, u2, g0.turn attrO_keeps ht (fun k hk => hd k (u1 0 k hk)), g1.turn itemO_keeps ht (fun k hk => hd k (u1 1 k hk))⟩
theorem taskO_widens : Widens taskO := by
  intro w S T cs x hs h
  obtain ⟨s0, s1, U, e, u1, u2, g0, g1⟩ := h
  exact ⟨s0, s1, U, e, fun i k hk => hs k (u1 i k hk), u2, g0, g1⟩
theorem taskO_read (w : World) (S : Nat → Prop) (cs : List Value) (x : TaskD) (h : taskO w S cs x) : taskR w S cs x := by
  obtain ⟨s0, s1, U, e, u1, u2, g0, g1⟩ := h
  exact ⟨s0, s1, e, (g0.read attrR_widens attrO_read).widens attrR_widens (u1 0), (g1.read itemR_widens itemO_read).widens itemR_widens (u1 1)⟩
theorem taskO_len {w : World} {S : Nat → Prop} {cs : List Value} {x : TaskD} (h : taskO w S cs x) : cs.length = 12 := by
  obtain ⟨s0, s1, _, rfl, _, _, _, _⟩ := h; rfl

set_option maxHeartbeats 2000000 in
theorem mSzTask (x : TaskD) (S : Nat → Prop) (cs : List Value) (left : Int) (w : World) (h0 : 0 ≤ left) (h1 : left ≤ 1048576) (hx : taskR w S cs x) :
    Calls Try.prog 47 #[.agg cs.toArray, .int .i64 left] w fun e w' => (∃ z : Int, e = .returned (.int .i64 z) ∧ (z < 0 ∨ (0 ≤ z ∧ z + taskBulk x ≤ left))) ∧ Below w.heap.size w w' := by
  unfold taskBulk
  obtain ⟨s0, s1, rfl, g0, g1⟩ := hx
  obtain ⟨a0, k0, rfl⟩ := g0.form
  obtain ⟨a1, k1, rfl⟩ := g1.form
  have H0 := Held.new w [.int .i64 x.op, .int .i64 x.pc, .int .i64 x.s.1, .int .i64 x.s.2.1, .int .i64 x.s.2.2.1, .int .i64 x.s.2.2.2.1, .bool x.s.2.2.2.2.1, .slice a0 x.s.2.2.2.2.2.length k0, .int .i64 x.trace, .int .i64 x.stamp, .slice a1 x.hand.length k1, .int .i64 x.h] 125
  have B0 := bnew w (.cells #[.int .i64 x.op, .int .i64 x.pc, .int .i64 x.s.1, .int .i64 x.s.2.1, .int .i64 x.s.2.2.1, .int .i64 x.s.2.2.2.1, .bool x.s.2.2.2.2.1, .slice a0 x.s.2.2.2.2.2.length k0, .int .i64 x.trace, .int .i64 x.stamp, .slice a1 x.hand.length k1, .int .i64 x.h] 125)
  go_enter Try.func47, Try.ntmps47
  go_wp2_with fail
  refine (mSzSpan x.s S [.int .i64 x.s.1, .int .i64 x.s.2.1, .int .i64 x.s.2.2.1, .int .i64 x.s.2.2.2.1, .bool x.s.2.2.2.2.1, .slice a0 x.s.2.2.2.2.2.length k0] left _ h0 h1 ⟨_, rfl, g0.keep attrR_keeps B0⟩).mono ?_
  rintro e w1 ⟨⟨z1, rfl, hz1⟩, hb1⟩
  have HZ1 := hide hz1
  have B1 := bthen B0 hb1
  have H1 := H0.keep hb1
  clear hz1 hb1
  by_cases hneg1 : z1 < 0
  · go_wp2
    go_ret
    exact ⟨⟨_, rfl, .inl (by omega)⟩, B1⟩
  have hzz1 : 0 ≤ z1 ∧ z1 + spanBulk x.s ≤ left := by rcases unhide HZ1 with h | h <;> omega
  clear HZ1
  have p0 := H1.2 0 _ rfl
  have p1 := H1.2 1 _ rfl
  have p2 := H1.2 2 _ rfl
  have p3 := H1.2 3 _ rfl
  have p4 := H1.2 4 _ rfl
  have p5 := H1.2 5 _ rfl
  have p6 := H1.2 6 _ rfl
  have p7 := H1.2 7 _ rfl
  have p8 := H1.2 8 _ rfl
  have p9 := H1.2 9 _ rfl
  have p10 := H1.2 10 _ rfl
  have p11 := H1.2 11 _ rfl
  go_wp2_with fail
  refine (mSzItemS x.hand S _ z1 _ (by omega) (by omega) (g1.keep itemR_keeps B1)).mono ?_
  rintro e w2 ⟨⟨z2, rfl, hz2⟩, hb2⟩
  have HZ2 := hide hz2
  have B2 := bthen B1 hb2
  have H2 := H1.keep hb2
  clear hz2 hb2
  clear p0 p1 p2 p3 p4 p5 p6 p7 p8 p9 p10 p11
  by_cases hneg2 : z2 < 0
  · go_wp2
    go_ret
    exact ⟨⟨_, rfl, .inl (by omega)⟩, B2⟩
  have hzz2 : 0 ≤ z2 ∧ z2 + bulkL itemBulk x.hand ≤ z1 := by rcases unhide HZ2 with h | h <;> omega
  clear HZ2
  have hfin : z2 < 0 ∨ (0 ≤ z2 ∧ z2 + (bulkL attrBulk x.s.2.2.2.2.2 + bulkL itemBulk x.hand : Nat) ≤ left) := by unfold spanBulk at *; omega
  have HF := hide hfin
  clear hfin
  go_wp2
  go_ret
  exact ⟨⟨_, rfl, unhide HF⟩, B2⟩

set_option maxHeartbeats 4000000 in
theorem mToTask (x : TaskD) (S : Nat → Prop) (cs : List Value) (w : World) (hb : taskBulk x ≤ 1048576) (hx : taskR w S cs x) :
    Calls Try.prog 55 #[.agg cs.toArray] w fun e w' => ∃ cs', e = .returned (.agg cs'.toArray) ∧ taskO w' (Within w.heap.size w'.heap.size) cs' x ∧ Below w.heap.size w w' := by
  obtain ⟨s0, s1, rfl, g0, g1⟩ := hx
  obtain ⟨a0, k0, rfl⟩ := g0.form
  obtain ⟨a1, k1, rfl⟩ := g1.form
  unfold taskBulk at hb
  go_enter Try.func55, Try.ntmps55
  go_wp2_with fail
  generalize hW : World.alloc (World.alloc (World.alloc w _) _) _ = w1
  have B1 : Below w.heap.size w w1 := by rw [← hW]; (repeat (first | with_reducible assumption | with_reducible exact Below.refl _ _ | with_reducible refine Below.drew ?_ | with_reducible refine bdrewN ?_ _ | (with_reducible refine Below.alloc ?_ ?side _; case side => (first | omega | (simp [go_sem]; done) | (simp [go_sem]; omega))) | (with_reducible refine Below.setCell ?_ ?side _; case side => (first | omega | (simp [go_sem]; done) | (simp [go_sem]; omega)))))
  have P1 : Held w1 w.heap.size [.int .i64 x.op, .int .i64 x.pc, .int .i64 x.s.1, .int .i64 x.s.2.1, .int .i64 x.s.2.2.1, .int .i64 x.s.2.2.2.1, .bool x.s.2.2.2.2.1, .slice a0 x.s.2.2.2.2.2.length k0, .int .i64 x.trace, .int .i64 x.stamp, .slice a1 x.hand.length k1, .int .i64 x.h] := by rw [← hW]; exact ((Held.new w [.int .i64 x.op, .int .i64 x.pc, .int .i64 x.s.1, .int .i64 x.s.2.1, .int .i64 x.s.2.2.1, .int .i64 x.s.2.2.2.1, .bool x.s.2.2.2.2.1, .slice a0 x.s.2.2.2.2.2.length k0, .int .i64 x.trace, .int .i64 x.stamp, .slice a1 x.hand.length k1, .int .i64 x.h] 125).keep (bnew _ _)).keep (bnew _ _)
  have R1 : Held w1 (w.heap.size + 1) [.int .i64 0, .int .i64 0, .int .i64 0, .int .i64 0, .int .i64 0, .int .i64 0, .bool false, .slice none 0 0, .int .i64 0, .int .i64 0, .slice none 0 0, .int .i64 0] := by rw [← hW]; have := (Held.new (w.alloc (.cells #[.int .i64 x.op, .int .i64 x.pc, .int .i64 x.s.1, .int .i64 x.s.2.1, .int .i64 x.s.2.2.1, .int .i64 x.s.2.2.2.1, .bool x.s.2.2.2.2.1, .slice a0 x.s.2.2.2.2.2.length k0, .int .i64 x.trace, .int .i64 x.stamp, .slice a1 x.hand.length k1, .int .i64 x.h] 125)) [.int .i64 0, .int .i64 0, .int .i64 0, .int .i64 0, .int .i64 0, .int .i64 0, .bool false, .slice none 0 0, .int .i64 0, .int .i64 0, .slice none 0 0, .int .i64 0] 79).keep (bnew _ (.cells #[.int .i64 x.op, .int .i64 x.pc, .int .i64 0, .int .i64 0, .int .i64 0, .int .i64 0, .bool false, .slice none 0 0, .int .i64 0, .int .i64 0, .slice none 0 0, .int .i64 0] 79)); simpa using this
  have RW1 : WrAt w1 (w.heap.size + 1) 0 12 := by rw [← hW]; have := (WrAt.new (w.alloc (.cells #[.int .i64 x.op, .int .i64 x.pc, .int .i64 x.s.1, .int .i64 x.s.2.1, .int .i64 x.s.2.2.1, .int .i64 x.s.2.2.2.1, .bool x.s.2.2.2.2.1, .slice a0 x.s.2.2.2.2.2.length k0, .int .i64 x.trace, .int .i64 x.stamp, .slice a1 x.hand.length k1, .int .i64 x.h] 125)) #[.int .i64 0, .int .i64 0, .int .i64 0, .int .i64 0, .int .i64 0, .int .i64 0, .bool false, .slice none 0 0, .int .i64 0, .int .i64 0, .slice none 0 0, .int .i64 0] 79 12 rfl).keep (bnew _ (.cells #[.int .i64 x.op, .int .i64 x.pc, .int .i64 0, .int .i64 0, .int .i64 0, .int .i64 0, .bool false, .slice none 0 0, .int .i64 0, .int .i64 0, .slice none 0 0, .int .i64 0] 79)); simpa using this
  have O1 : Held w1 (w.heap.size + 2) [.int .i64 x.op, .int .i64 x.pc, .int .i64 0, .int .i64 0, .int .i64 0, .int .i64 0, .bool false, .slice none 0 0, .int .i64 0, .int .i64 0, .slice none 0 0, .int .i64 0] := by rw [← hW]; have := Held.new ((w.alloc (.cells #[.int .i64 x.op, .int .i64 x.pc, .int .i64 x.s.1, .int .i64 x.s.2.1, .int .i64 x.s.2.2.1, .int .i64 x.s.2.2.2.1, .bool x.s.2.2.2.2.1, .slice a0 x.s.2.2.2.2.2.length k0, .int .i64 x.trace, .int .i64 x.stamp, .slice a1 x.hand.length k1, .int .i64 x.h] 125)).alloc (.cells #[.int .i64 0, .int .i64 0, .int .i64 0, .int .i64 0, .int .i64 0, .int .i64 0, .bool false, .slice none 0 0, .int .i64 0, .int .i64 0, .slice none 0 0, .int .i64 0] 79)) [.int .i64 x.op, .int .i64 x.pc, .int .i64 0, .int .i64 0, .int .i64 0, .int .i64 0, .bool false, .slice none 0 0, .int .i64 0, .int .i64 0, .slice none 0 0, .int .i64 0] 79; simpa using this
  have OW1 : WrAt w1 (w.heap.size + 2) 0 12 := by rw [← hW]; have := WrAt.new ((w.alloc (.cells #[.int .i64 x.op, .int .i64 x.pc, .int .i64 x.s.1, .int .i64 x.s.2.1, .int .i64 x.s.2.2.1, .int .i64 x.s.2.2.2.1, .bool x.s.2.2.2.2.1, .slice a0 x.s.2.2.2.2.2.length k0, .int .i64 x.trace, .int .i64 x.stamp, .slice a1 x.hand.length k1, .int .i64 x.h] 125)).alloc (.cells #[.int .i64 0, .int .i64 0, .int .i64 0, .int .i64 0, .int .i64 0, .int .i64 0, .bool false, .slice none 0 0, .int .i64 0, .int .i64 0, .slice none 0 0, .int .i64 0] 79)) #[.int .i64 x.op, .int .i64 x.pc, .int .i64 0, .int .i64 0, .int .i64 0, .int .i64 0, .bool false, .slice none 0 0, .int .i64 0, .int .i64 0, .slice none 0 0, .int .i64 0] 79 12 rfl; simpa using this
  have hs1 : w1.heap.size = w.heap.size + 3 := by rw [← hW]; simp
  clear hW
  refine (mToSpan x.s S [.int .i64 x.s.1, .int .i64 x.s.2.1, .int .i64 x.s.2.2.1, .int .i64 x.s.2.2.2.1, .bool x.s.2.2.2.2.1, .slice a0 x.s.2.2.2.2.2.length k0] w1 (by first | omega | (unfold spanBulk; omega)) ⟨_, rfl, g0.keep attrR_keeps B1⟩).mono ?_
  rintro e w2 ⟨cs2, rfl, y0, hb2⟩
  obtain ⟨t0, rfl, y0⟩ := y0
  obtain ⟨b0, m0, rfl⟩ := y0.form
  have B2 := bthen B1 hb2
  have hz2 := hb2.size
  have P2 := P1.keep hb2
  have R2 := R1.keep hb2
  have RW2 := RW1.keep hb2
  have O2 := O1.keep hb2
  have OW2 := OW1.keep hb2
  clear hb2
  have Y2 := hide (And.intro B2 (And.intro P2 (And.intro R2 (And.intro RW2 (And.intro O2 OW2)))))
  have hs2 := B2.size
  have Ky0 := hide y0
  clear y0
  have p0 := P2.2 0 _ rfl
  have p1 := P2.2 1 _ rfl
  have p2 := P2.2 2 _ rfl
  have p3 := P2.2 3 _ rfl
  have p4 := P2.2 4 _ rfl
  have p5 := P2.2 5 _ rfl
  have p6 := P2.2 6 _ rfl
  have p7 := P2.2 7 _ rfl
  have p8 := P2.2 8 _ rfl
  have p9 := P2.2 9 _ rfl
  have p10 := P2.2 10 _ rfl
  have p11 := P2.2 11 _ rfl
  have r0 := R2.2 0 _ rfl
  have r1 := R2.2 1 _ rfl
  have r2 := R2.2 2 _ rfl
  have r3 := R2.2 3 _ rfl
  have r4 := R2.2 4 _ rfl
  have r5 := R2.2 5 _ rfl
  have r6 := R2.2 6 _ rfl
  have r7 := R2.2 7 _ rfl
  have r8 := R2.2 8 _ rfl
  have r9 := R2.2 9 _ rfl
  have r10 := R2.2 10 _ rfl
  have r11 := R2.2 11 _ rfl
  have o0 := O2.2 0 _ rfl
  have o1 := O2.2 1 _ rfl
  have o2 := O2.2 2 _ rfl
  have o3 := O2.2 3 _ rfl
  have o4 := O2.2 4 _ rfl
  have o5 := O2.2 5 _ rfl
  have o6 := O2.2 6 _ rfl
  have o7 := O2.2 7 _ rfl
  have o8 := O2.2 8 _ rfl
  have o9 := O2.2 9 _ rfl
  have o10 := O2.2 10 _ rfl
  have o11 := O2.2 11 _ rfl
  have rf0 : w2.frozen? ⟨w.heap.size + 1, 0, none⟩ = false := RW2.free 0 (by omega)
  have of0 : w2.frozen? ⟨w.heap.size + 2, 0, none⟩ = false := OW2.free 0 (by omega)
  have rf1 : w2.frozen? ⟨w.heap.size + 1, 1, none⟩ = false := RW2.free 1 (by omega)
  have of1 : w2.frozen? ⟨w.heap.size + 2, 1, none⟩ = false := OW2.free 1 (by omega)
  have rf2 : w2.frozen? ⟨w.heap.size + 1, 2, none⟩ = false := RW2.free 2 (by omega)
  have of2 : w2.frozen? ⟨w.heap.size + 2, 2, none⟩ = false := OW2.free 2 (by omega)
  have rf3 : w2.frozen? ⟨w.heap.size + 1, 3, none⟩ = false := RW2.free 3 (by omega)
  have of3 : w2.frozen? ⟨w.heap.size + 2, 3, none⟩ = false := OW2.free 3 (by omega)
  have rf4 : w2.frozen? ⟨w.heap.size + 1, 4, none⟩ = false := RW2.free 4 (by omega)
  have of4 : w2.frozen? ⟨w.heap.size + 2, 4, none⟩ = false := OW2.free 4 (by omega)
  have rf5 : w2.frozen? ⟨w.heap.size + 1, 5, none⟩ = false := RW2.free 5 (by omega)
  have of5 : w2.frozen? ⟨w.heap.size + 2, 5, none⟩ = false := OW2.free 5 (by omega)
  have rf6 : w2.frozen? ⟨w.heap.size + 1, 6, none⟩ = false := RW2.free 6 (by omega)
  have of6 : w2.frozen? ⟨w.heap.size + 2, 6, none⟩ = false := OW2.free 6 (by omega)
  have rf7 : w2.frozen? ⟨w.heap.size + 1, 7, none⟩ = false := RW2.free 7 (by omega)
  have of7 : w2.frozen? ⟨w.heap.size + 2, 7, none⟩ = false := OW2.free 7 (by omega)
  have rf8 : w2.frozen? ⟨w.heap.size + 1, 8, none⟩ = false := RW2.free 8 (by omega)
  have of8 : w2.frozen? ⟨w.heap.size + 2, 8, none⟩ = false := OW2.free 8 (by omega)
  have rf9 : w2.frozen? ⟨w.heap.size + 1, 9, none⟩ = false := RW2.free 9 (by omega)
  have of9 : w2.frozen? ⟨w.heap.size + 2, 9, none⟩ = false := OW2.free 9 (by omega)
  have rf10 : w2.frozen? ⟨w.heap.size + 1, 10, none⟩ = false := RW2.free 10 (by omega)
  have of10 : w2.frozen? ⟨w.heap.size + 2, 10, none⟩ = false := OW2.free 10 (by omega)
  have rf11 : w2.frozen? ⟨w.heap.size + 1, 11, none⟩ = false := RW2.free 11 (by omega)
  have of11 : w2.frozen? ⟨w.heap.size + 2, 11, none⟩ = false := OW2.free 11 (by omega)
  clear B2 P2 R2 RW2 O2 OW2
  go_upto_region 6 with fail
  generalize hW : World.setCell (World.setCell (World.setCell (World.setCell (World.setCell (World.setCell (World.setCell w2 _ _) _ _) _ _) _ _) _ _) _ _) _ _ = w3
  obtain ⟨B2, P2, R2, RW2, O2, OW2⟩ := unhide Y2
  have y0 := unhide Ky0
  have ht : Turn (fun k => k = w.heap.size + 2) w2 w3 := by rw [← hW]; repeat (first | with_reducible exact Turn.refl _ _ | (with_reducible refine Turn.setIn ?_ ?side _; case side => rfl))
  have B3 : Below w.heap.size w w3 := B2.trans (ht.belowFrom hs2 (fun k hk => by omega))
  have P3 := P2.turn ht (by omega)
  have R3 := R2.turn ht (by omega)
  have RW3 := RW2.turn ht (by omega)
  have O3 : Held w3 (w.heap.size + 2) [.int .i64 x.op, .int .i64 x.pc, .int .i64 x.s.1, .int .i64 x.s.2.1, .int .i64 x.s.2.2.1, .int .i64 x.s.2.2.2.1, .bool x.s.2.2.2.2.1, .slice b0 x.s.2.2.2.2.2.length m0, .int .i64 x.trace, .int .i64 0, .slice none 0 0, .int .i64 0] := by rw [← hW]; exact (((((((O2.set 2 (.int .i64 x.s.1) (by simp)).set 3 (.int .i64 x.s.2.1) (by simp)).set 4 (.int .i64 x.s.2.2.1) (by simp)).set 5 (.int .i64 x.s.2.2.2.1) (by simp)).set 6 (.bool x.s.2.2.2.2.1) (by simp)).set 7 (.slice b0 x.s.2.2.2.2.2.length m0) (by simp)).set 8 (.int .i64 x.trace) (by simp))
  have OW3 : WrAt w3 (w.heap.size + 2) 0 12 := by rw [← hW]; exact (((((((OW2.set ⟨w.heap.size + 2, 2, none⟩ (.int .i64 x.s.1)).set ⟨w.heap.size + 2, 3, none⟩ (.int .i64 x.s.2.1)).set ⟨w.heap.size + 2, 4, none⟩ (.int .i64 x.s.2.2.1)).set ⟨w.heap.size + 2, 5, none⟩ (.int .i64 x.s.2.2.2.1)).set ⟨w.heap.size + 2, 6, none⟩ (.bool x.s.2.2.2.2.1)).set ⟨w.heap.size + 2, 7, none⟩ (.slice b0 x.s.2.2.2.2.2.length m0)).set ⟨w.heap.size + 2, 8, none⟩ (.int .i64 x.trace))
  have y0 := y0.turn attrO_keeps ht (fun k hk e => by have := hk.1; omega)
  have hz3 := ht.size
  clear hW ht p0 r0 o0 rf0 of0 p1 r1 o1 rf1 of1 p2 r2 o2 rf2 of2 p3 r3 o3 rf3 of3 p4 r4 o4 rf4 of4 p5 r5 o5 rf5 of5 p6 r6 o6 rf6 of6 p7 r7 o7 rf7 of7 p8 r8 o8 rf8 of8 p9 r9 o9 rf9 of9 p10 r10 o10 rf10 of10 p11 r11 o11 rf11 of11 P2 R2 RW2 O2 OW2 Y2
  clear Ky0
  have Y3 := hide (And.intro B3 (And.intro P3 (And.intro R3 (And.intro RW3 (And.intro O3 OW3)))))
  have hs3 := B3.size
  have Ky0 := hide y0
  clear y0
  have p0 := P3.2 0 _ rfl
  have p1 := P3.2 1 _ rfl
  have p2 := P3.2 2 _ rfl
  have p3 := P3.2 3 _ rfl
  have p4 := P3.2 4 _ rfl
  have p5 := P3.2 5 _ rfl
  have p6 := P3.2 6 _ rfl
  have p7 := P3.2 7 _ rfl
  have p8 := P3.2 8 _ rfl
  have p9 := P3.2 9 _ rfl
  have p10 := P3.2 10 _ rfl
  have p11 := P3.2 11 _ rfl
  have r0 := R3.2 0 _ rfl
  have r1 := R3.2 1 _ rfl
  have r2 := R3.2 2 _ rfl
  have r3 := R3.2 3 _ rfl
  have r4 := R3.2 4 _ rfl
  have r5 := R3.2 5 _ rfl
  have r6 := R3.2 6 _ rfl
  have r7 := R3.2 7 _ rfl
  have r8 := R3.2 8 _ rfl
  have r9 := R3.2 9 _ rfl
  have r10 := R3.2 10 _ rfl
  have r11 := R3.2 11 _ rfl
  have o0 := O3.2 0 _ rfl
  have o1 := O3.2 1 _ rfl
  have o2 := O3.2 2 _ rfl
  have o3 := O3.2 3 _ rfl
  have o4 := O3.2 4 _ rfl
  have o5 := O3.2 5 _ rfl
  have o6 := O3.2 6 _ rfl
  have o7 := O3.2 7 _ rfl
  have o8 := O3.2 8 _ rfl
  have o9 := O3.2 9 _ rfl
  have o10 := O3.2 10 _ rfl
  have o11 := O3.2 11 _ rfl
  have rf0 : w3.frozen? ⟨w.heap.size + 1, 0, none⟩ = false := RW3.free 0 (by omega)
  have of0 : w3.frozen? ⟨w.heap.size + 2, 0, none⟩ = false := OW3.free 0 (by omega)
  have rf1 : w3.frozen? ⟨w.heap.size + 1, 1, none⟩ = false := RW3.free 1 (by omega)
  have of1 : w3.frozen? ⟨w.heap.size + 2, 1, none⟩ = false := OW3.free 1 (by omega)
  have rf2 : w3.frozen? ⟨w.heap.size + 1, 2, none⟩ = false := RW3.free 2 (by omega)
  have of2 : w3.frozen? ⟨w.heap.size + 2, 2, none⟩ = false := OW3.free 2 (by omega)
  have rf3 : w3.frozen? ⟨w.heap.size + 1, 3, none⟩ = false := RW3.free 3 (by omega)
  have of3 : w3.frozen? ⟨w.heap.size + 2, 3, none⟩ = false := OW3.free 3 (by omega)
  have rf4 : w3.frozen? ⟨w.heap.size + 1, 4, none⟩ = false := RW3.free 4 (by omega)
  have of4 : w3.frozen? ⟨w.heap.size + 2, 4, none⟩ = false := OW3.free 4 (by omega)
  have rf5 : w3.frozen? ⟨w.heap.size + 1, 5, none⟩ = false := RW3.free 5 (by omega)
  have of5 : w3.frozen? ⟨w.heap.size + 2, 5, none⟩ = false := OW3.free 5 (by omega)
  have rf6 : w3.frozen? ⟨w.heap.size + 1, 6, none⟩ = false := RW3.free 6 (by omega)
  have of6 : w3.frozen? ⟨w.heap.size + 2, 6, none⟩ = false := OW3.free 6 (by omega)
  have rf7 : w3.frozen? ⟨w.heap.size + 1, 7, none⟩ = false := RW3.free 7 (by omega)
  have of7 : w3.frozen? ⟨w.heap.size + 2, 7, none⟩ = false := OW3.free 7 (by omega)
  have rf8 : w3.frozen? ⟨w.heap.size + 1, 8, none⟩ = false := RW3.free 8 (by omega)
  have of8 : w3.frozen? ⟨w.heap.size + 2, 8, none⟩ = false := OW3.free 8 (by omega)
  have rf9 : w3.frozen? ⟨w.heap.size + 1, 9, none⟩ = false := RW3.free 9 (by omega)
  have of9 : w3.frozen? ⟨w.heap.size + 2, 9, none⟩ = false := OW3.free 9 (by omega)
  have rf10 : w3.frozen? ⟨w.heap.size + 1, 10, none⟩ = false := RW3.free 10 (by omega)
  have of10 : w3.frozen? ⟨w.heap.size + 2, 10, none⟩ = false := OW3.free 10 (by omega)
  have rf11 : w3.frozen? ⟨w.heap.size + 1, 11, none⟩ = false := RW3.free 11 (by omega)
  have of11 : w3.frozen? ⟨w.heap.size + 2, 11, none⟩ = false := OW3.free 11 (by omega)
  clear B3 P3 R3 RW3 O3 OW3
  go_wp2_with fail
  generalize hW : World.setCell w3 _ _ = w4
  obtain ⟨B3, P3, R3, RW3, O3, OW3⟩ := unhide Y3
  have y0 := unhide Ky0
  have ht : Turn (fun k => k = w.heap.size + 2) w3 w4 := by rw [← hW]; repeat (first | with_reducible exact Turn.refl _ _ | (with_reducible refine Turn.setIn ?_ ?side _; case side => rfl))
  have B4 : Below w.heap.size w w4 := B3.trans (ht.belowFrom hs3 (fun k hk => by omega))
  have P4 := P3.turn ht (by omega)
  have R4 := R3.turn ht (by omega)
  have RW4 := RW3.turn ht (by omega)
  have O4 : Held w4 (w.heap.size + 2) [.int .i64 x.op, .int .i64 x.pc, .int .i64 x.s.1, .int .i64 x.s.2.1, .int .i64 x.s.2.2.1, .int .i64 x.s.2.2.2.1, .bool x.s.2.2.2.2.1, .slice b0 x.s.2.2.2.2.2.length m0, .int .i64 x.trace, .int .i64 x.stamp, .slice none 0 0, .int .i64 0] := by rw [← hW]; exact (O3.set 9 (.int .i64 x.stamp) (by simp))
  have OW4 : WrAt w4 (w.heap.size + 2) 0 12 := by rw [← hW]; exact (OW3.set ⟨w.heap.size + 2, 9, none⟩ (.int .i64 x.stamp))
  have y0 := y0.turn attrO_keeps ht (fun k hk e => by have := hk.1; omega)
  have hz4 := ht.size
  clear hW ht p0 r0 o0 rf0 of0 p1 r1 o1 rf1 of1 p2 r2 o2 rf2 of2 p3 r3 o3 rf3 of3 p4 r4 o4 rf4 of4 p5 r5 o5 rf5 of5 p6 r6 o6 rf6 of6 p7 r7 o7 rf7 of7 p8 r8 o8 rf8 of8 p9 r9 o9 rf9 of9 p10 r10 o10 rf10 of10 p11 r11 o11 rf11 of11 P3 R3 RW3 O3 OW3 Y3
  clear Ky0
  refine (mToItemS x.hand S _ w4 (by omega) (g1.keep itemR_keeps B4)).mono ?_
  rintro e w5 ⟨v5, rfl, y1, hb5⟩
  obtain ⟨b1, m1, rfl⟩ := y1.form
  have y0 := y0.keep attrO_keeps hb5
  have B5 := bthen B4 hb5
  have hz5 := hb5.size
  have P5 := P4.keep hb5
  have R5 := R4.keep hb5
  have RW5 := RW4.keep hb5
  have O5 := O4.keep hb5
  have OW5 := OW4.keep hb5
  clear hb5
  have Y5 := hide (And.intro B5 (And.intro P5 (And.intro R5 (And.intro RW5 (And.intro O5 OW5)))))
  have hs5 := B5.size
  have Ky0 := hide y0
  clear y0
  have Ky1 := hide y1
  clear y1
  have p0 := P5.2 0 _ rfl
  have p1 := P5.2 1 _ rfl
  have p2 := P5.2 2 _ rfl
  have p3 := P5.2 3 _ rfl
  have p4 := P5.2 4 _ rfl
  have p5 := P5.2 5 _ rfl
  have p6 := P5.2 6 _ rfl
  have p7 := P5.2 7 _ rfl
  have p8 := P5.2 8 _ rfl
  have p9 := P5.2 9 _ rfl
  have p10 := P5.2 10 _ rfl
  have p11 := P5.2 11 _ rfl
  have r0 := R5.2 0 _ rfl
  have r1 := R5.2 1 _ rfl
  have r2 := R5.2 2 _ rfl
  have r3 := R5.2 3 _ rfl
  have r4 := R5.2 4 _ rfl
  have r5 := R5.2 5 _ rfl
  have r6 := R5.2 6 _ rfl
  have r7 := R5.2 7 _ rfl
  have r8 := R5.2 8 _ rfl
  have r9 := R5.2 9 _ rfl
  have r10 := R5.2 10 _ rfl
  have r11 := R5.2 11 _ rfl
  have o0 := O5.2 0 _ rfl
  have o1 := O5.2 1 _ rfl
  have o2 := O5.2 2 _ rfl
  have o3 := O5.2 3 _ rfl
  have o4 := O5.2 4 _ rfl
  have o5 := O5.2 5 _ rfl
  have o6 := O5.2 6 _ rfl
  have o7 := O5.2 7 _ rfl
  have o8 := O5.2 8 _ rfl
  have o9 := O5.2 9 _ rfl
  have o10 := O5.2 10 _ rfl
  have o11 := O5.2 11 _ rfl
  have rf0 : w5.frozen? ⟨w.heap.size + 1, 0, none⟩ = false := RW5.free 0 (by omega)
  have of0 : w5.frozen? ⟨w.heap.size + 2, 0, none⟩ = false := OW5.free 0 (by omega)
  have rf1 : w5.frozen? ⟨w.heap.size + 1, 1, none⟩ = false := RW5.free 1 (by omega)
  have of1 : w5.frozen? ⟨w.heap.size + 2, 1, none⟩ = false := OW5.free 1 (by omega)
  have rf2 : w5.frozen? ⟨w.heap.size + 1, 2, none⟩ = false := RW5.free 2 (by omega)
  have of2 : w5.frozen? ⟨w.heap.size + 2, 2, none⟩ = false := OW5.free 2 (by omega)
  have rf3 : w5.frozen? ⟨w.heap.size + 1, 3, none⟩ = false := RW5.free 3 (by omega)
  have of3 : w5.frozen? ⟨w.heap.size + 2, 3, none⟩ = false := OW5.free 3 (by omega)
  have rf4 : w5.frozen? ⟨w.heap.size + 1, 4, none⟩ = false := RW5.free 4 (by omega)
  have of4 : w5.frozen? ⟨w.heap.size + 2, 4, none⟩ = false := OW5.free 4 (by omega)
  have rf5 : w5.frozen? ⟨w.heap.size + 1, 5, none⟩ = false := RW5.free 5 (by omega)
  have of5 : w5.frozen? ⟨w.heap.size + 2, 5, none⟩ = false := OW5.free 5 (by omega)
  have rf6 : w5.frozen? ⟨w.heap.size + 1, 6, none⟩ = false := RW5.free 6 (by omega)
  have of6 : w5.frozen? ⟨w.heap.size + 2, 6, none⟩ = false := OW5.free 6 (by omega)
  have rf7 : w5.frozen? ⟨w.heap.size + 1, 7, none⟩ = false := RW5.free 7 (by omega)
  have of7 : w5.frozen? ⟨w.heap.size + 2, 7, none⟩ = false := OW5.free 7 (by omega)
  have rf8 : w5.frozen? ⟨w.heap.size + 1, 8, none⟩ = false := RW5.free 8 (by omega)
  have of8 : w5.frozen? ⟨w.heap.size + 2, 8, none⟩ = false := OW5.free 8 (by omega)
  have rf9 : w5.frozen? ⟨w.heap.size + 1, 9, none⟩ = false := RW5.free 9 (by omega)
  have of9 : w5.frozen? ⟨w.heap.size + 2, 9, none⟩ = false := OW5.free 9 (by omega)
  have rf10 : w5.frozen? ⟨w.heap.size + 1, 10, none⟩ = false := RW5.free 10 (by omega)
  have of10 : w5.frozen? ⟨w.heap.size + 2, 10, none⟩ = false := OW5.free 10 (by omega)
  have rf11 : w5.frozen? ⟨w.heap.size + 1, 11, none⟩ = false := RW5.free 11 (by omega)
  have of11 : w5.frozen? ⟨w.heap.size + 2, 11, none⟩ = false := OW5.free 11 (by omega)
  clear B5 P5 R5 RW5 O5 OW5
  go_upto_region 9 with fail
  generalize hW : World.setCell (World.setCell w5 _ _) _ _ = w6
  obtain ⟨B5, P5, R5, RW5, O5, OW5⟩ := unhide Y5
  have y0 := unhide Ky0
  have y1 := unhide Ky1
  have ht : Turn (fun k => k = w.heap.size + 2) w5 w6 := by rw [← hW]; repeat (first | with_reducible exact Turn.refl _ _ | (with_reducible refine Turn.setIn ?_ ?side _; case side => rfl))
  have B6 : Below w.heap.size w w6 := B5.trans (ht.belowFrom hs5 (fun k hk => by omega))
  have P6 := P5.turn ht (by omega)
  have R6 := R5.turn ht (by omega)
  have RW6 := RW5.turn ht (by omega)
  have O6 : Held w6 (w.heap.size + 2) [.int .i64 x.op, .int .i64 x.pc, .int .i64 x.s.1, .int .i64 x.s.2.1, .int .i64 x.s.2.2.1, .int .i64 x.s.2.2.2.1, .bool x.s.2.2.2.2.1, .slice b0 x.s.2.2.2.2.2.length m0, .int .i64 x.trace, .int .i64 x.stamp, .slice b1 x.hand.length m1, .int .i64 x.h] := by rw [← hW]; exact ((O5.set 10 (.slice b1 x.hand.length m1) (by simp)).set 11 (.int .i64 x.h) (by simp))
  have OW6 : WrAt w6 (w.heap.size + 2) 0 12 := by rw [← hW]; exact ((OW5.set ⟨w.heap.size + 2, 10, none⟩ (.slice b1 x.hand.length m1)).set ⟨w.heap.size + 2, 11, none⟩ (.int .i64 x.h))
  have y0 := y0.turn attrO_keeps ht (fun k hk e => by have := hk.1; omega)
  have y1 := y1.turn itemO_keeps ht (fun k hk e => by have := hk.1; omega)
  have hz6 := ht.size
  clear hW ht p0 r0 o0 rf0 of0 p1 r1 o1 rf1 of1 p2 r2 o2 rf2 of2 p3 r3 o3 rf3 of3 p4 r4 o4 rf4 of4 p5 r5 o5 rf5 of5 p6 r6 o6 rf6 of6 p7 r7 o7 rf7 of7 p8 r8 o8 rf8 of8 p9 r9 o9 rf9 of9 p10 r10 o10 rf10 of10 p11 r11 o11 rf11 of11 P5 R5 RW5 O5 OW5 Y5
  clear Ky0
  clear Ky1
  have hfin : taskO w6 (Within (w.heap.size + 3) w6.heap.size) [.int .i64 x.op, .int .i64 x.pc, .int .i64 x.s.1, .int .i64 x.s.2.1, .int .i64 x.s.2.2.1, .int .i64 x.s.2.2.2.1, .bool x.s.2.2.2.2.1, .slice b0 x.s.2.2.2.2.2.length m0, .int .i64 x.trace, .int .i64 x.stamp, .slice b1 x.hand.length m1, .int .i64 x.h] x := by
    refine ⟨_, _, ivs [(w1.heap.size, w2.heap.size), (w4.heap.size, w5.heap.size)], rfl, ?_, ivs_disj (by simp; omega), y0.widens (fun k hk => ⟨(_, _), rfl, hk.1, hk.2⟩), y1.widens (fun k hk => ⟨(_, _), rfl, hk.1, hk.2⟩)⟩
    intro i k hk
    obtain ⟨p, hp, h1, h2⟩ := hk
    have hm := List.mem_of_getElem? hp
    simp at hm
    rcases hm with rfl | rfl <;> simp only at h1 h2 <;> exact ⟨by omega, by omega⟩
  have HF := hide hfin
  clear hfin y0 y1 P6
  have hs6 := B6.size
  have r0 := R6.2 0 _ rfl
  have r1 := R6.2 1 _ rfl
  have r2 := R6.2 2 _ rfl
  have r3 := R6.2 3 _ rfl
  have r4 := R6.2 4 _ rfl
  have r5 := R6.2 5 _ rfl
  have r6 := R6.2 6 _ rfl
  have r7 := R6.2 7 _ rfl
  have r8 := R6.2 8 _ rfl
  have r9 := R6.2 9 _ rfl
  have r10 := R6.2 10 _ rfl
  have r11 := R6.2 11 _ rfl
  have o0 := O6.2 0 _ rfl
  have o1 := O6.2 1 _ rfl
  have o2 := O6.2 2 _ rfl
  have o3 := O6.2 3 _ rfl
  have o4 := O6.2 4 _ rfl
  have o5 := O6.2 5 _ rfl
  have o6 := O6.2 6 _ rfl
  have o7 := O6.2 7 _ rfl
  have o8 := O6.2 8 _ rfl
  have o9 := O6.2 9 _ rfl
  have o10 := O6.2 10 _ rfl
  have o11 := O6.2 11 _ rfl
  have rf0 : w6.frozen? ⟨w.heap.size + 1, 0, none⟩ = false := RW6.free 0 (by omega)
  have of0 : w6.frozen? ⟨w.heap.size + 2, 0, none⟩ = false := OW6.free 0 (by omega)
  have rf1 : w6.frozen? ⟨w.heap.size + 1, 1, none⟩ = false := RW6.free 1 (by omega)
  have of1 : w6.frozen? ⟨w.heap.size + 2, 1, none⟩ = false := OW6.free 1 (by omega)
  have rf2 : w6.frozen? ⟨w.heap.size + 1, 2, none⟩ = false := RW6.free 2 (by omega)
  have of2 : w6.frozen? ⟨w.heap.size + 2, 2, none⟩ = false := OW6.free 2 (by omega)
  have rf3 : w6.frozen? ⟨w.heap.size + 1, 3, none⟩ = false := RW6.free 3 (by omega)
  have of3 : w6.frozen? ⟨w.heap.size + 2, 3, none⟩ = false := OW6.free 3 (by omega)
  have rf4 : w6.frozen? ⟨w.heap.size + 1, 4, none⟩ = false := RW6.free 4 (by omega)
  have of4 : w6.frozen? ⟨w.heap.size + 2, 4, none⟩ = false := OW6.free 4 (by omega)
  have rf5 : w6.frozen? ⟨w.heap.size + 1, 5, none⟩ = false := RW6.free 5 (by omega)
  have of5 : w6.frozen? ⟨w.heap.size + 2, 5, none⟩ = false := OW6.free 5 (by omega)
  have rf6 : w6.frozen? ⟨w.heap.size + 1, 6, none⟩ = false := RW6.free 6 (by omega)
  have of6 : w6.frozen? ⟨w.heap.size + 2, 6, none⟩ = false := OW6.free 6 (by omega)
  have rf7 : w6.frozen? ⟨w.heap.size + 1, 7, none⟩ = false := RW6.free 7 (by omega)
  have of7 : w6.frozen? ⟨w.heap.size + 2, 7, none⟩ = false := OW6.free 7 (by omega)
  have rf8 : w6.frozen? ⟨w.heap.size + 1, 8, none⟩ = false := RW6.free 8 (by omega)
  have of8 : w6.frozen? ⟨w.heap.size + 2, 8, none⟩ = false := OW6.free 8 (by omega)
  have rf9 : w6.frozen? ⟨w.heap.size + 1, 9, none⟩ = false := RW6.free 9 (by omega)
  have of9 : w6.frozen? ⟨w.heap.size + 2, 9, none⟩ = false := OW6.free 9 (by omega)
  have rf10 : w6.frozen? ⟨w.heap.size + 1, 10, none⟩ = false := RW6.free 10 (by omega)
  have of10 : w6.frozen? ⟨w.heap.size + 2, 10, none⟩ = false := OW6.free 10 (by omega)
  have rf11 : w6.frozen? ⟨w.heap.size + 1, 11, none⟩ = false := RW6.free 11 (by omega)
  have of11 : w6.frozen? ⟨w.heap.size + 2, 11, none⟩ = false := OW6.free 11 (by omega)
  have YR := hide (And.intro R6 RW6)
  clear R6 RW6 O6 OW6
  go_wp2
  generalize hW : World.setCell (World.setCell (World.setCell (World.setCell (World.setCell (World.setCell (World.setCell (World.setCell (World.setCell (World.setCell (World.setCell (World.setCell w6 _ _) _ _) _ _) _ _) _ _) _ _) _ _) _ _) _ _) _ _) _ _) _ _ = wz
  have ht : Turn (fun k => k < w.heap.size + 3 ∧ w.heap.size ≤ k) w6 wz := by rw [← hW]; repeat (first | with_reducible exact Turn.refl _ _ | (with_reducible refine Turn.setIn ?_ ?side _; case side => (show _ < _ ∧ _ ≤ _; exact ⟨by simp, by simp⟩)))
  have RZ : Held wz (w.heap.size + 1) [.int .i64 x.op, .int .i64 x.pc, .int .i64 x.s.1, .int .i64 x.s.2.1, .int .i64 x.s.2.2.1, .int .i64 x.s.2.2.2.1, .bool x.s.2.2.2.2.1, .slice b0 x.s.2.2.2.2.2.length m0, .int .i64 x.trace, .int .i64 x.stamp, .slice b1 x.hand.length m1, .int .i64 x.h] := by rw [← hW]; exact (((((((((((((unhide YR).1.set 0 (.int .i64 x.op) (by simp)).set 1 (.int .i64 x.pc) (by simp)).set 2 (.int .i64 x.s.1) (by simp)).set 3 (.int .i64 x.s.2.1) (by simp)).set 4 (.int .i64 x.s.2.2.1) (by simp)).set 5 (.int .i64 x.s.2.2.2.1) (by simp)).set 6 (.bool x.s.2.2.2.2.1) (by simp)).set 7 (.slice b0 x.s.2.2.2.2.2.length m0) (by simp)).set 8 (.int .i64 x.trace) (by simp)).set 9 (.int .i64 x.stamp) (by simp)).set 10 (.slice b1 x.hand.length m1) (by simp)).set 11 (.int .i64 x.h) (by simp))
  clear hW r0 o0 rf0 of0 r1 o1 rf1 of1 r2 o2 rf2 of2 r3 o3 rf3 of3 r4 o4 rf4 of4 r5 o5 rf5 of5 r6 o6 rf6 of6 r7 o7 rf7 of7 r8 o8 rf8 of8 r9 o9 rf9 of9 r10 o10 rf10 of10 r11 o11 rf11 of11
  have r0 := RZ.2 0 _ rfl
  have r1 := RZ.2 1 _ rfl
  have r2 := RZ.2 2 _ rfl
  have r3 := RZ.2 3 _ rfl
  have r4 := RZ.2 4 _ rfl
  have r5 := RZ.2 5 _ rfl
  have r6 := RZ.2 6 _ rfl
  have r7 := RZ.2 7 _ rfl
  have r8 := RZ.2 8 _ rfl
  have r9 := RZ.2 9 _ rfl
  have r10 := RZ.2 10 _ rfl
  have r11 := RZ.2 11 _ rfl
  refine bodyPost_ret (v := .agg #[.int .i64 x.op, .int .i64 x.pc, .int .i64 x.s.1, .int .i64 x.s.2.1, .int .i64 x.s.2.2.1, .int .i64 x.s.2.2.2.1, .bool x.s.2.2.2.2.1, .slice b0 x.s.2.2.2.2.2.length m0, .int .i64 x.trace, .int .i64 x.stamp, .slice b1 x.hand.length m1, .int .i64 x.h]) (by simp [results, Try.results55, go_sem, *]) rfl ⟨[.int .i64 x.op, .int .i64 x.pc, .int .i64 x.s.1, .int .i64 x.s.2.1, .int .i64 x.s.2.2.1, .int .i64 x.s.2.2.2.1, .bool x.s.2.2.2.2.1, .slice b0 x.s.2.2.2.2.2.length m0, .int .i64 x.trace, .int .i64 x.stamp, .slice b1 x.hand.length m1, .int .i64 x.h], rfl, ?_, B6.trans (ht.belowFrom hs6 (fun k hk => hk.2))⟩
  exact own_fin taskO_keeps taskO_widens (unhide HF) ht (fun k hk e => by have := e.1; omega) (by omega)

set_option maxHeartbeats 4000000 in
theorem mEqTask (x : TaskD) (S S' : Nat → Prop) (cs cs' : List Value) (w : World) (hx : taskR w S cs x) (hy : taskR w S' cs' x) :
    Calls Try.prog 70 #[.agg cs.toArray, .agg cs'.toArray] w fun e w' => e = .returned (.bool true) ∧ Below w.heap.size w w' := by
  obtain ⟨s0, s1, rfl, g0, g1⟩ := hx
  obtain ⟨a0, k0, rfl⟩ := g0.form
  obtain ⟨a1, k1, rfl⟩ := g1.form
  obtain ⟨sy0, sy1, rfl, gy0, gy1⟩ := hy
  obtain ⟨ay0, ky0, rfl⟩ := gy0.form
  obtain ⟨ay1, ky1, rfl⟩ := gy1.form
  have P0 := (Held.new w [.int .i64 x.op, .int .i64 x.pc, .int .i64 x.s.1, .int .i64 x.s.2.1, .int .i64 x.s.2.2.1, .int .i64 x.s.2.2.2.1, .bool x.s.2.2.2.2.1, .slice a0 x.s.2.2.2.2.2.length k0, .int .i64 x.trace, .int .i64 x.stamp, .slice a1 x.hand.length k1, .int .i64 x.h] 79).keep (bnew _ (.cells #[.int .i64 x.op, .int .i64 x.pc, .int .i64 x.s.1, .int .i64 x.s.2.1, .int .i64 x.s.2.2.1, .int .i64 x.s.2.2.2.1, .bool x.s.2.2.2.2.1, .slice ay0 x.s.2.2.2.2.2.length ky0, .int .i64 x.trace, .int .i64 x.stamp, .slice ay1 x.hand.length ky1, .int .i64 x.h] 79))
  have Q0 := Held.new (w.alloc (.cells #[.int .i64 x.op, .int .i64 x.pc, .int .i64 x.s.1, .int .i64 x.s.2.1, .int .i64 x.s.2.2.1, .int .i64 x.s.2.2.2.1, .bool x.s.2.2.2.2.1, .slice a0 x.s.2.2.2.2.2.length k0, .int .i64 x.trace, .int .i64 x.stamp, .slice a1 x.hand.length k1, .int .i64 x.h] 79)) [.int .i64 x.op, .int .i64 x.pc, .int .i64 x.s.1, .int .i64 x.s.2.1, .int .i64 x.s.2.2.1, .int .i64 x.s.2.2.2.1, .bool x.s.2.2.2.2.1, .slice ay0 x.s.2.2.2.2.2.length ky0, .int .i64 x.trace, .int .i64 x.stamp, .slice ay1 x.hand.length ky1, .int .i64 x.h] 79
  rw [show (w.alloc (.cells #[.int .i64 x.op, .int .i64 x.pc, .int .i64 x.s.1, .int .i64 x.s.2.1, .int .i64 x.s.2.2.1, .int .i64 x.s.2.2.2.1, .bool x.s.2.2.2.2.1, .slice a0 x.s.2.2.2.2.2.length k0, .int .i64 x.trace, .int .i64 x.stamp, .slice a1 x.hand.length k1, .int .i64 x.h] 79)).heap.size = w.heap.size + 1 by simp] at Q0
  have B0 := bthen (bnew w (.cells #[.int .i64 x.op, .int .i64 x.pc, .int .i64 x.s.1, .int .i64 x.s.2.1, .int .i64 x.s.2.2.1, .int .i64 x.s.2.2.2.1, .bool x.s.2.2.2.2.1, .slice a0 x.s.2.2.2.2.2.length k0, .int .i64 x.trace, .int .i64 x.stamp, .slice a1 x.hand.length k1, .int .i64 x.h] 79)) (bnew _ (.cells #[.int .i64 x.op, .int .i64 x.pc, .int .i64 x.s.1, .int .i64 x.s.2.1, .int .i64 x.s.2.2.1, .int .i64 x.s.2.2.2.1, .bool x.s.2.2.2.2.1, .slice ay0 x.s.2.2.2.2.2.length ky0, .int .i64 x.trace, .int .i64 x.stamp, .slice ay1 x.hand.length ky1, .int .i64 x.h] 79))
  go_enter Try.func70, Try.ntmps70
  go_wp2_with fail
  generalize World.alloc (World.alloc w _) _ = w0 at *
  refine (mEqSpan x.s S S' [.int .i64 x.s.1, .int .i64 x.s.2.1, .int .i64 x.s.2.2.1, .int .i64 x.s.2.2.2.1, .bool x.s.2.2.2.2.1, .slice a0 x.s.2.2.2.2.2.length k0] [.int .i64 x.s.1, .int .i64 x.s.2.1, .int .i64 x.s.2.2.1, .int .i64 x.s.2.2.2.1, .bool x.s.2.2.2.2.1, .slice ay0 x.s.2.2.2.2.2.length ky0] _ ⟨_, rfl, g0.keep attrR_keeps B0⟩ ⟨_, rfl, gy0.keep attrR_keeps B0⟩).mono ?_
  rintro e w1 ⟨rfl, hb1⟩
  have B1 := bthen B0 hb1
  have P1 := P0.keep hb1
  have Q1 := Q0.keep hb1
  clear hb1
  have p0 := P1.2 0 _ rfl
  have p1 := P1.2 1 _ rfl
  have p2 := P1.2 2 _ rfl
  have p3 := P1.2 3 _ rfl
  have p4 := P1.2 4 _ rfl
  have p5 := P1.2 5 _ rfl
  have p6 := P1.2 6 _ rfl
  have p7 := P1.2 7 _ rfl
  have p8 := P1.2 8 _ rfl
  have p9 := P1.2 9 _ rfl
  have p10 := P1.2 10 _ rfl
  have p11 := P1.2 11 _ rfl
  have q_0 := Q1.2 0 _ rfl
  have q_1 := Q1.2 1 _ rfl
  have q_2 := Q1.2 2 _ rfl
  have q_3 := Q1.2 3 _ rfl
  have q_4 := Q1.2 4 _ rfl
  have q_5 := Q1.2 5 _ rfl
  have q_6 := Q1.2 6 _ rfl
  have q_7 := Q1.2 7 _ rfl
  have q_8 := Q1.2 8 _ rfl
  have q_9 := Q1.2 9 _ rfl
  have q_10 := Q1.2 10 _ rfl
  have q_11 := Q1.2 11 _ rfl
  go_wp2_with fail
  refine (mEqItemS x.hand S S' _ _ _ (g1.keep itemR_keeps B1) (gy1.keep itemR_keeps B1)).mono ?_
  rintro e w2 ⟨rfl, hb2⟩
  have B2 := bthen B1 hb2
  have P2 := P1.keep hb2
  have Q2 := Q1.keep hb2
  clear hb2
  clear p0 p1 p2 p3 p4 p5 p6 p7 p8 p9 p10 p11
  clear q_0 q_1 q_2 q_3 q_4 q_5 q_6 q_7 q_8 q_9 q_10 q_11
  have p0 := P2.2 0 _ rfl
  have p1 := P2.2 1 _ rfl
  have p2 := P2.2 2 _ rfl
  have p3 := P2.2 3 _ rfl
  have p4 := P2.2 4 _ rfl
  have p5 := P2.2 5 _ rfl
  have p6 := P2.2 6 _ rfl
  have p7 := P2.2 7 _ rfl
  have p8 := P2.2 8 _ rfl
  have p9 := P2.2 9 _ rfl
  have p10 := P2.2 10 _ rfl
  have p11 := P2.2 11 _ rfl
  have q_0 := Q2.2 0 _ rfl
  have q_1 := Q2.2 1 _ rfl
  have q_2 := Q2.2 2 _ rfl
  have q_3 := Q2.2 3 _ rfl
  have q_4 := Q2.2 4 _ rfl
  have q_5 := Q2.2 5 _ rfl
  have q_6 := Q2.2 6 _ rfl
  have q_7 := Q2.2 7 _ rfl
  have q_8 := Q2.2 8 _ rfl
  have q_9 := Q2.2 9 _ rfl
  have q_10 := Q2.2 10 _ rfl
  have q_11 := Q2.2 11 _ rfl
  go_wp2
  go_ret
  exact ⟨rfl, B2⟩

theorem mInfoTask : (Try.prog.info? 79).map (fun i => (i.zero, i.size, i.bytes)) = some (some (.agg #[.int .i64 0, .int .i64 0, .int .i64 0, .int .i64 0, .int .i64 0, .int .i64 0, .bool false, .slice none 0 0, .int .i64 0, .int .i64 0, .slice none 0 0, .int .i64 0]), 12, 128) := by kernel_rfl
theorem mMakeTask (n : Nat) (hn : n ≤ 1048576) (w : World) : ∃ w0, (Instr.makeSlice 57 (.int .i64 n) (.int .i64 n)).run Try.prog w = .ok (.slice (some ⟨w.heap.size, 0, none⟩) n n) w0 ∧ WrAt w0 w.heap.size 0 (n * 12) ∧ Below w.heap.size w w0 := by
  obtain ⟨i0, hi, hz0, hz1, hz2⟩ := info_parts mInfoTask
  have h := run_make (P := Try.prog) w 57 79 i0 _ Try.underlying57 hi hz0 .i64 .i64 n n (by omega) (by omega) (by rw [hz2]; omega) (by omega)
  refine ⟨_, h, ?_, bnew _ _⟩
  rw [hz1]
  exact WrAt.new _ _ _ _ (by rw [size_madeCells]; simp)

set_option maxHeartbeats 4000000 in
theorem mToTaskS (l : List TaskD) (S : Nat → Prop) (v : Value) (w : World) (h1 : bulkL taskBulk l ≤ 1048576) (ha : LAt 12 taskR w S v l) :
    Calls Try.prog 25 #[v] w fun e w' => ∃ v', e = .returned v' ∧ LOw 12 taskO w' (Within w.heap.size w'.heap.size) v' l ∧ Below w.heap.size w w' := by
  obtain ⟨a, cap, rfl⟩ := ha.form
  have hl := bulkL_len taskBulk l
  have HA := hide ha
  clear ha
  obtain ⟨w0, hmk, hrow, hb0⟩ := mMakeTask l.length (by omega) w
  go_enter Try.func25, Try.ntmps25
  go_wp2
  go_loopw [4] (fun i wk => ∃ k : Nat, k ≤ l.length ∧ i = .int .i64 k ∧ Below w.heap.size w wk ∧ Hid (Filled 12 taskO w wk l k)) (fun i _ => l.length - (intOf i).toNat)
  case atStart => exact ⟨0, Nat.zero_le _, rfl, hb0, hide (Filled.start _ _ _ _ _ hrow)⟩
  case round =>
    obtain ⟨k, hk, rfl, hbl, hfl⟩ := hrel
    have hbs := hbl.size
    by_cases hlt : k < l.length
    · have hki : (k : Int) < (l.length : Int) := by omega
      have hwr := (unhide hfl).1
      have hrs := hwr.1
      have hkn : k * 12 + 12 ≤ l.length * 12 := by omega
      obtain ⟨b, o, cs, rfl, hbk, hSb, hcs, hin⟩ := (unhide HA).at k hlt
      have hcs := taskR_keeps _ _ S None1 cs _ (Below.turn hbl) none_off hcs
      have hin := hin.turn hbk (Below.turn hbl) (fun e => e)
      have hmem := bulkL_mem taskBulk (List.getElem_mem hlt)
      generalize hX : l[k] = X at *
      have HX := hide hX
      clear hX
      have hXb : taskBulk X ≤ 1048576 := by omega
      obtain ⟨s0, s1, rfl, g0, g1⟩ := hcs
      obtain ⟨a0, k0, rfl⟩ := g0.form
      obtain ⟨a1, k1, rfl⟩ := g1.form
      have c0 : World.cell? _ ⟨b, o + k * 12, none⟩ = some (.int .i64 X.op) := hin 0 _ rfl
      have c1 : World.cell? _ ⟨b, o + k * 12 + 1, none⟩ = some (.int .i64 X.pc) := hin 1 _ rfl
      have c2 : World.cell? _ ⟨b, o + k * 12 + 2, none⟩ = some (.int .i64 X.s.1) := hin 2 _ rfl
      have c3 : World.cell? _ ⟨b, o + k * 12 + 3, none⟩ = some (.int .i64 X.s.2.1) := hin 3 _ rfl
      have c4 : World.cell? _ ⟨b, o + k * 12 + 4, none⟩ = some (.int .i64 X.s.2.2.1) := hin 4 _ rfl
      have c5 : World.cell? _ ⟨b, o + k * 12 + 5, none⟩ = some (.int .i64 X.s.2.2.2.1) := hin 5 _ rfl
      have c6 : World.cell? _ ⟨b, o + k * 12 + 6, none⟩ = some (.bool X.s.2.2.2.2.1) := hin 6 _ rfl
      have c7 : World.cell? _ ⟨b, o + k * 12 + 7, none⟩ = some (.slice a0 X.s.2.2.2.2.2.length k0) := hin 7 _ rfl
      have c8 : World.cell? _ ⟨b, o + k * 12 + 8, none⟩ = some (.int .i64 X.trace) := hin 8 _ rfl
      have c9 : World.cell? _ ⟨b, o + k * 12 + 9, none⟩ = some (.int .i64 X.stamp) := hin 9 _ rfl
      have c10 : World.cell? _ ⟨b, o + k * 12 + 10, none⟩ = some (.slice a1 X.hand.length k1) := hin 10 _ rfl
      have c11 : World.cell? _ ⟨b, o + k * 12 + 11, none⟩ = some (.int .i64 X.h) := hin 11 _ rfl
      clear hin
      obtain ⟨u0, hu0⟩ := hwr.cell (k * 12 + 0) (by omega)
      have f0 := hwr.free (k * 12 + 0) (by omega)
      simp only [Nat.zero_add, Nat.add_zero] at hu0 f0
      obtain ⟨u1, hu1⟩ := hwr.cell (k * 12 + 1) (by omega)
      have f1 := hwr.free (k * 12 + 1) (by omega)
      simp only [Nat.zero_add] at hu1 f1
      obtain ⟨u2, hu2⟩ := hwr.cell (k * 12 + 2) (by omega)
      have f2 := hwr.free (k * 12 + 2) (by omega)
      simp only [Nat.zero_add] at hu2 f2
      obtain ⟨u3, hu3⟩ := hwr.cell (k * 12 + 3) (by omega)
      have f3 := hwr.free (k * 12 + 3) (by omega)
      simp only [Nat.zero_add] at hu3 f3
      obtain ⟨u4, hu4⟩ := hwr.cell (k * 12 + 4) (by omega)
      have f4 := hwr.free (k * 12 + 4) (by omega)
      simp only [Nat.zero_add] at hu4 f4
      obtain ⟨u5, hu5⟩ := hwr.cell (k * 12 + 5) (by omega)
      have f5 := hwr.free (k * 12 + 5) (by omega)
      simp only [Nat.zero_add] at hu5 f5
      obtain ⟨u6, hu6⟩ := hwr.cell (k * 12 + 6) (by omega)
      have f6 := hwr.free (k * 12 + 6) (by omega)
      simp only [Nat.zero_add] at hu6 f6
      obtain ⟨u7, hu7⟩ := hwr.cell (k * 12 + 7) (by omega)
      have f7 := hwr.free (k * 12 + 7) (by omega)
      simp only [Nat.zero_add] at hu7 f7
      obtain ⟨u8, hu8⟩ := hwr.cell (k * 12 + 8) (by omega)
      have f8 := hwr.free (k * 12 + 8) (by omega)
      simp only [Nat.zero_add] at hu8 f8
      obtain ⟨u9, hu9⟩ := hwr.cell (k * 12 + 9) (by omega)
      have f9 := hwr.free (k * 12 + 9) (by omega)
      simp only [Nat.zero_add] at hu9 f9
      obtain ⟨u10, hu10⟩ := hwr.cell (k * 12 + 10) (by omega)
      have f10 := hwr.free (k * 12 + 10) (by omega)
      simp only [Nat.zero_add] at hu10 f10
      obtain ⟨u11, hu11⟩ := hwr.cell (k * 12 + 11) (by omega)
      have f11 := hwr.free (k * 12 + 11) (by omega)
      simp only [Nat.zero_add] at hu11 f11
      clear hwr hmk hrow
      go_wp2_with fail
      refine (mToTask X S _ _ hXb ⟨_, _, rfl, g0, g1⟩).mono ?_
      rintro e w2 ⟨cs2, rfl, yy, hb2⟩
      obtain ⟨t0, t1, TT, rfl, _, _, y0, y1⟩ := id yy
      obtain ⟨b0, m0, rfl⟩ := y0.form
      obtain ⟨b1, m1, rfl⟩ := y1.form
      rw [← hb2.cell hrs] at hu0 hu1 hu2 hu3 hu4 hu5 hu6 hu7 hu8 hu9 hu10 hu11
      rw [← hb2.frozen hrs] at f0 f1 f2 f3 f4 f5 f6 f7 f8 f9 f10 f11
      have hrs2 := Nat.lt_of_lt_of_le hrs hb2.size
      have HB := hide (And.intro yy hb2)
      clear yy hb2 c0 c1 c2 c3 c4 c5 c6 c7 c8 c9 c10 c11 y0 y1
      go_wp2
      go_roundw
      case rel =>
        obtain ⟨yy, hb2⟩ := unhide HB
        have st := Filled.step (cs := [.int .i64 X.op, .int .i64 X.pc, .int .i64 X.s.1, .int .i64 X.s.2.1, .int .i64 X.s.2.2.1, .int .i64 X.s.2.2.2.1, .bool X.s.2.2.2.2.1, .slice b0 X.s.2.2.2.2.2.length m0, .int .i64 X.trace, .int .i64 X.stamp, .slice b1 X.hand.length m1, .int .i64 X.h]) taskO_keeps (unhide hfl) hlt hb2 (by rw [unhide HX]; exact yy) rfl
        refine ⟨k + 1, by omega, by go_num, ?_, hide ?_⟩
        · have hbb := bthen hbl hb2
          (repeat (first | with_reducible assumption | with_reducible exact Below.refl _ _ | with_reducible refine Below.drew ?_ | with_reducible refine bdrewN ?_ _ | (with_reducible refine Below.alloc ?_ ?side _; case side => (first | omega | (simp [go_sem]; done) | (simp [go_sem]; omega))) | (with_reducible refine Below.setCell ?_ ?side _; case side => (first | omega | (simp [go_sem]; done) | (simp [go_sem]; omega)))))
        · simp only [putL, Nat.add_zero, Nat.zero_add, Nat.reduceAdd] at st
          exact st
      case measure => simp [intOf]; omega
    · have hki : ¬ (k : Int) < (l.length : Int) := by omega
      obtain rfl : k = l.length := by omega
      go_wp2
      go_ret
      exact ⟨_, rfl, (unhide hfl).done (by omega), hbl⟩

set_option maxHeartbeats 2000000 in
theorem mSzTaskS (l : List TaskD) (S : Nat → Prop) (v : Value) (left : Int) (w : World) (h0 : 0 ≤ left) (h1 : left ≤ 1048576) (ha : LAt 12 taskR w S v l) :
    Calls Try.prog 16 #[v, .int .i64 left] w fun e w' => (∃ z : Int, e = .returned (.int .i64 z) ∧ (z < 0 ∨ (0 ≤ z ∧ z + bulkL taskBulk l ≤ left))) ∧ Below w.heap.size w w' := by
  obtain ⟨a, cap, rfl⟩ := ha.form
  have hl := ha.len
  have HA := hide ha
  clear ha
  by_cases hlen : left < l.length
  case pos =>
    go_enter Try.func16, Try.ntmps16
    go_wp2
    go_ret
    exact ⟨⟨_, rfl, .inl (by omega)⟩, by (repeat (first | with_reducible assumption | with_reducible exact Below.refl _ _ | with_reducible refine Below.drew ?_ | with_reducible refine bdrewN ?_ _ | (with_reducible refine Below.alloc ?_ ?side _; case side => (first | omega | (simp [go_sem]; done) | (simp [go_sem]; omega))) | (with_reducible refine Below.setCell ?_ ?side _; case side => (first | omega | (simp [go_sem]; done) | (simp [go_sem]; omega)))))⟩
  go_enter Try.func16, Try.ntmps16
  go_wp2
  go_loopw [1, 5] (fun z i wk => ∃ (k : Nat) (zz : Int), k ≤ l.length ∧ i = .int .i64 k ∧ z = .int .i64 zz ∧ 0 ≤ zz ∧ zz + l.length + ((l.take k).map taskBulk).sum ≤ left ∧ Below w.heap.size w wk) (fun _ i _ => l.length - (intOf i).toNat)
  case atStart => exact ⟨0, left - l.length, Nat.zero_le _, rfl, by go_num, by omega, by simp, Below.refl _ _⟩
  case round =>
    obtain ⟨k, zz, hk, rfl, rfl, hz, hsum, hbl⟩ := hrel
    have hbs := hbl.size
    by_cases hlt : k < l.length
    · have hki : (k : Int) < (l.length : Int) := by omega
      have hsn := sum_snoc taskBulk l k hlt
      obtain ⟨b, o, cs, rfl, hbk, hSb, hcs, hin⟩ := (unhide HA).at k hlt
      have hcs := taskR_keeps _ _ S None1 cs _ (Below.turn hbl) none_off hcs
      have hin := hin.turn hbk (Below.turn hbl) (fun e => e)
      generalize l[k] = X at *
      have HSN := hide hsn
      clear hsn
      obtain ⟨s0, s1, rfl, g0, g1⟩ := hcs
      obtain ⟨a0, k0, rfl⟩ := g0.form
      obtain ⟨a1, k1, rfl⟩ := g1.form
      have c0 : World.cell? _ ⟨b, o + k * 12, none⟩ = some (.int .i64 X.op) := hin 0 _ rfl
      have c1 : World.cell? _ ⟨b, o + k * 12 + 1, none⟩ = some (.int .i64 X.pc) := hin 1 _ rfl
      have c2 : World.cell? _ ⟨b, o + k * 12 + 2, none⟩ = some (.int .i64 X.s.1) := hin 2 _ rfl
      have c3 : World.cell? _ ⟨b, o + k * 12 + 3, none⟩ = some (.int .i64 X.s.2.1) := hin 3 _ rfl
      have c4 : World.cell? _ ⟨b, o + k * 12 + 4, none⟩ = some (.int .i64 X.s.2.2.1) := hin 4 _ rfl
      have c5 : World.cell? _ ⟨b, o + k * 12 + 5, none⟩ = some (.int .i64 X.s.2.2.2.1) := hin 5 _ rfl
      have c6 : World.cell? _ ⟨b, o + k * 12 + 6, none⟩ = some (.bool X.s.2.2.2.2.1) := hin 6 _ rfl
      have c7 : World.cell? _ ⟨b, o + k * 12 + 7, none⟩ = some (.slice a0 X.s.2.2.2.2.2.length k0) := hin 7 _ rfl
      have c8 : World.cell? _ ⟨b, o + k * 12 + 8, none⟩ = some (.int .i64 X.trace) := hin 8 _ rfl
      have c9 : World.cell? _ ⟨b, o + k * 12 + 9, none⟩ = some (.int .i64 X.stamp) := hin 9 _ rfl
      have c10 : World.cell? _ ⟨b, o + k * 12 + 10, none⟩ = some (.slice a1 X.hand.length k1) := hin 10 _ rfl
      have c11 : World.cell? _ ⟨b, o + k * 12 + 11, none⟩ = some (.int .i64 X.h) := hin 11 _ rfl
      clear hin
      go_wp2_with fail
      refine (mSzTask X S _ zz _ hz (by omega) ⟨_, _, rfl, g0, g1⟩).mono ?_
      rintro e w2 ⟨⟨z2, rfl, hz2⟩, hb2⟩
      have HZ := hide hz2
      clear hz2
      by_cases hneg : z2 < 0
      · go_wp2
        go_ret
        exact ⟨⟨_, rfl, .inl (by omega)⟩, bthen hbl hb2⟩
      · have hzz : 0 ≤ z2 ∧ z2 + taskBulk X ≤ zz := by rcases unhide HZ with h | h <;> omega
        have hsn' := unhide HSN
        go_wp2
        go_roundw
        case rel => exact ⟨k + 1, z2, by omega, by go_num, by go_num, by omega, by rw [hsn']; have hxb : taskBulk X = taskBulk X := rfl; omega, bthen hbl hb2⟩
        case measure => simp [intOf]; omega
    · have e : l.take k = l := List.take_of_length_le (by omega)
      rw [e] at hsum
      have hki : ¬ (k : Int) < (l.length : Int) := by omega
      go_wp2
      go_ret
      exact ⟨⟨_, rfl, .inr ⟨hz, by unfold bulkL; omega⟩⟩, hbl⟩

set_option maxHeartbeats 4000000 in
theorem mEqTaskS (l : List TaskD) (S S' : Nat → Prop) (v v' : Value) (w : World) (ha : LAt 12 taskR w S v l) (hb : LAt 12 taskR w S' v' l) :
    Calls Try.prog 41 #[v, v'] w fun e w' => e = .returned (.bool true) ∧ Below w.heap.size w w' := by
  obtain ⟨a, cap, rfl⟩ := ha.form
  obtain ⟨a', cap', rfl⟩ := hb.form
  have hl := ha.len
  have HA := hide ha
  have HB := hide hb
  clear ha hb
  go_enter Try.func41, Try.ntmps41
  go_wp2
  go_loopw [5] (fun i wk => ∃ k : Nat, k ≤ l.length ∧ i = .int .i64 k ∧ Below w.heap.size w wk) (fun i _ => l.length - (intOf i).toNat)
  case atStart => exact ⟨0, Nat.zero_le _, rfl, Below.refl _ _⟩
  case round =>
    obtain ⟨k, hk, rfl, hbl⟩ := hrel
    have hbs := hbl.size
    by_cases hlt : k < l.length
    · have hki : (k : Int) < (l.length : Int) := by omega
      obtain ⟨b, o, cs, rfl, hbk, hSb, hcs, hin⟩ := (unhide HA).at k hlt
      have hcs := taskR_keeps _ _ S None1 cs _ (Below.turn hbl) none_off hcs
      have hin := hin.turn hbk (Below.turn hbl) (fun e => e)
      obtain ⟨b', o', cs2, rfl, hbk', hSb', hcs2, hin2⟩ := (unhide HB).at k hlt
      have hcs2 := taskR_keeps _ _ S' None1 cs2 _ (Below.turn hbl) none_off hcs2
      have hin2 := hin2.turn hbk' (Below.turn hbl) (fun e => e)
      generalize l[k] = X at *
      have HR := hide hcs
      have HR2 := hide hcs2
      obtain ⟨s0, s1, rfl, g0, g1⟩ := hcs
      obtain ⟨a0, k0, rfl⟩ := g0.form
      obtain ⟨a1, k1, rfl⟩ := g1.form
      obtain ⟨sy0, sy1, rfl, gy0, gy1⟩ := hcs2
      obtain ⟨ay0, ky0, rfl⟩ := gy0.form
      obtain ⟨ay1, ky1, rfl⟩ := gy1.form
      have c0 : World.cell? _ ⟨b, o + k * 12, none⟩ = some (.int .i64 X.op) := hin 0 _ rfl
      have c1 : World.cell? _ ⟨b, o + k * 12 + 1, none⟩ = some (.int .i64 X.pc) := hin 1 _ rfl
      have c2 : World.cell? _ ⟨b, o + k * 12 + 2, none⟩ = some (.int .i64 X.s.1) := hin 2 _ rfl
      have c3 : World.cell? _ ⟨b, o + k * 12 + 3, none⟩ = some (.int .i64 X.s.2.1) := hin 3 _ rfl
      have c4 : World.cell? _ ⟨b, o + k * 12 + 4, none⟩ = some (.int .i64 X.s.2.2.1) := hin 4 _ rfl
      have c5 : World.cell? _ ⟨b, o + k * 12 + 5, none⟩ = some (.int .i64 X.s.2.2.2.1) := hin 5 _ rfl
      have c6 : World.cell? _ ⟨b, o + k * 12 + 6, none⟩ = some (.bool X.s.2.2.2.2.1) := hin 6 _ rfl
      have c7 : World.cell? _ ⟨b, o + k * 12 + 7, none⟩ = some (.slice a0 X.s.2.2.2.2.2.length k0) := hin 7 _ rfl
      have c8 : World.cell? _ ⟨b, o + k * 12 + 8, none⟩ = some (.int .i64 X.trace) := hin 8 _ rfl
      have c9 : World.cell? _ ⟨b, o + k * 12 + 9, none⟩ = some (.int .i64 X.stamp) := hin 9 _ rfl
      have c10 : World.cell? _ ⟨b, o + k * 12 + 10, none⟩ = some (.slice a1 X.hand.length k1) := hin 10 _ rfl
      have c11 : World.cell? _ ⟨b, o + k * 12 + 11, none⟩ = some (.int .i64 X.h) := hin 11 _ rfl
      have d0 : World.cell? _ ⟨b', o' + k * 12, none⟩ = some (.int .i64 X.op) := hin2 0 _ rfl
      have d1 : World.cell? _ ⟨b', o' + k * 12 + 1, none⟩ = some (.int .i64 X.pc) := hin2 1 _ rfl
      have d2 : World.cell? _ ⟨b', o' + k * 12 + 2, none⟩ = some (.int .i64 X.s.1) := hin2 2 _ rfl
      have d3 : World.cell? _ ⟨b', o' + k * 12 + 3, none⟩ = some (.int .i64 X.s.2.1) := hin2 3 _ rfl
      have d4 : World.cell? _ ⟨b', o' + k * 12 + 4, none⟩ = some (.int .i64 X.s.2.2.1) := hin2 4 _ rfl
      have d5 : World.cell? _ ⟨b', o' + k * 12 + 5, none⟩ = some (.int .i64 X.s.2.2.2.1) := hin2 5 _ rfl
      have d6 : World.cell? _ ⟨b', o' + k * 12 + 6, none⟩ = some (.bool X.s.2.2.2.2.1) := hin2 6 _ rfl
      have d7 : World.cell? _ ⟨b', o' + k * 12 + 7, none⟩ = some (.slice ay0 X.s.2.2.2.2.2.length ky0) := hin2 7 _ rfl
      have d8 : World.cell? _ ⟨b', o' + k * 12 + 8, none⟩ = some (.int .i64 X.trace) := hin2 8 _ rfl
      have d9 : World.cell? _ ⟨b', o' + k * 12 + 9, none⟩ = some (.int .i64 X.stamp) := hin2 9 _ rfl
      have d10 : World.cell? _ ⟨b', o' + k * 12 + 10, none⟩ = some (.slice ay1 X.hand.length ky1) := hin2 10 _ rfl
      have d11 : World.cell? _ ⟨b', o' + k * 12 + 11, none⟩ = some (.int .i64 X.h) := hin2 11 _ rfl
      clear hin hin2
      go_wp2_with fail
      go_region_with (go_at_call 70; refine (mEqTask X S S' _ _ _ (taskR_keeps _ _ _ None1 _ _ (Below.turn (Below.drew (Below.refl _ _))) none_off (unhide HR)) (taskR_keeps _ _ _ None1 _ _ (Below.turn (Below.drew (Below.refl _ _))) none_off (unhide HR2))).mono ?_; rintro e w2 ⟨rfl, hb2⟩)
      all_goals
        go_wp2
        go_roundw
        case rel => exact ⟨k + 1, by omega, by go_num, bthen (by (repeat (first | with_reducible assumption | with_reducible exact Below.refl _ _ | with_reducible refine Below.drew ?_ | with_reducible refine bdrewN ?_ _ | (with_reducible refine Below.alloc ?_ ?side _; case side => (first | omega | (simp [go_sem]; done) | (simp [go_sem]; omega))) | (with_reducible refine Below.setCell ?_ ?side _; case side => (first | omega | (simp [go_sem]; done) | (simp [go_sem]; omega)))))) hb2⟩
        case measure => simp [intOf]; omega
    · have hki : ¬ (k : Int) < (l.length : Int) := by omega
      go_wp2
      go_ret
      exact ⟨rfl, hbl⟩

end Go.Proofs.Ytciipadkdglhmaa
