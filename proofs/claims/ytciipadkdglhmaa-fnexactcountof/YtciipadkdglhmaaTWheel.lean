/-
  Wheel: what lies in memory, read and owned; contracts of the law's own sizes, copies and comparisons.
-/
import Derived.Test.YtciipadkdglhmaaTTimerS
import Derived.Deep.CutRange
namespace Go.Proofs.Ytciipadkdglhmaa
open Go.ChangeShapes Go.WideShapes Go.ChangeAt Go.RowKit
set_option linter.unusedVariables false
set_option maxRecDepth 100000

structure WheelD where
  now : Int
  near : List (List TimerD)
  far : List (List TimerD)
  rest : List TimerD
def wheelBulk (x : WheelD) : Nat := bulkL timerSBulk x.near + bulkL timerSBulk x.far + bulkL timerBulk x.rest
def wheelR (w : World) (S : Nat → Prop) (cs : List Value) (x : WheelD) : Prop := ∃ s0 s1 s2, cs = [.int .i64 x.now, s0, s1, s2] ∧ LAt 1 timerSR w S s0 x.near ∧ LAt 1 timerSR w S s1 x.far ∧ LAt 3 timerR w S s2 x.rest
def wheelO (w : World) (S : Nat → Prop) (cs : List Value) (x : WheelD) : Prop := ∃ s0 s1 s2 : Value, ∃ T : Nat → Nat → Prop, cs = [.int .i64 x.now, s0, s1, s2] ∧ (∀ i k, T i k → S k) ∧ (∀ i j k, T i k → T j k → i = j) ∧ LOw 1 timerSO w (T 0) s0 x.near ∧ LOw 1 timerSO w (T 1) s1 x.far ∧ LOw 3 timerO w (T 2) s2 x.rest
theorem wheelR_keeps : Keeps wheelR := by
  intro w w' S T cs x ht hd h
  obtain ⟨s0, s1, s2, e, g0, g1, g2⟩ := h
  exact ⟨s0, s1, s2, e, g0.turn timerSR_keeps ht hd, g1.turn timerSR_keeps ht hd, g2.turn timerR_keeps ht hd⟩
theorem wheelR_widens : Widens wheelR := by
  intro w S T cs x hs h
  obtain ⟨s0, s1, s2, e, g0, g1, g2⟩ := h
  exact ⟨s0, s1, s2, e, g0.widens timerSR_widens hs, g1.widens timerSR_widens hs, g2.widens timerR_widens hs⟩
theorem wheelO_keeps : Keeps wheelO := by
  intro w w' S T cs x ht hd h
  obtain ⟨s0, s1, s2, U, e, u1, u2, g0, g1, g2⟩ := h
  exact ⟨s0, s1, s2, U, e, u1, u2, g0.turn timerSO_keeps ht (fun k hk => hd k (u1 0 k hk)), g1.turn timerSO_keeps ht (fun k hk => hd k (u1 1 k hk)), g2.turn timerO_keeps ht (fun k hk => hd k (u1 2 k hk))⟩
theorem wheelO_widens : Widens wheelO := by
  intro w S T cs x hs h
  obtain ⟨s0, s1, s2, U, e, u1, u2, g0, g1, g2⟩ := h
  exact ⟨s0, s1, s2, U, e, fun i k hk => hs k (u1 i k hk), u2, g0, g1, g2⟩
theorem wheelO_read (w : World) (S : Nat → Prop) (cs : List Value) (x : WheelD) (h : wheelO w S cs x) : wheelR w S cs x := by
  obtain ⟨s0, s1, s2, U, e, u1, u2, g0, g1, g2⟩ := h
  exact ⟨s0, s1, s2, e, (g0.read timerSR_widens timerSO_read).widens timerSR_widens (u1 0), (g1.read timerSR_widens timerSO_read).widens timerSR_widens (u1 1), (g2.read timerR_widens timerO_read).widens timerR_widens (u1 2)⟩
theorem wheelO_len {w : World} {S : Nat → Prop} {cs : List Value} {x : WheelD} (h : wheelO w S cs x) : cs.length = 4 := by
  obtain ⟨s0, s1, s2, _, rfl, _, _, _, _, _⟩ := h; rfl

set_option maxHeartbeats 2000000 in
theorem mSzWheel (x : WheelD) (S : Nat → Prop) (cs : List Value) (left : Int) (w : World) (h0 : 0 ≤ left) (h1 : left ≤ 1048576) (hx : wheelR w S cs x) :
    Calls Try.prog 13 #[.agg cs.toArray, .int .i64 left] w fun e w' => (∃ z : Int, e = .returned (.int .i64 z) ∧ (z < 0 ∨ (0 ≤ z ∧ z + wheelBulk x ≤ left))) ∧ Below w.heap.size w w' := by
  unfold wheelBulk
  obtain ⟨s0, s1, s2, rfl, g0, g1, g2⟩ := hx
  obtain ⟨a0, k0, rfl⟩ := g0.form
  obtain ⟨a1, k1, rfl⟩ := g1.form
  obtain ⟨a2, k2, rfl⟩ := g2.form
  have H0 := Held.new w [.int .i64 x.now, .slice a0 x.near.length k0, .slice a1 x.far.length k1, .slice a2 x.rest.length k2] 34
  have B0 := bnew w (.cells #[.int .i64 x.now, .slice a0 x.near.length k0, .slice a1 x.far.length k1, .slice a2 x.rest.length k2] 34)
  go_enter Try.func13, Try.ntmps13
  go_wp2_with fail
  refine (mSzTimerSS x.near S _ left _ h0 h1 (g0.keep timerSR_keeps B0)).mono ?_
  rintro e w1 ⟨⟨z1, rfl, hz1⟩, hb1⟩
  have HZ1 := hide hz1
  have B1 := bthen B0 hb1
  have H1 := H0.keep hb1
  clear hz1 hb1
  by_cases hneg1 : z1 < 0
  · go_wp2
    go_ret
    exact ⟨⟨_, rfl, .inl (by omega)⟩, B1⟩
  have hzz1 : 0 ≤ z1 ∧ z1 + bulkL timerSBulk x.near ≤ left := by rcases unhide HZ1 with h | h <;> omega
  clear HZ1
  have p0 := H1.2 0 _ rfl
  have p1 := H1.2 1 _ rfl
  have p2 := H1.2 2 _ rfl
  have p3 := H1.2 3 _ rfl
  go_wp2_with fail
  refine (mSzTimerSS x.far S _ z1 _ (by omega) (by omega) (g1.keep timerSR_keeps B1)).mono ?_
  rintro e w2 ⟨⟨z2, rfl, hz2⟩, hb2⟩
  have HZ2 := hide hz2
  have B2 := bthen B1 hb2
  have H2 := H1.keep hb2
  clear hz2 hb2
  clear p0 p1 p2 p3
  by_cases hneg2 : z2 < 0
  · go_wp2
    go_ret
    exact ⟨⟨_, rfl, .inl (by omega)⟩, B2⟩
  have hzz2 : 0 ≤ z2 ∧ z2 + bulkL timerSBulk x.far ≤ z1 := by rcases unhide HZ2 with h | h <;> omega
  clear HZ2
  have p0 := H2.2 0 _ rfl
  have p1 := H2.2 1 _ rfl
  have p2 := H2.2 2 _ rfl
  have p3 := H2.2 3 _ rfl
  go_wp2_with fail
  refine (mSzTimerS x.rest S _ z2 _ (by omega) (by omega) (g2.keep timerR_keeps B2)).mono ?_
  rintro e w3 ⟨⟨z3, rfl, hz3⟩, hb3⟩
  have HZ3 := hide hz3
  have B3 := bthen B2 hb3
  have H3 := H2.keep hb3
  clear hz3 hb3
  clear p0 p1 p2 p3
  by_cases hneg3 : z3 < 0
  · go_wp2
    go_ret
    exact ⟨⟨_, rfl, .inl (by omega)⟩, B3⟩
  have hzz3 : 0 ≤ z3 ∧ z3 + bulkL timerBulk x.rest ≤ z2 := by rcases unhide HZ3 with h | h <;> omega
  clear HZ3
  have hfin : z3 < 0 ∨ (0 ≤ z3 ∧ z3 + (bulkL timerSBulk x.near + bulkL timerSBulk x.far + bulkL timerBulk x.rest : Nat) ≤ left) := by omega
  have HF := hide hfin
  clear hfin
  go_wp2
  go_ret
  exact ⟨⟨_, rfl, unhide HF⟩, B3⟩

set_option maxHeartbeats 4000000 in
theorem mToWheel (x : WheelD) (S : Nat → Prop) (cs : List Value) (w : World) (hb : wheelBulk x ≤ 1048576) (hx : wheelR w S cs x) :
    Calls Try.prog 22 #[.agg cs.toArray] w fun e w' => ∃ cs', e = .returned (.agg cs'.toArray) ∧ wheelO w' (Within w.heap.size w'.heap.size) cs' x ∧ Below w.heap.size w w' := by
  obtain ⟨s0, s1, s2, rfl, g0, g1, g2⟩ := hx
  obtain ⟨a0, k0, rfl⟩ := g0.form
  obtain ⟨a1, k1, rfl⟩ := g1.form
  obtain ⟨a2, k2, rfl⟩ := g2.form
  unfold wheelBulk at hb
  go_enter Try.func22, Try.ntmps22
  go_wp2_with fail
  generalize hW : World.alloc (World.alloc (World.alloc w _) _) _ = w1
  have B1 : Below w.heap.size w w1 := by rw [← hW]; (repeat (first | with_reducible assumption | with_reducible exact Below.refl _ _ | with_reducible refine Below.drew ?_ | with_reducible refine bdrewN ?_ _ | (with_reducible refine Below.alloc ?_ ?side _; case side => (first | omega | (simp [go_sem]; done) | (simp [go_sem]; omega))) | (with_reducible refine Below.setCell ?_ ?side _; case side => (first | omega | (simp [go_sem]; done) | (simp [go_sem]; omega)))))
  have P1 : Held w1 w.heap.size [.int .i64 x.now, .slice a0 x.near.length k0, .slice a1 x.far.length k1, .slice a2 x.rest.length k2] := by rw [← hW]; exact ((Held.new w [.int .i64 x.now, .slice a0 x.near.length k0, .slice a1 x.far.length k1, .slice a2 x.rest.length k2] 34).keep (bnew _ _)).keep (bnew _ _)
  have R1 : Held w1 (w.heap.size + 1) [.int .i64 0, .slice none 0 0, .slice none 0 0, .slice none 0 0] := by rw [← hW]; have := (Held.new (w.alloc (.cells #[.int .i64 x.now, .slice a0 x.near.length k0, .slice a1 x.far.length k1, .slice a2 x.rest.length k2] 34)) [.int .i64 0, .slice none 0 0, .slice none 0 0, .slice none 0 0] 55).keep (bnew _ (.cells #[.int .i64 x.now, .slice none 0 0, .slice none 0 0, .slice none 0 0] 55)); simpa using this
  have RW1 : WrAt w1 (w.heap.size + 1) 0 4 := by rw [← hW]; have := (WrAt.new (w.alloc (.cells #[.int .i64 x.now, .slice a0 x.near.length k0, .slice a1 x.far.length k1, .slice a2 x.rest.length k2] 34)) #[.int .i64 0, .slice none 0 0, .slice none 0 0, .slice none 0 0] 55 4 rfl).keep (bnew _ (.cells #[.int .i64 x.now, .slice none 0 0, .slice none 0 0, .slice none 0 0] 55)); simpa using this
  have O1 : Held w1 (w.heap.size + 2) [.int .i64 x.now, .slice none 0 0, .slice none 0 0, .slice none 0 0] := by rw [← hW]; have := Held.new ((w.alloc (.cells #[.int .i64 x.now, .slice a0 x.near.length k0, .slice a1 x.far.length k1, .slice a2 x.rest.length k2] 34)).alloc (.cells #[.int .i64 0, .slice none 0 0, .slice none 0 0, .slice none 0 0] 55)) [.int .i64 x.now, .slice none 0 0, .slice none 0 0, .slice none 0 0] 55; simpa using this
  have OW1 : WrAt w1 (w.heap.size + 2) 0 4 := by rw [← hW]; have := WrAt.new ((w.alloc (.cells #[.int .i64 x.now, .slice a0 x.near.length k0, .slice a1 x.far.length k1, .slice a2 x.rest.length k2] 34)).alloc (.cells #[.int .i64 0, .slice none 0 0, .slice none 0 0, .slice none 0 0] 55)) #[.int .i64 x.now, .slice none 0 0, .slice none 0 0, .slice none 0 0] 55 4 rfl; simpa using this
  have hs1 : w1.heap.size = w.heap.size + 3 := by rw [← hW]; simp
  clear hW
  refine (mToTimerSS x.near S _ w1 (by omega) (g0.keep timerSR_keeps B1)).mono ?_
  rintro e w2 ⟨v2, rfl, y0, hb2⟩
  obtain ⟨b0, m0, rfl⟩ := y0.form
  have B2 := bthen B1 hb2
  have hz2 := hb2.size
  have P2 := P1.keep hb2
  have R2 := R1.keep hb2
  have RW2 := RW1.keep hb2
  have O2 := O1.keep hb2
  have OW2 := OW1.keep hb2
  clear hb2
  have Y2 := hide (And.intro B2 (And.intro P2 (And.intro R2 (And.intro RW2 (And.intro O2 OW2)))))
  have hs2 := B2.size
  have Ky0 := hide y0
  clear y0
  have p0 := P2.2 0 _ rfl
  have p1 := P2.2 1 _ rfl
  have p2 := P2.2 2 _ rfl
  have p3 := P2.2 3 _ rfl
  have r0 := R2.2 0 _ rfl
  have r1 := R2.2 1 _ rfl
  have r2 := R2.2 2 _ rfl
  have r3 := R2.2 3 _ rfl
  have o0 := O2.2 0 _ rfl
  have o1 := O2.2 1 _ rfl
  have o2 := O2.2 2 _ rfl
  have o3 := O2.2 3 _ rfl
  have rf0 : w2.frozen? ⟨w.heap.size + 1, 0, none⟩ = false := RW2.free 0 (by omega)
  have of0 : w2.frozen? ⟨w.heap.size + 2, 0, none⟩ = false := OW2.free 0 (by omega)
  have rf1 : w2.frozen? ⟨w.heap.size + 1, 1, none⟩ = false := RW2.free 1 (by omega)
  have of1 : w2.frozen? ⟨w.heap.size + 2, 1, none⟩ = false := OW2.free 1 (by omega)
  have rf2 : w2.frozen? ⟨w.heap.size + 1, 2, none⟩ = false := RW2.free 2 (by omega)
  have of2 : w2.frozen? ⟨w.heap.size + 2, 2, none⟩ = false := OW2.free 2 (by omega)
  have rf3 : w2.frozen? ⟨w.heap.size + 1, 3, none⟩ = false := RW2.free 3 (by omega)
  have of3 : w2.frozen? ⟨w.heap.size + 2, 3, none⟩ = false := OW2.free 3 (by omega)
  clear B2 P2 R2 RW2 O2 OW2
  go_wp2_with fail
  generalize hW : World.setCell w2 _ _ = w3
  obtain ⟨B2, P2, R2, RW2, O2, OW2⟩ := unhide Y2
  have y0 := unhide Ky0
  have ht : Turn (fun k => k = w.heap.size + 2) w2 w3 := by rw [← hW]; repeat (first | with_reducible exact Turn.refl _ _ | (with_reducible refine Turn.setIn ?_ ?side _; case side => rfl))
  have B3 : Below w.heap.size w w3 := B2.trans (ht.belowFrom hs2 (fun k hk => by omega))
  have P3 := P2.turn ht (by omega)
  have R3 := R2.turn ht (by omega)
  have RW3 := RW2.turn ht (by omega)
  have O3 : Held w3 (w.heap.size + 2) [.int .i64 x.now, .slice b0 x.near.length m0, .slice none 0 0, .slice none 0 0] := by rw [← hW]; exact (O2.set 1 (.slice b0 x.near.length m0) (by simp))
  have OW3 : WrAt w3 (w.heap.size + 2) 0 4 := by rw [← hW]; exact (OW2.set ⟨w.heap.size + 2, 1, none⟩ (.slice b0 x.near.length m0))
  have y0 := y0.turn timerSO_keeps ht (fun k hk e => by have := hk.1; omega)
  have hz3 := ht.size
  clear hW ht p0 r0 o0 rf0 of0 p1 r1 o1 rf1 of1 p2 r2 o2 rf2 of2 p3 r3 o3 rf3 of3 P2 R2 RW2 O2 OW2 Y2
  clear Ky0
  refine (mToTimerSS x.far S _ w3 (by omega) (g1.keep timerSR_keeps B3)).mono ?_
  rintro e w4 ⟨v4, rfl, y1, hb4⟩
  obtain ⟨b1, m1, rfl⟩ := y1.form
  have y0 := y0.keep timerSO_keeps hb4
  have B4 := bthen B3 hb4
  have hz4 := hb4.size
  have P4 := P3.keep hb4
  have R4 := R3.keep hb4
  have RW4 := RW3.keep hb4
  have O4 := O3.keep hb4
  have OW4 := OW3.keep hb4
  clear hb4
  have Y4 := hide (And.intro B4 (And.intro P4 (And.intro R4 (And.intro RW4 (And.intro O4 OW4)))))
  have hs4 := B4.size
  have Ky0 := hide y0
  clear y0
  have Ky1 := hide y1
  clear y1
  have p0 := P4.2 0 _ rfl
  have p1 := P4.2 1 _ rfl
  have p2 := P4.2 2 _ rfl
  have p3 := P4.2 3 _ rfl
  have r0 := R4.2 0 _ rfl
  have r1 := R4.2 1 _ rfl
  have r2 := R4.2 2 _ rfl
  have r3 := R4.2 3 _ rfl
  have o0 := O4.2 0 _ rfl
  have o1 := O4.2 1 _ rfl
  have o2 := O4.2 2 _ rfl
  have o3 := O4.2 3 _ rfl
  have rf0 : w4.frozen? ⟨w.heap.size + 1, 0, none⟩ = false := RW4.free 0 (by omega)
  have of0 : w4.frozen? ⟨w.heap.size + 2, 0, none⟩ = false := OW4.free 0 (by omega)
  have rf1 : w4.frozen? ⟨w.heap.size + 1, 1, none⟩ = false := RW4.free 1 (by omega)
  have of1 : w4.frozen? ⟨w.heap.size + 2, 1, none⟩ = false := OW4.free 1 (by omega)
  have rf2 : w4.frozen? ⟨w.heap.size + 1, 2, none⟩ = false := RW4.free 2 (by omega)
  have of2 : w4.frozen? ⟨w.heap.size + 2, 2, none⟩ = false := OW4.free 2 (by omega)
  have rf3 : w4.frozen? ⟨w.heap.size + 1, 3, none⟩ = false := RW4.free 3 (by omega)
  have of3 : w4.frozen? ⟨w.heap.size + 2, 3, none⟩ = false := OW4.free 3 (by omega)
  clear B4 P4 R4 RW4 O4 OW4
  go_wp2_with fail
  generalize hW : World.setCell w4 _ _ = w5
  obtain ⟨B4, P4, R4, RW4, O4, OW4⟩ := unhide Y4
  have y0 := unhide Ky0
  have y1 := unhide Ky1
  have ht : Turn (fun k => k = w.heap.size + 2) w4 w5 := by rw [← hW]; repeat (first | with_reducible exact Turn.refl _ _ | (with_reducible refine Turn.setIn ?_ ?side _; case side => rfl))
  have B5 : Below w.heap.size w w5 := B4.trans (ht.belowFrom hs4 (fun k hk => by omega))
  have P5 := P4.turn ht (by omega)
  have R5 := R4.turn ht (by omega)
  have RW5 := RW4.turn ht (by omega)
  have O5 : Held w5 (w.heap.size + 2) [.int .i64 x.now, .slice b0 x.near.length m0, .slice b1 x.far.length m1, .slice none 0 0] := by rw [← hW]; exact (O4.set 2 (.slice b1 x.far.length m1) (by simp))
  have OW5 : WrAt w5 (w.heap.size + 2) 0 4 := by rw [← hW]; exact (OW4.set ⟨w.heap.size + 2, 2, none⟩ (.slice b1 x.far.length m1))
  have y0 := y0.turn timerSO_keeps ht (fun k hk e => by have := hk.1; omega)
  have y1 := y1.turn timerSO_keeps ht (fun k hk e => by have := hk.1; omega)
  have hz5 := ht.size
  clear hW ht p0 r0 o0 rf0 of0 p1 r1 o1 rf1 of1 p2 r2 o2 rf2 of2 p3 r3 o3 rf3 of3 P4 R4 RW4 O4 OW4 Y4
  clear Ky0
  clear Ky1
  refine (mToTimerS x.rest S _ w5 (by omega) (g2.keep timerR_keeps B5)).mono ?_
  rintro e w6 ⟨v6, rfl, y2, hb6⟩
  obtain ⟨b2, m2, rfl⟩ := y2.form
  have y0 := y0.keep timerSO_keeps hb6
  have y1 := y1.keep timerSO_keeps hb6
  have B6 := bthen B5 hb6
  have hz6 := hb6.size
  have P6 := P5.keep hb6
  have R6 := R5.keep hb6
  have RW6 := RW5.keep hb6
  have O6 := O5.keep hb6
  have OW6 := OW5.keep hb6
  clear hb6
  have Y6 := hide (And.intro B6 (And.intro P6 (And.intro R6 (And.intro RW6 (And.intro O6 OW6)))))
  have hs6 := B6.size
  have Ky0 := hide y0
  clear y0
  have Ky1 := hide y1
  clear y1
  have Ky2 := hide y2
  clear y2
  have p0 := P6.2 0 _ rfl
  have p1 := P6.2 1 _ rfl
  have p2 := P6.2 2 _ rfl
  have p3 := P6.2 3 _ rfl
  have r0 := R6.2 0 _ rfl
  have r1 := R6.2 1 _ rfl
  have r2 := R6.2 2 _ rfl
  have r3 := R6.2 3 _ rfl
  have o0 := O6.2 0 _ rfl
  have o1 := O6.2 1 _ rfl
  have o2 := O6.2 2 _ rfl
  have o3 := O6.2 3 _ rfl
  have rf0 : w6.frozen? ⟨w.heap.size + 1, 0, none⟩ = false := RW6.free 0 (by omega)
  have of0 : w6.frozen? ⟨w.heap.size + 2, 0, none⟩ = false := OW6.free 0 (by omega)
  have rf1 : w6.frozen? ⟨w.heap.size + 1, 1, none⟩ = false := RW6.free 1 (by omega)
  have of1 : w6.frozen? ⟨w.heap.size + 2, 1, none⟩ = false := OW6.free 1 (by omega)
  have rf2 : w6.frozen? ⟨w.heap.size + 1, 2, none⟩ = false := RW6.free 2 (by omega)
  have of2 : w6.frozen? ⟨w.heap.size + 2, 2, none⟩ = false := OW6.free 2 (by omega)
  have rf3 : w6.frozen? ⟨w.heap.size + 1, 3, none⟩ = false := RW6.free 3 (by omega)
  have of3 : w6.frozen? ⟨w.heap.size + 2, 3, none⟩ = false := OW6.free 3 (by omega)
  clear B6 P6 R6 RW6 O6 OW6
  go_upto_region 6 with fail
  generalize hW : World.setCell w6 _ _ = w7
  obtain ⟨B6, P6, R6, RW6, O6, OW6⟩ := unhide Y6
  have y0 := unhide Ky0
  have y1 := unhide Ky1
  have y2 := unhide Ky2
  have ht : Turn (fun k => k = w.heap.size + 2) w6 w7 := by rw [← hW]; repeat (first | with_reducible exact Turn.refl _ _ | (with_reducible refine Turn.setIn ?_ ?side _; case side => rfl))
  have B7 : Below w.heap.size w w7 := B6.trans (ht.belowFrom hs6 (fun k hk => by omega))
  have P7 := P6.turn ht (by omega)
  have R7 := R6.turn ht (by omega)
  have RW7 := RW6.turn ht (by omega)
  have O7 : Held w7 (w.heap.size + 2) [.int .i64 x.now, .slice b0 x.near.length m0, .slice b1 x.far.length m1, .slice b2 x.rest.length m2] := by rw [← hW]; exact (O6.set 3 (.slice b2 x.rest.length m2) (by simp))
  have OW7 : WrAt w7 (w.heap.size + 2) 0 4 := by rw [← hW]; exact (OW6.set ⟨w.heap.size + 2, 3, none⟩ (.slice b2 x.rest.length m2))
  have y0 := y0.turn timerSO_keeps ht (fun k hk e => by have := hk.1; omega)
  have y1 := y1.turn timerSO_keeps ht (fun k hk e => by have := hk.1; omega)
  have y2 := y2.turn timerO_keeps ht (fun k hk e => by have := hk.1; omega)
  have hz7 := ht.size
  clear hW ht p0 r0 o0 rf0 of0 p1 r1 o1 rf1 of1 p2 r2 o2 rf2 of2 p3 r3 o3 rf3 of3 P6 R6 RW6 O6 OW6 Y6
  clear Ky0
  clear Ky1
  clear Ky2
  have hfin : wheelO w7 (Within (w.heap.size + 3) w7.heap.size) [.int .i64 x.now, .slice b0 x.near.length m0, .slice b1 x.far.length m1, .slice b2 x.rest.length m2] x := by
    refine ⟨_, _, _, ivs [(w1.heap.size, w2.heap.size), (w3.heap.size, w4.heap.size), (w5.heap.size, w6.heap.size)], rfl, ?_, ivs_disj (by simp; omega), y0.widens (fun k hk => ⟨(_, _), rfl, hk.1, hk.2⟩), y1.widens (fun k hk => ⟨(_, _), rfl, hk.1, hk.2⟩), y2.widens (fun k hk => ⟨(_, _), rfl, hk.1, hk.2⟩)⟩
    intro i k hk
    obtain ⟨p, hp, h1, h2⟩ := hk
    have hm := List.mem_of_getElem? hp
    simp at hm
    rcases hm with rfl | rfl | rfl <;> simp only at h1 h2 <;> exact ⟨by omega, by omega⟩
  have HF := hide hfin
  clear hfin y0 y1 y2 P7
  have hs7 := B7.size
  have r0 := R7.2 0 _ rfl
  have r1 := R7.2 1 _ rfl
  have r2 := R7.2 2 _ rfl
  have r3 := R7.2 3 _ rfl
  have o0 := O7.2 0 _ rfl
  have o1 := O7.2 1 _ rfl
  have o2 := O7.2 2 _ rfl
  have o3 := O7.2 3 _ rfl
  have rf0 : w7.frozen? ⟨w.heap.size + 1, 0, none⟩ = false := RW7.free 0 (by omega)
  have of0 : w7.frozen? ⟨w.heap.size + 2, 0, none⟩ = false := OW7.free 0 (by omega)
  have rf1 : w7.frozen? ⟨w.heap.size + 1, 1, none⟩ = false := RW7.free 1 (by omega)
  have of1 : w7.frozen? ⟨w.heap.size + 2, 1, none⟩ = false := OW7.free 1 (by omega)
  have rf2 : w7.frozen? ⟨w.heap.size + 1, 2, none⟩ = false := RW7.free 2 (by omega)
  have of2 : w7.frozen? ⟨w.heap.size + 2, 2, none⟩ = false := OW7.free 2 (by omega)
  have rf3 : w7.frozen? ⟨w.heap.size + 1, 3, none⟩ = false := RW7.free 3 (by omega)
  have of3 : w7.frozen? ⟨w.heap.size + 2, 3, none⟩ = false := OW7.free 3 (by omega)
  have YR := hide (And.intro R7 RW7)
  clear R7 RW7 O7 OW7
  go_wp2
  generalize hW : World.setCell (World.setCell (World.setCell (World.setCell w7 _ _) _ _) _ _) _ _ = wz
  have ht : Turn (fun k => k < w.heap.size + 3 ∧ w.heap.size ≤ k) w7 wz := by rw [← hW]; repeat (first | with_reducible exact Turn.refl _ _ | (with_reducible refine Turn.setIn ?_ ?side _; case side => (show _ < _ ∧ _ ≤ _; exact ⟨by simp, by simp⟩)))
  have RZ : Held wz (w.heap.size + 1) [.int .i64 x.now, .slice b0 x.near.length m0, .slice b1 x.far.length m1, .slice b2 x.rest.length m2] := by rw [← hW]; exact (((((unhide YR).1.set 0 (.int .i64 x.now) (by simp)).set 1 (.slice b0 x.near.length m0) (by simp)).set 2 (.slice b1 x.far.length m1) (by simp)).set 3 (.slice b2 x.rest.length m2) (by simp))
  clear hW r0 o0 rf0 of0 r1 o1 rf1 of1 r2 o2 rf2 of2 r3 o3 rf3 of3
  have r0 := RZ.2 0 _ rfl
  have r1 := RZ.2 1 _ rfl
  have r2 := RZ.2 2 _ rfl
  have r3 := RZ.2 3 _ rfl
  refine bodyPost_ret (v := .agg #[.int .i64 x.now, .slice b0 x.near.length m0, .slice b1 x.far.length m1, .slice b2 x.rest.length m2]) (by simp [results, Try.results22, go_sem, *]) rfl ⟨[.int .i64 x.now, .slice b0 x.near.length m0, .slice b1 x.far.length m1, .slice b2 x.rest.length m2], rfl, ?_, B7.trans (ht.belowFrom hs7 (fun k hk => hk.2))⟩
  exact own_fin wheelO_keeps wheelO_widens (unhide HF) ht (fun k hk e => by have := e.1; omega) (by omega)

set_option maxHeartbeats 4000000 in
theorem mEqWheel (x : WheelD) (S S' : Nat → Prop) (cs cs' : List Value) (w : World) (hx : wheelR w S cs x) (hy : wheelR w S' cs' x) :
    Calls Try.prog 38 #[.agg cs.toArray, .agg cs'.toArray] w fun e w' => e = .returned (.bool true) ∧ Below w.heap.size w w' := by
  obtain ⟨s0, s1, s2, rfl, g0, g1, g2⟩ := hx
  obtain ⟨a0, k0, rfl⟩ := g0.form
  obtain ⟨a1, k1, rfl⟩ := g1.form
  obtain ⟨a2, k2, rfl⟩ := g2.form
  obtain ⟨sy0, sy1, sy2, rfl, gy0, gy1, gy2⟩ := hy
  obtain ⟨ay0, ky0, rfl⟩ := gy0.form
  obtain ⟨ay1, ky1, rfl⟩ := gy1.form
  obtain ⟨ay2, ky2, rfl⟩ := gy2.form
  have P0 := (Held.new w [.int .i64 x.now, .slice a0 x.near.length k0, .slice a1 x.far.length k1, .slice a2 x.rest.length k2] 55).keep (bnew _ (.cells #[.int .i64 x.now, .slice ay0 x.near.length ky0, .slice ay1 x.far.length ky1, .slice ay2 x.rest.length ky2] 55))
  have Q0 := Held.new (w.alloc (.cells #[.int .i64 x.now, .slice a0 x.near.length k0, .slice a1 x.far.length k1, .slice a2 x.rest.length k2] 55)) [.int .i64 x.now, .slice ay0 x.near.length ky0, .slice ay1 x.far.length ky1, .slice ay2 x.rest.length ky2] 55
  rw [show (w.alloc (.cells #[.int .i64 x.now, .slice a0 x.near.length k0, .slice a1 x.far.length k1, .slice a2 x.rest.length k2] 55)).heap.size = w.heap.size + 1 by simp] at Q0
  have B0 := bthen (bnew w (.cells #[.int .i64 x.now, .slice a0 x.near.length k0, .slice a1 x.far.length k1, .slice a2 x.rest.length k2] 55)) (bnew _ (.cells #[.int .i64 x.now, .slice ay0 x.near.length ky0, .slice ay1 x.far.length ky1, .slice ay2 x.rest.length ky2] 55))
  go_enter Try.func38, Try.ntmps38
  go_wp2_with fail
  generalize World.alloc (World.alloc w _) _ = w0 at *
  refine (mEqTimerSS x.near S S' _ _ _ (g0.keep timerSR_keeps B0) (gy0.keep timerSR_keeps B0)).mono ?_
  rintro e w1 ⟨rfl, hb1⟩
  have B1 := bthen B0 hb1
  have P1 := P0.keep hb1
  have Q1 := Q0.keep hb1
  clear hb1
  have p0 := P1.2 0 _ rfl
  have p1 := P1.2 1 _ rfl
  have p2 := P1.2 2 _ rfl
  have p3 := P1.2 3 _ rfl
  have q_0 := Q1.2 0 _ rfl
  have q_1 := Q1.2 1 _ rfl
  have q_2 := Q1.2 2 _ rfl
  have q_3 := Q1.2 3 _ rfl
  go_wp2_with fail
  refine (mEqTimerSS x.far S S' _ _ _ (g1.keep timerSR_keeps B1) (gy1.keep timerSR_keeps B1)).mono ?_
  rintro e w2 ⟨rfl, hb2⟩
  have B2 := bthen B1 hb2
  have P2 := P1.keep hb2
  have Q2 := Q1.keep hb2
  clear hb2
  clear p0 p1 p2 p3
  clear q_0 q_1 q_2 q_3
  have p0 := P2.2 0 _ rfl
  have p1 := P2.2 1 _ rfl
  have p2 := P2.2 2 _ rfl
  have p3 := P2.2 3 _ rfl
  have q_0 := Q2.2 0 _ rfl
  have q_1 := Q2.2 1 _ rfl
  have q_2 := Q2.2 2 _ rfl
  have q_3 := Q2.2 3 _ rfl
  go_wp2_with fail
  refine (mEqTimerS x.rest S S' _ _ _ (g2.keep timerR_keeps B2) (gy2.keep timerR_keeps B2)).mono ?_
  rintro e w3 ⟨rfl, hb3⟩
  have B3 := bthen B2 hb3
  have P3 := P2.keep hb3
  have Q3 := Q2.keep hb3
  clear hb3
  clear p0 p1 p2 p3
  clear q_0 q_1 q_2 q_3
  have p0 := P3.2 0 _ rfl
  have p1 := P3.2 1 _ rfl
  have p2 := P3.2 2 _ rfl
  have p3 := P3.2 3 _ rfl
  have q_0 := Q3.2 0 _ rfl
  have q_1 := Q3.2 1 _ rfl
  have q_2 := Q3.2 2 _ rfl
  have q_3 := Q3.2 3 _ rfl
  go_wp2
  go_ret
  exact ⟨rfl, B3⟩

end Go.Proofs.Ytciipadkdglhmaa
