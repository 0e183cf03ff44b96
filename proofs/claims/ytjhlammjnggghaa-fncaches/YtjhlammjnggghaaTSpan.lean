/-
  Span: what lies in memory, read and owned; contracts of the law's own sizes, copies and comparisons.
-/
import Derived.Test.YtjhlammjnggghaaTAttr
import Derived.Test.YtjhlammjnggghaaSpans
import Derived.Deep.CutRange
namespace Go.Proofs.Ytjhlammjnggghaa
open Go.ChangeShapes Go.WideShapes Go.ChangeAt Go.RowKit
set_option linter.unusedVariables false
set_option maxRecDepth 100000

def spanBulk (x : SpanD) : Nat := bulkL attrBulk x.2.2.2.2.2
def spanR (w : World) (S : Nat → Prop) (cs : List Value) (x : SpanD) : Prop := ∃ s0, cs = [.int .i64 x.1, .int .i64 x.2.1, .int .i64 x.2.2.1, .int .i64 x.2.2.2.1, .bool x.2.2.2.2.1, s0] ∧ LAt 4 attrR w S s0 x.2.2.2.2.2
def spanO (w : World) (S : Nat → Prop) (cs : List Value) (x : SpanD) : Prop := ∃ s0, cs = [.int .i64 x.1, .int .i64 x.2.1, .int .i64 x.2.2.1, .int .i64 x.2.2.2.1, .bool x.2.2.2.2.1, s0] ∧ LOw 4 attrO w S s0 x.2.2.2.2.2
theorem spanR_keeps : Keeps spanR := by
  intro w w' S T cs x ht hd h
  obtain ⟨s0, e, g0⟩ := h
  exact ⟨s0, e, g0.turn attrR_keeps ht hd⟩
theorem spanR_widens : Widens spanR := by
  intro w S T cs x hs h
  obtain ⟨s0, e, g0⟩ := h
  exact ⟨s0, e, g0.widens attrR_widens hs⟩
theorem spanO_keeps : Keeps spanO := by
  intro w w' S T cs x ht hd h
  obtain ⟨s0, e, g0⟩ := h
  exact ⟨s0, e, g0.turn attrO_keeps ht hd⟩
theorem spanO_widens : Widens spanO := by
  intro w S T cs x hs h
  obtain ⟨s0, e, g0⟩ := h
  exact ⟨s0, e, g0.widens hs⟩
theorem spanO_read (w : World) (S : Nat → Prop) (cs : List Value) (x : SpanD) (h : spanO w S cs x) : spanR w S cs x := by
  obtain ⟨s0, e, g0⟩ := h
  exact ⟨s0, e, g0.read attrR_widens attrO_read⟩
theorem spanO_len {w : World} {S : Nat → Prop} {cs : List Value} {x : SpanD} (h : spanO w S cs x) : cs.length = 6 := by
  obtain ⟨s0, rfl, _⟩ := h; rfl

set_option maxHeartbeats 2000000 in
theorem mSzSpan (x : SpanD) (S : Nat → Prop) (cs : List Value) (left : Int) (w : World) (h0 : 0 ≤ left) (h1 : left ≤ 1048576) (hx : spanR w S cs x) :
    Calls Try.prog 12 #[.agg cs.toArray, .int .i64 left] w fun e w' => (∃ z : Int, e = .returned (.int .i64 z) ∧ (z < 0 ∨ (0 ≤ z ∧ z + spanBulk x ≤ left))) ∧ Below w.heap.size w w' := by
  unfold spanBulk
  obtain ⟨s0, rfl, g0⟩ := hx
  obtain ⟨a0, k0, rfl⟩ := g0.form
  have H0 := Held.new w [.int .i64 x.1, .int .i64 x.2.1, .int .i64 x.2.2.1, .int .i64 x.2.2.2.1, .bool x.2.2.2.2.1, .slice a0 x.2.2.2.2.2.length k0] 25
  have B0 := bnew w (.cells #[.int .i64 x.1, .int .i64 x.2.1, .int .i64 x.2.2.1, .int .i64 x.2.2.2.1, .bool x.2.2.2.2.1, .slice a0 x.2.2.2.2.2.length k0] 25)
  go_enter Try.func12, Try.ntmps12
  go_wp2_with fail
  refine (mSzAttrS x.2.2.2.2.2 S _ left _ h0 h1 (g0.keep attrR_keeps B0)).mono ?_
  rintro e w1 ⟨⟨z1, rfl, hz1⟩, hb1⟩
  have HZ1 := hide hz1
  have B1 := bthen B0 hb1
  have H1 := H0.keep hb1
  clear hz1 hb1
  by_cases hneg1 : z1 < 0
  · go_wp2
    go_ret
    exact ⟨⟨_, rfl, .inl (by omega)⟩, B1⟩
  have hzz1 : 0 ≤ z1 ∧ z1 + bulkL attrBulk x.2.2.2.2.2 ≤ left := by rcases unhide HZ1 with h | h <;> omega
  clear HZ1
  have hfin : z1 < 0 ∨ (0 ≤ z1 ∧ z1 + (bulkL attrBulk x.2.2.2.2.2 : Nat) ≤ left) := by omega
  have HF := hide hfin
  clear hfin
  go_wp2
  go_ret
  exact ⟨⟨_, rfl, unhide HF⟩, B1⟩

set_option maxHeartbeats 4000000 in
theorem mToSpan (x : SpanD) (S : Nat → Prop) (cs : List Value) (w : World) (hb : spanBulk x ≤ 1048576) (hx : spanR w S cs x) :
    Calls Try.prog 15 #[.agg cs.toArray] w fun e w' => ∃ cs', e = .returned (.agg cs'.toArray) ∧ spanO w' (Within w.heap.size w'.heap.size) cs' x ∧ Below w.heap.size w w' := by
  obtain ⟨s0, rfl, g0⟩ := hx
  obtain ⟨a0, k0, rfl⟩ := g0.form
  unfold spanBulk at hb
  go_enter Try.func15, Try.ntmps15
  go_wp2_with fail
  generalize hW : World.alloc (World.alloc (World.alloc w _) _) _ = w1
  have B1 : Below w.heap.size w w1 := by rw [← hW]; (repeat (first | with_reducible assumption | with_reducible exact Below.refl _ _ | with_reducible refine Below.drew ?_ | with_reducible refine bdrewN ?_ _ | (with_reducible refine Below.alloc ?_ ?side _; case side => (first | omega | (simp [go_sem]; done) | (simp [go_sem]; omega))) | (with_reducible refine Below.setCell ?_ ?side _; case side => (first | omega | (simp [go_sem]; done) | (simp [go_sem]; omega)))))
  have P1 : Held w1 w.heap.size [.int .i64 x.1, .int .i64 x.2.1, .int .i64 x.2.2.1, .int .i64 x.2.2.2.1, .bool x.2.2.2.2.1, .slice a0 x.2.2.2.2.2.length k0] := by rw [← hW]; exact ((Held.new w [.int .i64 x.1, .int .i64 x.2.1, .int .i64 x.2.2.1, .int .i64 x.2.2.2.1, .bool x.2.2.2.2.1, .slice a0 x.2.2.2.2.2.length k0] 25).keep (bnew _ _)).keep (bnew _ _)
  have R1 : Held w1 (w.heap.size + 1) [.int .i64 0, .int .i64 0, .int .i64 0, .int .i64 0, .bool false, .slice none 0 0] := by rw [← hW]; have := (Held.new (w.alloc (.cells #[.int .i64 x.1, .int .i64 x.2.1, .int .i64 x.2.2.1, .int .i64 x.2.2.2.1, .bool x.2.2.2.2.1, .slice a0 x.2.2.2.2.2.length k0] 25)) [.int .i64 0, .int .i64 0, .int .i64 0, .int .i64 0, .bool false, .slice none 0 0] 33).keep (bnew _ (.cells #[.int .i64 x.1, .int .i64 x.2.1, .int .i64 x.2.2.1, .int .i64 x.2.2.2.1, .bool x.2.2.2.2.1, .slice none 0 0] 33)); simpa using this
  have RW1 : WrAt w1 (w.heap.size + 1) 0 6 := by rw [← hW]; have := (WrAt.new (w.alloc (.cells #[.int .i64 x.1, .int .i64 x.2.1, .int .i64 x.2.2.1, .int .i64 x.2.2.2.1, .bool x.2.2.2.2.1, .slice a0 x.2.2.2.2.2.length k0] 25)) #[.int .i64 0, .int .i64 0, .int .i64 0, .int .i64 0, .bool false, .slice none 0 0] 33 6 rfl).keep (bnew _ (.cells #[.int .i64 x.1, .int .i64 x.2.1, .int .i64 x.2.2.1, .int .i64 x.2.2.2.1, .bool x.2.2.2.2.1, .slice none 0 0] 33)); simpa using this
  have O1 : Held w1 (w.heap.size + 2) [.int .i64 x.1, .int .i64 x.2.1, .int .i64 x.2.2.1, .int .i64 x.2.2.2.1, .bool x.2.2.2.2.1, .slice none 0 0] := by rw [← hW]; have := Held.new ((w.alloc (.cells #[.int .i64 x.1, .int .i64 x.2.1, .int .i64 x.2.2.1, .int .i64 x.2.2.2.1, .bool x.2.2.2.2.1, .slice a0 x.2.2.2.2.2.length k0] 25)).alloc (.cells #[.int .i64 0, .int .i64 0, .int .i64 0, .int .i64 0, .bool false, .slice none 0 0] 33)) [.int .i64 x.1, .int .i64 x.2.1, .int .i64 x.2.2.1, .int .i64 x.2.2.2.1, .bool x.2.2.2.2.1, .slice none 0 0] 33; simpa using this
  have OW1 : WrAt w1 (w.heap.size + 2) 0 6 := by rw [← hW]; have := WrAt.new ((w.alloc (.cells #[.int .i64 x.1, .int .i64 x.2.1, .int .i64 x.2.2.1, .int .i64 x.2.2.2.1, .bool x.2.2.2.2.1, .slice a0 x.2.2.2.2.2.length k0] 25)).alloc (.cells #[.int .i64 0, .int .i64 0, .int .i64 0, .int .i64 0, .bool false, .slice none 0 0] 33)) #[.int .i64 x.1, .int .i64 x.2.1, .int .i64 x.2.2.1, .int .i64 x.2.2.2.1, .bool x.2.2.2.2.1, .slice none 0 0] 33 6 rfl; simpa using this
  have hs1 : w1.heap.size = w.heap.size + 3 := by rw [← hW]; simp
  clear hW
  refine (mToAttrS x.2.2.2.2.2 S _ w1 (by omega) (g0.keep attrR_keeps B1)).mono ?_
  rintro e w2 ⟨v2, rfl, y0, hb2⟩
  obtain ⟨b0, m0, rfl⟩ := y0.form
  have B2 := bthen B1 hb2
  have hz2 := hb2.size
  have P2 := P1.keep hb2
  have R2 := R1.keep hb2
  have RW2 := RW1.keep hb2
  have O2 := O1.keep hb2
  have OW2 := OW1.keep hb2
  clear hb2
  have Y2 := hide (And.intro B2 (And.intro P2 (And.intro R2 (And.intro RW2 (And.intro O2 OW2)))))
  have hs2 := B2.size
  have Ky0 := hide y0
  clear y0
  have p0 := P2.2 0 _ rfl
  have p1 := P2.2 1 _ rfl
  have p2 := P2.2 2 _ rfl
  have p3 := P2.2 3 _ rfl
  have p4 := P2.2 4 _ rfl
  have p5 := P2.2 5 _ rfl
  have r0 := R2.2 0 _ rfl
  have r1 := R2.2 1 _ rfl
  have r2 := R2.2 2 _ rfl
  have r3 := R2.2 3 _ rfl
  have r4 := R2.2 4 _ rfl
  have r5 := R2.2 5 _ rfl
  have o0 := O2.2 0 _ rfl
  have o1 := O2.2 1 _ rfl
  have o2 := O2.2 2 _ rfl
  have o3 := O2.2 3 _ rfl
  have o4 := O2.2 4 _ rfl
  have o5 := O2.2 5 _ rfl
  have rf0 : w2.frozen? ⟨w.heap.size + 1, 0, none⟩ = false := RW2.free 0 (by omega)
  have of0 : w2.frozen? ⟨w.heap.size + 2, 0, none⟩ = false := OW2.free 0 (by omega)
  have rf1 : w2.frozen? ⟨w.heap.size + 1, 1, none⟩ = false := RW2.free 1 (by omega)
  have of1 : w2.frozen? ⟨w.heap.size + 2, 1, none⟩ = false := OW2.free 1 (by omega)
  have rf2 : w2.frozen? ⟨w.heap.size + 1, 2, none⟩ = false := RW2.free 2 (by omega)
  have of2 : w2.frozen? ⟨w.heap.size + 2, 2, none⟩ = false := OW2.free 2 (by omega)
  have rf3 : w2.frozen? ⟨w.heap.size + 1, 3, none⟩ = false := RW2.free 3 (by omega)
  have of3 : w2.frozen? ⟨w.heap.size + 2, 3, none⟩ = false := OW2.free 3 (by omega)
  have rf4 : w2.frozen? ⟨w.heap.size + 1, 4, none⟩ = false := RW2.free 4 (by omega)
  have of4 : w2.frozen? ⟨w.heap.size + 2, 4, none⟩ = false := OW2.free 4 (by omega)
  have rf5 : w2.frozen? ⟨w.heap.size + 1, 5, none⟩ = false := RW2.free 5 (by omega)
  have of5 : w2.frozen? ⟨w.heap.size + 2, 5, none⟩ = false := OW2.free 5 (by omega)
  clear B2 P2 R2 RW2 O2 OW2
  go_upto_region 8 with fail
  generalize hW : World.setCell w2 _ _ = w3
  obtain ⟨B2, P2, R2, RW2, O2, OW2⟩ := unhide Y2
  have y0 := unhide Ky0
  have ht : Turn (fun k => k = w.heap.size + 2) w2 w3 := by rw [← hW]; repeat (first | with_reducible exact Turn.refl _ _ | (with_reducible refine Turn.setIn ?_ ?side _; case side => rfl))
  have B3 : Below w.heap.size w w3 := B2.trans (ht.belowFrom hs2 (fun k hk => by omega))
  have P3 := P2.turn ht (by omega)
  have R3 := R2.turn ht (by omega)
  have RW3 := RW2.turn ht (by omega)
  have O3 : Held w3 (w.heap.size + 2) [.int .i64 x.1, .int .i64 x.2.1, .int .i64 x.2.2.1, .int .i64 x.2.2.2.1, .bool x.2.2.2.2.1, .slice b0 x.2.2.2.2.2.length m0] := by rw [← hW]; exact (O2.set 5 (.slice b0 x.2.2.2.2.2.length m0) (by simp))
  have OW3 : WrAt w3 (w.heap.size + 2) 0 6 := by rw [← hW]; exact (OW2.set ⟨w.heap.size + 2, 5, none⟩ (.slice b0 x.2.2.2.2.2.length m0))
  have y0 := y0.turn attrO_keeps ht (fun k hk e => by have := hk.1; omega)
  have hz3 := ht.size
  clear hW ht p0 r0 o0 rf0 of0 p1 r1 o1 rf1 of1 p2 r2 o2 rf2 of2 p3 r3 o3 rf3 of3 p4 r4 o4 rf4 of4 p5 r5 o5 rf5 of5 P2 R2 RW2 O2 OW2 Y2
  clear Ky0
  have hfin : spanO w3 (Within (w.heap.size + 3) w3.heap.size) [.int .i64 x.1, .int .i64 x.2.1, .int .i64 x.2.2.1, .int .i64 x.2.2.2.1, .bool x.2.2.2.2.1, .slice b0 x.2.2.2.2.2.length m0] x := ⟨_, rfl, y0.widens (fun k hk => ⟨by have := hk.1; omega, by have := hk.2; omega⟩)⟩
  have HF := hide hfin
  clear hfin y0 P3
  have hs3 := B3.size
  have r0 := R3.2 0 _ rfl
  have r1 := R3.2 1 _ rfl
  have r2 := R3.2 2 _ rfl
  have r3 := R3.2 3 _ rfl
  have r4 := R3.2 4 _ rfl
  have r5 := R3.2 5 _ rfl
  have o0 := O3.2 0 _ rfl
  have o1 := O3.2 1 _ rfl
  have o2 := O3.2 2 _ rfl
  have o3 := O3.2 3 _ rfl
  have o4 := O3.2 4 _ rfl
  have o5 := O3.2 5 _ rfl
  have rf0 : w3.frozen? ⟨w.heap.size + 1, 0, none⟩ = false := RW3.free 0 (by omega)
  have of0 : w3.frozen? ⟨w.heap.size + 2, 0, none⟩ = false := OW3.free 0 (by omega)
  have rf1 : w3.frozen? ⟨w.heap.size + 1, 1, none⟩ = false := RW3.free 1 (by omega)
  have of1 : w3.frozen? ⟨w.heap.size + 2, 1, none⟩ = false := OW3.free 1 (by omega)
  have rf2 : w3.frozen? ⟨w.heap.size + 1, 2, none⟩ = false := RW3.free 2 (by omega)
  have of2 : w3.frozen? ⟨w.heap.size + 2, 2, none⟩ = false := OW3.free 2 (by omega)
  have rf3 : w3.frozen? ⟨w.heap.size + 1, 3, none⟩ = false := RW3.free 3 (by omega)
  have of3 : w3.frozen? ⟨w.heap.size + 2, 3, none⟩ = false := OW3.free 3 (by omega)
  have rf4 : w3.frozen? ⟨w.heap.size + 1, 4, none⟩ = false := RW3.free 4 (by omega)
  have of4 : w3.frozen? ⟨w.heap.size + 2, 4, none⟩ = false := OW3.free 4 (by omega)
  have rf5 : w3.frozen? ⟨w.heap.size + 1, 5, none⟩ = false := RW3.free 5 (by omega)
  have of5 : w3.frozen? ⟨w.heap.size + 2, 5, none⟩ = false := OW3.free 5 (by omega)
  have YR := hide (And.intro R3 RW3)
  clear R3 RW3 O3 OW3
  go_wp2
  generalize hW : World.setCell (World.setCell (World.setCell (World.setCell (World.setCell (World.setCell w3 _ _) _ _) _ _) _ _) _ _) _ _ = wz
  have ht : Turn (fun k => k < w.heap.size + 3 ∧ w.heap.size ≤ k) w3 wz := by rw [← hW]; repeat (first | with_reducible exact Turn.refl _ _ | (with_reducible refine Turn.setIn ?_ ?side _; case side => (show _ < _ ∧ _ ≤ _; exact ⟨by simp, by simp⟩)))
  have RZ : Held wz (w.heap.size + 1) [.int .i64 x.1, .int .i64 x.2.1, .int .i64 x.2.2.1, .int .i64 x.2.2.2.1, .bool x.2.2.2.2.1, .slice b0 x.2.2.2.2.2.length m0] := by rw [← hW]; exact (((((((unhide YR).1.set 0 (.int .i64 x.1) (by simp)).set 1 (.int .i64 x.2.1) (by simp)).set 2 (.int .i64 x.2.2.1) (by simp)).set 3 (.int .i64 x.2.2.2.1) (by simp)).set 4 (.bool x.2.2.2.2.1) (by simp)).set 5 (.slice b0 x.2.2.2.2.2.length m0) (by simp))
  clear hW r0 o0 rf0 of0 r1 o1 rf1 of1 r2 o2 rf2 of2 r3 o3 rf3 of3 r4 o4 rf4 of4 r5 o5 rf5 of5
  have r0 := RZ.2 0 _ rfl
  have r1 := RZ.2 1 _ rfl
  have r2 := RZ.2 2 _ rfl
  have r3 := RZ.2 3 _ rfl
  have r4 := RZ.2 4 _ rfl
  have r5 := RZ.2 5 _ rfl
  refine bodyPost_ret (v := .agg #[.int .i64 x.1, .int .i64 x.2.1, .int .i64 x.2.2.1, .int .i64 x.2.2.2.1, .bool x.2.2.2.2.1, .slice b0 x.2.2.2.2.2.length m0]) (by simp [results, Try.results15, go_sem, *]) rfl ⟨[.int .i64 x.1, .int .i64 x.2.1, .int .i64 x.2.2.1, .int .i64 x.2.2.2.1, .bool x.2.2.2.2.1, .slice b0 x.2.2.2.2.2.length m0], rfl, ?_, B3.trans (ht.belowFrom hs3 (fun k hk => hk.2))⟩
  exact own_fin spanO_keeps spanO_widens (unhide HF) ht (fun k hk e => by have := e.1; omega) (by omega)

set_option maxHeartbeats 4000000 in
theorem mEqSpan (x : SpanD) (S S' : Nat → Prop) (cs cs' : List Value) (w : World) (hx : spanR w S cs x) (hy : spanR w S' cs' x) :
    Calls Try.prog 18 #[.agg cs.toArray, .agg cs'.toArray] w fun e w' => e = .returned (.bool true) ∧ Below w.heap.size w w' := by
  obtain ⟨s0, rfl, g0⟩ := hx
  obtain ⟨a0, k0, rfl⟩ := g0.form
  obtain ⟨sy0, rfl, gy0⟩ := hy
  obtain ⟨ay0, ky0, rfl⟩ := gy0.form
  have P0 := (Held.new w [.int .i64 x.1, .int .i64 x.2.1, .int .i64 x.2.2.1, .int .i64 x.2.2.2.1, .bool x.2.2.2.2.1, .slice a0 x.2.2.2.2.2.length k0] 33).keep (bnew _ (.cells #[.int .i64 x.1, .int .i64 x.2.1, .int .i64 x.2.2.1, .int .i64 x.2.2.2.1, .bool x.2.2.2.2.1, .slice ay0 x.2.2.2.2.2.length ky0] 33))
  have Q0 := Held.new (w.alloc (.cells #[.int .i64 x.1, .int .i64 x.2.1, .int .i64 x.2.2.1, .int .i64 x.2.2.2.1, .bool x.2.2.2.2.1, .slice a0 x.2.2.2.2.2.length k0] 33)) [.int .i64 x.1, .int .i64 x.2.1, .int .i64 x.2.2.1, .int .i64 x.2.2.2.1, .bool x.2.2.2.2.1, .slice ay0 x.2.2.2.2.2.length ky0] 33
  rw [show (w.alloc (.cells #[.int .i64 x.1, .int .i64 x.2.1, .int .i64 x.2.2.1, .int .i64 x.2.2.2.1, .bool x.2.2.2.2.1, .slice a0 x.2.2.2.2.2.length k0] 33)).heap.size = w.heap.size + 1 by simp] at Q0
  have B0 := bthen (bnew w (.cells #[.int .i64 x.1, .int .i64 x.2.1, .int .i64 x.2.2.1, .int .i64 x.2.2.2.1, .bool x.2.2.2.2.1, .slice a0 x.2.2.2.2.2.length k0] 33)) (bnew _ (.cells #[.int .i64 x.1, .int .i64 x.2.1, .int .i64 x.2.2.1, .int .i64 x.2.2.2.1, .bool x.2.2.2.2.1, .slice ay0 x.2.2.2.2.2.length ky0] 33))
  go_enter Try.func18, Try.ntmps18
  go_wp2_with fail
  generalize World.alloc (World.alloc w _) _ = w0 at *
  refine (mEqAttrS x.2.2.2.2.2 S S' _ _ _ (g0.keep attrR_keeps B0) (gy0.keep attrR_keeps B0)).mono ?_
  rintro e w1 ⟨rfl, hb1⟩
  have B1 := bthen B0 hb1
  have P1 := P0.keep hb1
  have Q1 := Q0.keep hb1
  clear hb1
  have p0 := P1.2 0 _ rfl
  have p1 := P1.2 1 _ rfl
  have p2 := P1.2 2 _ rfl
  have p3 := P1.2 3 _ rfl
  have p4 := P1.2 4 _ rfl
  have p5 := P1.2 5 _ rfl
  have q_0 := Q1.2 0 _ rfl
  have q_1 := Q1.2 1 _ rfl
  have q_2 := Q1.2 2 _ rfl
  have q_3 := Q1.2 3 _ rfl
  have q_4 := Q1.2 4 _ rfl
  have q_5 := Q1.2 5 _ rfl
  go_wp2
  go_ret
  exact ⟨rfl, B1⟩

theorem mInfoSpan : (Try.prog.info? 33).map (fun i => (i.zero, i.size, i.bytes)) = some (some (.agg #[.int .i64 0, .int .i64 0, .int .i64 0, .int .i64 0, .bool false, .slice none 0 0]), 6, 64) := by kernel_rfl
theorem mMakeSpan (n : Nat) (hn : n ≤ 1048576) (w : World) : ∃ w0, (Instr.makeSlice 42 (.int .i64 n) (.int .i64 n)).run Try.prog w = .ok (.slice (some ⟨w.heap.size, 0, none⟩) n n) w0 ∧ WrAt w0 w.heap.size 0 (n * 6) ∧ Below w.heap.size w w0 := by
  obtain ⟨i0, hi, hz0, hz1, hz2⟩ := info_parts mInfoSpan
  have h := run_make (P := Try.prog) w 42 33 i0 _ Try.underlying42 hi hz0 .i64 .i64 n n (by omega) (by omega) (by rw [hz2]; omega) (by omega)
  refine ⟨_, h, ?_, bnew _ _⟩
  rw [hz1]
  exact WrAt.new _ _ _ _ (by rw [size_madeCells]; simp)

set_option maxHeartbeats 4000000 in
theorem mToSpanS (l : List SpanD) (S : Nat → Prop) (v : Value) (w : World) (h1 : bulkL spanBulk l ≤ 1048576) (ha : LAt 6 spanR w S v l) :
    Calls Try.prog 85 #[v] w fun e w' => ∃ v', e = .returned v' ∧ LOw 6 spanO w' (Within w.heap.size w'.heap.size) v' l ∧ Below w.heap.size w w' := by
  obtain ⟨a, cap, rfl⟩ := ha.form
  have hl := bulkL_len spanBulk l
  have HA := hide ha
  clear ha
  obtain ⟨w0, hmk, hrow, hb0⟩ := mMakeSpan l.length (by omega) w
  go_enter Try.func85, Try.ntmps85
  go_wp2
  go_loopw [4] (fun i wk => ∃ k : Nat, k ≤ l.length ∧ i = .int .i64 k ∧ Below w.heap.size w wk ∧ Hid (Filled 6 spanO w wk l k)) (fun i _ => l.length - (intOf i).toNat)
  case atStart => exact ⟨0, Nat.zero_le _, rfl, hb0, hide (Filled.start _ _ _ _ _ hrow)⟩
  case round =>
    obtain ⟨k, hk, rfl, hbl, hfl⟩ := hrel
    have hbs := hbl.size
    by_cases hlt : k < l.length
    · have hki : (k : Int) < (l.length : Int) := by omega
      have hwr := (unhide hfl).1
      have hrs := hwr.1
      have hkn : k * 6 + 6 ≤ l.length * 6 := by omega
      obtain ⟨b, o, cs, rfl, hbk, hSb, hcs, hin⟩ := (unhide HA).at k hlt
      have hcs := spanR_keeps _ _ S None1 cs _ (Below.turn hbl) none_off hcs
      have hin := hin.turn hbk (Below.turn hbl) (fun e => e)
      have hmem := bulkL_mem spanBulk (List.getElem_mem hlt)
      generalize hX : l[k] = X at *
      have HX := hide hX
      clear hX
      have hXb : spanBulk X ≤ 1048576 := by omega
      obtain ⟨s0, rfl, g0⟩ := hcs
      obtain ⟨a0, k0, rfl⟩ := g0.form
      have c0 : World.cell? _ ⟨b, o + k * 6, none⟩ = some (.int .i64 X.1) := hin 0 _ rfl
      have c1 : World.cell? _ ⟨b, o + k * 6 + 1, none⟩ = some (.int .i64 X.2.1) := hin 1 _ rfl
      have c2 : World.cell? _ ⟨b, o + k * 6 + 2, none⟩ = some (.int .i64 X.2.2.1) := hin 2 _ rfl
      have c3 : World.cell? _ ⟨b, o + k * 6 + 3, none⟩ = some (.int .i64 X.2.2.2.1) := hin 3 _ rfl
      have c4 : World.cell? _ ⟨b, o + k * 6 + 4, none⟩ = some (.bool X.2.2.2.2.1) := hin 4 _ rfl
      have c5 : World.cell? _ ⟨b, o + k * 6 + 5, none⟩ = some (.slice a0 X.2.2.2.2.2.length k0) := hin 5 _ rfl
      clear hin
      obtain ⟨u0, hu0⟩ := hwr.cell (k * 6 + 0) (by omega)
      have f0 := hwr.free (k * 6 + 0) (by omega)
      simp only [Nat.zero_add, Nat.add_zero] at hu0 f0
      obtain ⟨u1, hu1⟩ := hwr.cell (k * 6 + 1) (by omega)
      have f1 := hwr.free (k * 6 + 1) (by omega)
      simp only [Nat.zero_add] at hu1 f1
      obtain ⟨u2, hu2⟩ := hwr.cell (k * 6 + 2) (by omega)
      have f2 := hwr.free (k * 6 + 2) (by omega)
      simp only [Nat.zero_add] at hu2 f2
      obtain ⟨u3, hu3⟩ := hwr.cell (k * 6 + 3) (by omega)
      have f3 := hwr.free (k * 6 + 3) (by omega)
      simp only [Nat.zero_add] at hu3 f3
      obtain ⟨u4, hu4⟩ := hwr.cell (k * 6 + 4) (by omega)
      have f4 := hwr.free (k * 6 + 4) (by omega)
      simp only [Nat.zero_add] at hu4 f4
      obtain ⟨u5, hu5⟩ := hwr.cell (k * 6 + 5) (by omega)
      have f5 := hwr.free (k * 6 + 5) (by omega)
      simp only [Nat.zero_add] at hu5 f5
      clear hwr hmk hrow
      go_wp2_with fail
      refine (mToSpan X S _ _ hXb ⟨_, rfl, g0⟩).mono ?_
      rintro e w2 ⟨cs2, rfl, yy, hb2⟩
      obtain ⟨t0, rfl, y0⟩ := id yy
      obtain ⟨b0, m0, rfl⟩ := y0.form
      rw [← hb2.cell hrs] at hu0 hu1 hu2 hu3 hu4 hu5
      rw [← hb2.frozen hrs] at f0 f1 f2 f3 f4 f5
      have hrs2 := Nat.lt_of_lt_of_le hrs hb2.size
      have HB := hide (And.intro yy hb2)
      clear yy hb2 c0 c1 c2 c3 c4 c5 y0
      go_wp2
      go_roundw
      case rel =>
        obtain ⟨yy, hb2⟩ := unhide HB
        have st := Filled.step (cs := [.int .i64 X.1, .int .i64 X.2.1, .int .i64 X.2.2.1, .int .i64 X.2.2.2.1, .bool X.2.2.2.2.1, .slice b0 X.2.2.2.2.2.length m0]) spanO_keeps (unhide hfl) hlt hb2 (by rw [unhide HX]; exact yy) rfl
        refine ⟨k + 1, by omega, by go_num, ?_, hide ?_⟩
        · have hbb := bthen hbl hb2
          (repeat (first | with_reducible assumption | with_reducible exact Below.refl _ _ | with_reducible refine Below.drew ?_ | with_reducible refine bdrewN ?_ _ | (with_reducible refine Below.alloc ?_ ?side _; case side => (first | omega | (simp [go_sem]; done) | (simp [go_sem]; omega))) | (with_reducible refine Below.setCell ?_ ?side _; case side => (first | omega | (simp [go_sem]; done) | (simp [go_sem]; omega)))))
        · simp only [putL, Nat.add_zero, Nat.zero_add, Nat.reduceAdd] at st
          exact st
      case measure => simp [intOf]; omega
    · have hki : ¬ (k : Int) < (l.length : Int) := by omega
      obtain rfl : k = l.length := by omega
      go_wp2
      go_ret
      exact ⟨_, rfl, (unhide hfl).done (by omega), hbl⟩

set_option maxHeartbeats 2000000 in
theorem mSzSpanS (l : List SpanD) (S : Nat → Prop) (v : Value) (left : Int) (w : World) (h0 : 0 ≤ left) (h1 : left ≤ 1048576) (ha : LAt 6 spanR w S v l) :
    Calls Try.prog 82 #[v, .int .i64 left] w fun e w' => (∃ z : Int, e = .returned (.int .i64 z) ∧ (z < 0 ∨ (0 ≤ z ∧ z + bulkL spanBulk l ≤ left))) ∧ Below w.heap.size w w' := by
  obtain ⟨a, cap, rfl⟩ := ha.form
  have hl := ha.len
  have HA := hide ha
  clear ha
  by_cases hlen : left < l.length
  case pos =>
    go_enter Try.func82, Try.ntmps82
    go_wp2
    go_ret
    exact ⟨⟨_, rfl, .inl (by omega)⟩, by (repeat (first | with_reducible assumption | with_reducible exact Below.refl _ _ | with_reducible refine Below.drew ?_ | with_reducible refine bdrewN ?_ _ | (with_reducible refine Below.alloc ?_ ?side _; case side => (first | omega | (simp [go_sem]; done) | (simp [go_sem]; omega))) | (with_reducible refine Below.setCell ?_ ?side _; case side => (first | omega | (simp [go_sem]; done) | (simp [go_sem]; omega)))))⟩
  go_enter Try.func82, Try.ntmps82
  go_wp2
  go_loopw [1, 5] (fun z i wk => ∃ (k : Nat) (zz : Int), k ≤ l.length ∧ i = .int .i64 k ∧ z = .int .i64 zz ∧ 0 ≤ zz ∧ zz + l.length + ((l.take k).map spanBulk).sum ≤ left ∧ Below w.heap.size w wk) (fun _ i _ => l.length - (intOf i).toNat)
  case atStart => exact ⟨0, left - l.length, Nat.zero_le _, rfl, by go_num, by omega, by simp, Below.refl _ _⟩
  case round =>
    obtain ⟨k, zz, hk, rfl, rfl, hz, hsum, hbl⟩ := hrel
    have hbs := hbl.size
    by_cases hlt : k < l.length
    · have hki : (k : Int) < (l.length : Int) := by omega
      have hsn := sum_snoc spanBulk l k hlt
      obtain ⟨b, o, cs, rfl, hbk, hSb, hcs, hin⟩ := (unhide HA).at k hlt
      have hcs := spanR_keeps _ _ S None1 cs _ (Below.turn hbl) none_off hcs
      have hin := hin.turn hbk (Below.turn hbl) (fun e => e)
      generalize l[k] = X at *
      have HSN := hide hsn
      clear hsn
      obtain ⟨s0, rfl, g0⟩ := hcs
      obtain ⟨a0, k0, rfl⟩ := g0.form
      have c0 : World.cell? _ ⟨b, o + k * 6, none⟩ = some (.int .i64 X.1) := hin 0 _ rfl
      have c1 : World.cell? _ ⟨b, o + k * 6 + 1, none⟩ = some (.int .i64 X.2.1) := hin 1 _ rfl
      have c2 : World.cell? _ ⟨b, o + k * 6 + 2, none⟩ = some (.int .i64 X.2.2.1) := hin 2 _ rfl
      have c3 : World.cell? _ ⟨b, o + k * 6 + 3, none⟩ = some (.int .i64 X.2.2.2.1) := hin 3 _ rfl
      have c4 : World.cell? _ ⟨b, o + k * 6 + 4, none⟩ = some (.bool X.2.2.2.2.1) := hin 4 _ rfl
      have c5 : World.cell? _ ⟨b, o + k * 6 + 5, none⟩ = some (.slice a0 X.2.2.2.2.2.length k0) := hin 5 _ rfl
      clear hin
      go_wp2_with fail
      refine (mSzSpan X S _ zz _ hz (by omega) ⟨_, rfl, g0⟩).mono ?_
      rintro e w2 ⟨⟨z2, rfl, hz2⟩, hb2⟩
      have HZ := hide hz2
      clear hz2
      by_cases hneg : z2 < 0
      · go_wp2
        go_ret
        exact ⟨⟨_, rfl, .inl (by omega)⟩, bthen hbl hb2⟩
      · have hzz : 0 ≤ z2 ∧ z2 + spanBulk X ≤ zz := by rcases unhide HZ with h | h <;> omega
        have hsn' := unhide HSN
        go_wp2
        go_roundw
        case rel => exact ⟨k + 1, z2, by omega, by go_num, by go_num, by omega, by rw [hsn']; have hxb : spanBulk X = spanBulk X := rfl; omega, bthen hbl hb2⟩
        case measure => simp [intOf]; omega
    · have e : l.take k = l := List.take_of_length_le (by omega)
      rw [e] at hsum
      have hki : ¬ (k : Int) < (l.length : Int) := by omega
      go_wp2
      go_ret
      exact ⟨⟨_, rfl, .inr ⟨hz, by unfold bulkL; omega⟩⟩, hbl⟩

set_option maxHeartbeats 4000000 in
theorem mEqSpanS (l : List SpanD) (S S' : Nat → Prop) (v v' : Value) (w : World) (ha : LAt 6 spanR w S v l) (hb : LAt 6 spanR w S' v' l) :
    Calls Try.prog 88 #[v, v'] w fun e w' => e = .returned (.bool true) ∧ Below w.heap.size w w' := by
  obtain ⟨a, cap, rfl⟩ := ha.form
  obtain ⟨a', cap', rfl⟩ := hb.form
  have hl := ha.len
  have HA := hide ha
  have HB := hide hb
  clear ha hb
  go_enter Try.func88, Try.ntmps88
  go_wp2
  go_loopw [5] (fun i wk => ∃ k : Nat, k ≤ l.length ∧ i = .int .i64 k ∧ Below w.heap.size w wk) (fun i _ => l.length - (intOf i).toNat)
  case atStart => exact ⟨0, Nat.zero_le _, rfl, Below.refl _ _⟩
  case round =>
    obtain ⟨k, hk, rfl, hbl⟩ := hrel
    have hbs := hbl.size
    by_cases hlt : k < l.length
    · have hki : (k : Int) < (l.length : Int) := by omega
      obtain ⟨b, o, cs, rfl, hbk, hSb, hcs, hin⟩ := (unhide HA).at k hlt
      have hcs := spanR_keeps _ _ S None1 cs _ (Below.turn hbl) none_off hcs
      have hin := hin.turn hbk (Below.turn hbl) (fun e => e)
      obtain ⟨b', o', cs2, rfl, hbk', hSb', hcs2, hin2⟩ := (unhide HB).at k hlt
      have hcs2 := spanR_keeps _ _ S' None1 cs2 _ (Below.turn hbl) none_off hcs2
      have hin2 := hin2.turn hbk' (Below.turn hbl) (fun e => e)
      generalize l[k] = X at *
      have HR := hide hcs
      have HR2 := hide hcs2
      obtain ⟨s0, rfl, g0⟩ := hcs
      obtain ⟨a0, k0, rfl⟩ := g0.form
      obtain ⟨sy0, rfl, gy0⟩ := hcs2
      obtain ⟨ay0, ky0, rfl⟩ := gy0.form
      have c0 : World.cell? _ ⟨b, o + k * 6, none⟩ = some (.int .i64 X.1) := hin 0 _ rfl
      have c1 : World.cell? _ ⟨b, o + k * 6 + 1, none⟩ = some (.int .i64 X.2.1) := hin 1 _ rfl
      have c2 : World.cell? _ ⟨b, o + k * 6 + 2, none⟩ = some (.int .i64 X.2.2.1) := hin 2 _ rfl
      have c3 : World.cell? _ ⟨b, o + k * 6 + 3, none⟩ = some (.int .i64 X.2.2.2.1) := hin 3 _ rfl
      have c4 : World.cell? _ ⟨b, o + k * 6 + 4, none⟩ = some (.bool X.2.2.2.2.1) := hin 4 _ rfl
      have c5 : World.cell? _ ⟨b, o + k * 6 + 5, none⟩ = some (.slice a0 X.2.2.2.2.2.length k0) := hin 5 _ rfl
      have d0 : World.cell? _ ⟨b', o' + k * 6, none⟩ = some (.int .i64 X.1) := hin2 0 _ rfl
      have d1 : World.cell? _ ⟨b', o' + k * 6 + 1, none⟩ = some (.int .i64 X.2.1) := hin2 1 _ rfl
      have d2 : World.cell? _ ⟨b', o' + k * 6 + 2, none⟩ = some (.int .i64 X.2.2.1) := hin2 2 _ rfl
      have d3 : World.cell? _ ⟨b', o' + k * 6 + 3, none⟩ = some (.int .i64 X.2.2.2.1) := hin2 3 _ rfl
      have d4 : World.cell? _ ⟨b', o' + k * 6 + 4, none⟩ = some (.bool X.2.2.2.2.1) := hin2 4 _ rfl
      have d5 : World.cell? _ ⟨b', o' + k * 6 + 5, none⟩ = some (.slice ay0 X.2.2.2.2.2.length ky0) := hin2 5 _ rfl
      clear hin hin2
      go_wp2_with fail
      go_region_with (go_at_call 18; refine (mEqSpan X S S' _ _ _ (spanR_keeps _ _ _ None1 _ _ (Below.turn (Below.drew (Below.refl _ _))) none_off (unhide HR)) (spanR_keeps _ _ _ None1 _ _ (Below.turn (Below.drew (Below.refl _ _))) none_off (unhide HR2))).mono ?_; rintro e w2 ⟨rfl, hb2⟩)
      all_goals
        go_wp2
        go_roundw
        case rel => exact ⟨k + 1, by omega, by go_num, bthen (by (repeat (first | with_reducible assumption | with_reducible exact Below.refl _ _ | with_reducible refine Below.drew ?_ | with_reducible refine bdrewN ?_ _ | (with_reducible refine Below.alloc ?_ ?side _; case side => (first | omega | (simp [go_sem]; done) | (simp [go_sem]; omega))) | (with_reducible refine Below.setCell ?_ ?side _; case side => (first | omega | (simp [go_sem]; done) | (simp [go_sem]; omega)))))) hb2⟩
        case measure => simp [intOf]; omega
    · have hki : ¬ (k : Int) < (l.length : Int) := by omega
      go_wp2
      go_ret
      exact ⟨rfl, hbl⟩

end Go.Proofs.Ytjhlammjnggghaa
