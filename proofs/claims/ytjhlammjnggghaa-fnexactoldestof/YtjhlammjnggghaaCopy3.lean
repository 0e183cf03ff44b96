/-
  Copies of spans, of the program.
-/
import Derived.Test.YtjhlammjnggghaaCopy2
namespace Go.Proofs.Ytjhlammjnggghaa
open Go.ChangeShapes Go.WideShapes Go.ChangeAt Go.RowKit
set_option linter.unusedVariables false
set_option maxRecDepth 100000

set_option maxHeartbeats 2000000 in
theorem implCopySpan (x : SpanD) (S : Nat → Prop) (c0 : List Value) (w : World) (h0 : spanR w S c0 x) (b0 : spanBulk x ≤ 1048576) :
    Calls Try.prog 137 #[.agg c0.toArray] w fun e w' => ∃ cs', e = .returned (.agg cs'.toArray) ∧ spanO w' (Within w.heap.size w'.heap.size) cs' x ∧ Below w.heap.size w w' := by
  obtain ⟨s0, rfl, g0⟩ := h0
  obtain ⟨a0, k0, rfl⟩ := g0.form
  unfold spanBulk at b0
  have hlen : x.2.2.2.2.2.length ≤ 1048576 := by have := bulkL_len attrBulk x.2.2.2.2.2; omega
  go_enter Try.func137, Try.ntmps137
  go_upto_region 1 with fail
  generalize hW : World.alloc (World.alloc w _) _ = w1
  have B1 : Below w.heap.size w w1 := by rw [← hW]; exact bthen (bnew _ _) (bnew _ _)
  have P1 : Held w1 w.heap.size [.int .i64 x.1, .int .i64 x.2.1, .int .i64 x.2.2.1, .int .i64 x.2.2.2.1, .bool x.2.2.2.2.1, .slice a0 x.2.2.2.2.2.length k0] := by rw [← hW]; exact (Held.new w [.int .i64 x.1, .int .i64 x.2.1, .int .i64 x.2.2.1, .int .i64 x.2.2.2.1, .bool x.2.2.2.2.1, .slice a0 x.2.2.2.2.2.length k0] 33).keep (bnew _ _)
  have V1 : WrAt w1 w.heap.size 0 6 := by rw [← hW]; exact (WrAt.new w #[.int .i64 x.1, .int .i64 x.2.1, .int .i64 x.2.2.1, .int .i64 x.2.2.2.1, .bool x.2.2.2.2.1, .slice a0 x.2.2.2.2.2.length k0] 33 6 rfl).keep (bnew _ _)
  have R1 : WrAt w1 (w.heap.size + 1) 0 6 := by rw [← hW]; have := WrAt.new (w.alloc (.cells #[.int .i64 x.1, .int .i64 x.2.1, .int .i64 x.2.2.1, .int .i64 x.2.2.2.1, .bool x.2.2.2.2.1, .slice a0 x.2.2.2.2.2.length k0] 33)) #[.int .i64 0, .int .i64 0, .int .i64 0, .int .i64 0, .bool false, .slice none 0 0] 33 6 rfl; simpa using this
  have hs1 : w1.heap.size = w.heap.size + 2 := by rw [← hW]; simp
  clear hW
  have p5 := P1.2 5 _ rfl
  have g1 := g0.keep attrR_keeps B1
  clear g0
  have HP := hide (And.intro hs1 (And.intro B1 (And.intro P1 (And.intro V1 R1))))
  clear P1 V1 R1 hs1
  have hb0 := bnew w1 (.cells #[.slice a0 x.2.2.2.2.2.length k0] 31)
  have h0c := hide ((Held.new w1 [.slice a0 x.2.2.2.2.2.length k0] 31).2 0 _ rfl)
  go_wp2_with fail
  refine (implLaidAttr x.2.2.2.2.2 S _ w1.heap.size _ (g1.keep attrR_keeps hb0) (unhide h0c) (by simp) hlen).mono ?_
  rintro e w4 ⟨v4, rfl, y, hb4⟩
  have y := y.widens (T := Within w1.heap.size w4.heap.size) (fun k hk => ⟨by have := hk.1; simp at this; omega, hk.2⟩)
  have hb4 := bthen hb0 hb4
  clear hb0 h0c g1 p5
  obtain ⟨hs1, B1, P1, V1, R1⟩ := unhide HP
  obtain ⟨a4, k4, rfl⟩ := y.form
  have P4 := P1.keep hb4
  have V4 := V1.keep hb4
  have R4 := R1.keep hb4
  have q5 := P4.2 5 _ rfl
  have f5 := V4.free 5 (by omega)
  rw [Nat.zero_add] at f5
  have B4 := bthen B1 hb4
  have HY := hide (And.intro y (And.intro P4 (And.intro R4 B4)))
  have hlt : w.heap.size < w4.heap.size := by have := hb4.size; omega
  have HS1 := hide hs1
  clear hs1 y hb4 P1 V1 R1 P4 V4 R4 B4 B1 HP
  go_upto_region 2 with fail
  obtain ⟨y, P4, R4, B4⟩ := unhide HY
  have hs1 := unhide HS1
  generalize hW : World.setCell w4 _ _ = w5
  have P5 : Held w5 w.heap.size [.int .i64 x.1, .int .i64 x.2.1, .int .i64 x.2.2.1, .int .i64 x.2.2.2.1, .bool x.2.2.2.2.1, .slice a4 x.2.2.2.2.2.length k4] := by rw [← hW]; exact P4.set 5 (.slice a4 x.2.2.2.2.2.length k4) (by simp)
  have R5 : WrAt w5 (w.heap.size + 1) 0 6 := by rw [← hW]; exact R4.set _ _
  have t5 : Turn (fun k => k = w.heap.size) w4 w5 := by rw [← hW]; exact Turn.set w4 ⟨w.heap.size, 5, none⟩ _
  clear hW q5 f5 HY
  have t6 := putL_turn (w.heap.size + 1) 0 [.int .i64 x.1, .int .i64 x.2.1, .int .i64 x.2.2.1, .int .i64 x.2.2.2.1, .bool x.2.2.2.2.1, .slice a4 x.2.2.2.2.2.length k4] 0 w5
  have i6 := putL_at (b := w.heap.size + 1) (o := 0) [.int .i64 x.1, .int .i64 x.2.1, .int .i64 x.2.2.1, .int .i64 x.2.2.2.1, .bool x.2.2.2.2.1, .slice a4 x.2.2.2.2.2.length k4] 0 R5 (by omega) (by simp)
  have tt : Turn (fun k => k = w.heap.size ∨ k = w.heap.size + 1) w4 (putL (w.heap.size + 1) 0 [.int .i64 x.1, .int .i64 x.2.1, .int .i64 x.2.2.1, .int .i64 x.2.2.2.1, .bool x.2.2.2.2.1, .slice a4 x.2.2.2.2.2.length k4] 0 w5) := (t5.mono (fun k h => .inl h)).trans (t6.mono (fun k h => .inr h))
  have y6 := y.turn attrO_keeps tt (fun k hk e => by have := hk.1; omega)
  have B6 := B4.trans (tt.belowFrom B4.size (fun k hk => by omega))
  have hz := tt.size
  have HF := hide (And.intro i6 (And.intro y6 B6))
  have c1 := P5.inB
  clear t5 t6 i6 tt y y6 B6 P4 R4 P5 hs1
  go_wp2_with (first | (refine wpl_load rfl 33 _ rfl _ 0 rfl [.int .i64 x.1, .int .i64 x.2.1, .int .i64 x.2.2.1, .int .i64 x.2.2.2.1, .bool x.2.2.2.2.1, .slice a4 x.2.2.2.2.2.length k4] c1 rowISpan ?_) | (refine wpl_store_at rfl 33 _ _ rfl _ 0 [.int .i64 x.1, .int .i64 x.2.1, .int .i64 x.2.2.1, .int .i64 x.2.2.2.1, .bool x.2.2.2.2.1, .slice a4 x.2.2.2.2.2.length k4] rfl rfl R5 (by intro v hv; simp only [List.mem_cons, List.not_mem_nil, or_false] at hv; rcases hv with rfl | rfl | rfl | rfl | rfl | rfl <;> rfl) rowISpan ?_))
  obtain ⟨i6, y6, B6⟩ := unhide HF
  have hs1 := unhide HS1
  refine bodyPost_ret (v := .agg #[.int .i64 x.1, .int .i64 x.2.1, .int .i64 x.2.2.1, .int .i64 x.2.2.2.1, .bool x.2.2.2.2.1, .slice a4 x.2.2.2.2.2.length k4]) (res_row (t := 2) (cs := [.int .i64 x.1, .int .i64 x.2.1, .int .i64 x.2.2.1, .int .i64 x.2.2.2.1, .bool x.2.2.2.2.1, .slice a4 x.2.2.2.2.2.length k4]) rfl rfl i6 rowISpan) rfl ⟨[.int .i64 x.1, .int .i64 x.2.1, .int .i64 x.2.2.1, .int .i64 x.2.2.2.1, .bool x.2.2.2.2.1, .slice a4 x.2.2.2.2.2.length k4], rfl, ⟨_, rfl, y6.widens (fun k hk => ⟨by have := hk.1; omega, by have := hk.2; omega⟩)⟩, B6⟩
end Go.Proofs.Ytjhlammjnggghaa
