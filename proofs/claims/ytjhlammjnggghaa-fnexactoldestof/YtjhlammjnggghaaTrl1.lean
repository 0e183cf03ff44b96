/-
  Copies of trails, of the specification.
-/
import Derived.Test.YtjhlammjnggghaaCopy1
import Derived.Test.YtjhlammjnggghaaItems0
import Derived.Test.YtjhlammjnggghaaATrail
import Derived.Test.YtjhlammjnggghaaToSt
namespace Go.Proofs.Ytjhlammjnggghaa
open Go.ChangeShapes Go.WideShapes Go.ChangeAt Go.RowKit
set_option linter.unusedVariables false
set_option maxRecDepth 100000

theorem infoSpan3 : (Try.prog.info? 33).map (fun i => (i.zero, i.size, i.bytes)) = some (some (.agg #[.int .i64 0, .int .i64 0, .int .i64 0, .int .i64 0, .bool false, .slice none 0 0]), 6, 64) := by kernel_rfl
set_option maxHeartbeats 4000000 in
theorem specL3All (l : List SpanD) (S : Nat → Prop) (v : Value) (w : World) (h0 : LAt 6 spanR w S v l) (b0 : bulkL spanBulk l ≤ 1048576) :
    Calls Try.prog 183 #[v] w fun e w' => ∃ v', e = .returned v' ∧ LOw 6 spanO w' (Within w.heap.size w'.heap.size) v' l ∧ Below w.heap.size w w' := by
  obtain ⟨a, cap, rfl⟩ := h0.form
  have hl := bulkL_len spanBulk l
  have HA := hide h0
  clear h0
  have hst := hide (GrowL.start (α := SpanD) (N := 6) (C := spanO) (t := 33) (Nat.le_refl w.heap.size))
  have hb0 := hide (bnew w (.cells #[] 33))
  have hml : (1048577 : Nat) ≤ maxLen := by unfold maxLen; omega
  go_enter Try.func183, Try.ntmps183
  go_wp2
  go_loopw [3, 4] (fun o i wk => ∃ k : Nat, k ≤ l.length ∧ i = .int .i64 k ∧ Hid (GrowL 6 spanO 33 w.heap.size wk o (l.take k)) ∧ Below w.heap.size w wk) (fun _ i _ => l.length - (intOf i).toNat)
  case atStart => exact ⟨0, Nat.zero_le _, rfl, hst, unhide hb0⟩
  case round =>
    obtain ⟨k, hk, rfl, hgr, hbl⟩ := hrel
    have hpre : (l.take k).length ≤ k := by rw [List.length_take]; omega
    have hbs := hbl.size
    clear hst hb0
    by_cases hlt : k < l.length
    · have hki : (k : Int) < (l.length : Int) := by omega
      obtain ⟨b, o, cs, rfl, hbk, hSb, hcs, hin⟩ := (unhide HA).at k hlt
      have hcs := spanR_keeps _ _ S None1 cs _ (Below.turn hbl) none_off hcs
      have hin := hin.turn hbk (Below.turn hbl) (fun e => e)
      have hXb : spanBulk l[k] ≤ 1048576 := by have := bulkL_mem spanBulk (List.getElem_mem hlt); omega
      have HS := hide (List.take_succ_eq_append_getElem hlt)
      have hrw : RowT Try.prog 33 cs.length := by rw [spanR_len hcs]; exact rowISpan
      generalize l[k] = X at *
      go_wp2_with (first | (refine wpl_load rfl 33 _ rfl _ _ rfl cs hin hrw ?_))
      refine (specL3Copy X S cs wr hcs hXb).mono ?_
      rintro e w2 ⟨cs2, rfl, yy, hb2⟩
      obtain ⟨css, T, gx⟩ := unhide hgr
      generalize hTK : l.take k = TK at *
      clear hTK hin hcs hgr
      have HY := hide yy
      obtain ⟨s2, rfl, y2⟩ := yy
      obtain ⟨a2, k2, rfl⟩ := y2.form
      clear y2
      have hb3 := bthen hb2 (bnew w2 (.cells #[.int .i64 X.1, .int .i64 X.2.1, .int .i64 X.2.2.1, .int .i64 X.2.2.2.1, .bool X.2.2.2.2.1, .slice a2 X.2.2.2.2.2.length k2] 33))
      have hI3 := (Held.new w2 [.int .i64 X.1, .int .i64 X.2.1, .int .i64 X.2.2.1, .int .i64 X.2.2.2.1, .bool X.2.2.2.2.1, .slice a2 X.2.2.2.2.2.length k2] 33).inB
      have HB2 := hide (And.intro hb2 hb3)
      clear hb2 hb3
      go_upto_region 6 with (first | (refine wpl_store_new rfl _ _ _ rfl _ [.int .i64 X.1, .int .i64 X.2.1, .int .i64 X.2.2.1, .int .i64 X.2.2.2.1, .bool X.2.2.2.2.1, .slice a2 X.2.2.2.2.2.length k2] rfl rfl ?_ (by intro v hv; simp only [List.mem_cons, List.not_mem_nil, or_false] at hv; rcases hv with rfl | rfl | rfl | rfl | rfl | rfl <;> rfl) rowISpan ?_; rfl))
      obtain ⟨hb2, hb3⟩ := unhide HB2
      have hz3 : (World.alloc w2 (.cells #[.int .i64 X.1, .int .i64 X.2.1, .int .i64 X.2.2.1, .int .i64 X.2.2.2.1, .bool X.2.2.2.2.1, .slice a2 X.2.2.2.2.2.length k2] 33)).heap.size = w2.heap.size + 1 := by simp
      have yy3 := spanO_keeps _ _ _ None1 _ _ (Below.turn (bnew w2 (.cells #[.int .i64 X.1, .int .i64 X.2.1, .int .i64 X.2.2.1, .int .i64 X.2.2.2.1, .bool X.2.2.2.2.1, .slice a2 X.2.2.2.2.2.length k2] 33))) none_off (unhide HY)
      generalize hW3 : World.alloc w2 _ = w3 at *
      have hb4 := bthen hb3 (bnew w3 (.cells #[.int .i64 X.1, .int .i64 X.2.1, .int .i64 X.2.2.1, .int .i64 X.2.2.2.1, .bool X.2.2.2.2.1, .slice a2 X.2.2.2.2.2.length k2] 33))
      have hrow := (gx.keep spanO_keeps hb4).row
      have hns := hb2.size
      have hs4 : w.heap.size ≤ (w3.alloc (.cells #[.int .i64 X.1, .int .i64 X.2.1, .int .i64 X.2.2.1, .int .i64 X.2.2.2.1, .bool X.2.2.2.2.1, .slice a2 X.2.2.2.2.2.length k2] 33)).heap.size := by have := hb4.size; omega
      have HB3 := hide (And.intro hb2 (And.intro hb4 (And.intro yy3 hz3)))
      clear hb2 hb3 hb4 yy3 hW3 HB2 HY hz3
      go_wp2_with (first | (refine wpl_load rfl 33 _ rfl _ 0 rfl [.int .i64 X.1, .int .i64 X.2.1, .int .i64 X.2.2.1, .int .i64 X.2.2.2.1, .bool X.2.2.2.2.1, .slice a2 X.2.2.2.2.2.length k2] hI3 rowISpan ?_) | (at_builtin; refine wpl_append2 rfl (.tmp 18) (.tmp 20) 42 rfl w.heap.size 33 _ 6 64 Try.underlying42 infoSpan3 rfl (by decide) _ _ _ rfl hrow ⟨_, 0, none⟩ 1 1 [.int .i64 X.1, .int .i64 X.2.1, .int .i64 X.2.2.1, .int .i64 X.2.2.2.1, .bool X.2.2.2.2.1, .slice a2 X.2.2.2.2.2.length k2] rfl rfl (lit_cells2 w3 [.int .i64 X.1, .int .i64 X.2.1, .int .i64 X.2.2.1, .int .i64 X.2.2.2.1, .bool X.2.2.2.2.1, .slice a2 X.2.2.2.2.2.length k2] 33) (by intro v hv; simp only [List.mem_cons, List.not_mem_nil, or_false] at hv; rcases hv with rfl | rfl | rfl | rfl | rfl | rfl <;> rfl) (by omega) (by omega) hs4 ?_))
      intro v' w' how hg hv
      obtain ⟨hb2, hb4, yy3, hz3⟩ := unhide HB3
      have st1 := GrowX.step spanO_keeps gx hbs hb4 (spanO_keeps _ _ _ None1 _ _ (Below.turn (bnew w3 (.cells #[.int .i64 X.1, .int .i64 X.2.1, .int .i64 X.2.2.1, .int .i64 X.2.2.2.1, .bool X.2.2.2.2.1, .slice a2 X.2.2.2.2.2.length k2] 33))) none_off yy3) (fun k hk => ⟨hk.1, by have := hk.2; simp; omega⟩) rfl how hg (by rcases hv with h | h; exact .inl h; exact .inr (by rw [h]; simp))
      have bl1 := grown_below (bthen hbl hb4) hg (fun k hk => (gx.row.lt k hk).1) hs4
      have HST := hide (And.intro st1 bl1)
      clear how hg hv st1 bl1 hrow gx hb2 hb4 HB3 yy3 hz3
      go_wp2
      go_roundw
      case rel => exact ⟨k + 1, by omega, by go_num, hide (by rw [unhide HS]; exact (unhide HST).1), (unhide HST).2⟩
      case measure => simp [intOf]; omega
    · have hki : ¬ (k : Int) < (l.length : Int) := by omega
      obtain rfl : k = l.length := by omega
      go_wp2
      go_ret
      have h := unhide hgr
      rw [List.take_length] at h
      exact ⟨_, rfl, h.done (by omega), hbl⟩
set_option maxHeartbeats 2000000 in
theorem specL10Copy (x : TrailD) (S : Nat → Prop) (c0 : List Value) (w : World) (h0 : trailR w S c0 x) (b0 : trailBulk x ≤ 1048576) :
    Calls Try.prog 110 #[.agg c0.toArray] w fun e w' => ∃ cs', e = .returned (.agg cs'.toArray) ∧ trailO w' (Within w.heap.size w'.heap.size) cs' x ∧ Below w.heap.size w w' := by
  obtain ⟨s0, rfl, g0⟩ := h0
  obtain ⟨a0, k0, rfl⟩ := g0.form
  unfold trailBulk at b0
  have hlen : x.spans.length ≤ 1048576 := by have := bulkL_len spanBulk x.spans; omega
  go_enter Try.func110, Try.ntmps110
  go_upto_region 1 with fail
  generalize hW : World.alloc (World.alloc w _) _ = w1
  have B1 : Below w.heap.size w w1 := by rw [← hW]; exact bthen (bnew _ _) (bnew _ _)
  have P1 : Held w1 w.heap.size [.int .i64 x.id, .int .i64 x.stamp, .int .i64 x.first, .slice a0 x.spans.length k0] := by rw [← hW]; exact (Held.new w [.int .i64 x.id, .int .i64 x.stamp, .int .i64 x.first, .slice a0 x.spans.length k0] 44).keep (bnew _ _)
  have V1 : WrAt w1 w.heap.size 0 4 := by rw [← hW]; exact (WrAt.new w #[.int .i64 x.id, .int .i64 x.stamp, .int .i64 x.first, .slice a0 x.spans.length k0] 44 4 rfl).keep (bnew _ _)
  have R1 : WrAt w1 (w.heap.size + 1) 0 4 := by rw [← hW]; have := WrAt.new (w.alloc (.cells #[.int .i64 x.id, .int .i64 x.stamp, .int .i64 x.first, .slice a0 x.spans.length k0] 44)) #[.int .i64 0, .int .i64 0, .int .i64 0, .slice none 0 0] 44 4 rfl; simpa using this
  have hs1 : w1.heap.size = w.heap.size + 2 := by rw [← hW]; simp
  clear hW
  have p5 := P1.2 3 _ rfl
  have g1 := g0.keep spanR_keeps B1
  clear g0
  have HP := hide (And.intro hs1 (And.intro B1 (And.intro P1 (And.intro V1 R1))))
  clear P1 V1 R1 hs1
  go_wp2_with fail
  refine (specL3All x.spans S _ w1 g1 b0).mono ?_
  rintro e w4 ⟨v4, rfl, y, hb4⟩
  clear g1 p5
  obtain ⟨hs1, B1, P1, V1, R1⟩ := unhide HP
  obtain ⟨a4, k4, rfl⟩ := y.form
  have P4 := P1.keep hb4
  have V4 := V1.keep hb4
  have R4 := R1.keep hb4
  have q5 := P4.2 3 _ rfl
  have f5 := V4.free 3 (by omega)
  rw [Nat.zero_add] at f5
  have B4 := bthen B1 hb4
  have HY := hide (And.intro y (And.intro P4 (And.intro R4 B4)))
  have hlt : w.heap.size < w4.heap.size := by have := hb4.size; omega
  have HS1 := hide hs1
  clear hs1 y hb4 P1 V1 R1 P4 V4 R4 B4 B1 HP
  go_upto_region 2 with fail
  obtain ⟨y, P4, R4, B4⟩ := unhide HY
  have hs1 := unhide HS1
  generalize hW : World.setCell w4 _ _ = w5
  have P5 : Held w5 w.heap.size [.int .i64 x.id, .int .i64 x.stamp, .int .i64 x.first, .slice a4 x.spans.length k4] := by rw [← hW]; exact P4.set 3 (.slice a4 x.spans.length k4) (by simp)
  have R5 : WrAt w5 (w.heap.size + 1) 0 4 := by rw [← hW]; exact R4.set _ _
  have t5 : Turn (fun k => k = w.heap.size) w4 w5 := by rw [← hW]; exact Turn.set w4 ⟨w.heap.size, 3, none⟩ _
  clear hW q5 f5 HY
  have t6 := putL_turn (w.heap.size + 1) 0 [.int .i64 x.id, .int .i64 x.stamp, .int .i64 x.first, .slice a4 x.spans.length k4] 0 w5
  have i6 := putL_at (b := w.heap.size + 1) (o := 0) [.int .i64 x.id, .int .i64 x.stamp, .int .i64 x.first, .slice a4 x.spans.length k4] 0 R5 (by omega) (by simp)
  have tt : Turn (fun k => k = w.heap.size ∨ k = w.heap.size + 1) w4 (putL (w.heap.size + 1) 0 [.int .i64 x.id, .int .i64 x.stamp, .int .i64 x.first, .slice a4 x.spans.length k4] 0 w5) := (t5.mono (fun k h => .inl h)).trans (t6.mono (fun k h => .inr h))
  have y6 := y.turn spanO_keeps tt (fun k hk e => by have := hk.1; omega)
  have B6 := B4.trans (tt.belowFrom B4.size (fun k hk => by omega))
  have hz := tt.size
  have HF := hide (And.intro i6 (And.intro y6 B6))
  have c1 := P5.inB
  clear t5 t6 i6 tt y y6 B6 P4 R4 P5 hs1
  go_wp2_with (first | (refine wpl_load rfl 44 _ rfl _ 0 rfl [.int .i64 x.id, .int .i64 x.stamp, .int .i64 x.first, .slice a4 x.spans.length k4] c1 rowITrail ?_) | (refine wpl_store_at rfl 44 _ _ rfl _ 0 [.int .i64 x.id, .int .i64 x.stamp, .int .i64 x.first, .slice a4 x.spans.length k4] rfl rfl R5 (by intro v hv; simp only [List.mem_cons, List.not_mem_nil, or_false] at hv; rcases hv with rfl | rfl | rfl | rfl <;> rfl) rowITrail ?_))
  obtain ⟨i6, y6, B6⟩ := unhide HF
  have hs1 := unhide HS1
  refine bodyPost_ret (v := .agg #[.int .i64 x.id, .int .i64 x.stamp, .int .i64 x.first, .slice a4 x.spans.length k4]) (res_row (t := 2) (cs := [.int .i64 x.id, .int .i64 x.stamp, .int .i64 x.first, .slice a4 x.spans.length k4]) rfl rfl i6 rowITrail) rfl ⟨[.int .i64 x.id, .int .i64 x.stamp, .int .i64 x.first, .slice a4 x.spans.length k4], rfl, ⟨_, rfl, y6.widens (fun k hk => ⟨by have := hk.1; omega, by have := hk.2; omega⟩)⟩, B6⟩
end Go.Proofs.Ytjhlammjnggghaa
