/-
  Copies of trails, of the program.
-/
import Derived.Test.YtjhlammjnggghaaCopy3
import Derived.Test.YtjhlammjnggghaaATrail
import Derived.Test.YtjhlammjnggghaaToSt
namespace Go.Proofs.Ytjhlammjnggghaa
open Go.ChangeShapes Go.WideShapes Go.ChangeAt Go.RowKit
set_option linter.unusedVariables false
set_option maxRecDepth 100000

set_option maxHeartbeats 4000000 in
theorem implEachSpan (l : List SpanD) (S : Nat → Prop) (v : Value) (w : World) (h0 : LAt 6 spanR w S v l) (b0 : bulkL spanBulk l ≤ 1048576) :
    Calls Try.prog 185 #[v, .func (.func 137) #[] #[]] w fun e w' => ∃ v', e = .returned v' ∧ LOw 6 spanO w' (Within w.heap.size w'.heap.size) v' l ∧ Below w.heap.size w w' := by
  obtain ⟨a, cap, rfl⟩ := h0.form
  have hl := bulkL_len spanBulk l
  have HA := hide h0
  clear h0
  obtain ⟨w0, hmk, hrow, hb0⟩ := mMakeSpan l.length (by omega) w
  go_enter Try.func185, Try.ntmps185
  go_wp2
  go_loopw [13] (fun i wk => ∃ k : Nat, k ≤ l.length ∧ i = .int .i64 k ∧ Below w.heap.size w wk ∧ Hid (Filled 6 spanO w wk l k)) (fun i _ => l.length - (intOf i).toNat)
  case atStart => exact ⟨0, Nat.zero_le _, rfl, hb0, hide (Filled.start _ _ _ _ _ hrow)⟩
  case round =>
    obtain ⟨k, hk, rfl, hbl, hfl⟩ := hrel
    have hbs := hbl.size
    by_cases hlt : k < l.length
    · have hki : (k : Int) < (l.length : Int) := by omega
      obtain ⟨b, o, cs, rfl, hbk, hSb, hcs, hin⟩ := (unhide HA).at k hlt
      have hcs := spanR_keeps _ _ S None1 cs _ (Below.turn hbl) none_off hcs
      have hin := hin.turn hbk (Below.turn hbl) (fun e => e)
      have hXb : spanBulk l[k] ≤ 1048576 := by have := bulkL_mem spanBulk (List.getElem_mem hlt); omega
      have hrw : RowT Try.prog 33 cs.length := by rw [spanR_len hcs]; exact rowISpan
      have HL1 := hide (spanR_len hcs)
      have on1 := spanR_one hcs
      generalize hX : l[k] = X at *
      have HX := hide hX
      have hA1 := Held.new wr cs 33
      have hbA := bnew wr (.cells cs.toArray 33)
      have hcs := spanR_keeps _ _ S None1 cs _ (Below.turn hbA) none_off hcs
      have HBA := hide hbA
      clear hX hmk hrow hbA
      go_upto_region 5 with (first | (refine wpl_load rfl 33 _ rfl _ _ rfl cs hin hrw ?_) | (refine wpl_store_new rfl _ _ _ rfl _ cs rfl rfl ?_ on1 hrw ?_; (rw [unhide HL1]; rfl)))
      generalize hWa : World.alloc wr _ = wa at *
      have hI := hA1.inB
      clear hWa hin on1 hA1
      go_wp2_with (first | (refine wpl_load rfl 33 _ rfl _ 0 rfl cs hI hrw ?_))
      refine (implCopySpan X S cs wa hcs hXb).mono ?_
      rintro e w2 ⟨cs2, rfl, yy, hb2'⟩
      have hb2 := bthen (unhide HBA) hb2'
      have hln := spanO_len yy
      have on2 := spanR_one (spanO_read _ _ _ _ yy)
      have hri : RowT Try.prog 33 cs2.length := by rw [hln]; exact rowISpan
      have hwr : WrAt w2 w.heap.size (k * 6) cs2.length := by
        have h := ((unhide hfl).1.keep hb2).part (k * 6) 6 (by omega)
        rw [hln]; rwa [Nat.zero_add] at h
      have yy := spanO_widens _ _ (Within wr.heap.size w2.heap.size) _ _ (fun k hk => ⟨Nat.le_trans (unhide HBA).size hk.1, hk.2⟩) yy
      have HB := hide (And.intro yy (And.intro hb2 hln))
      clear yy hb2 hln hb2' HBA hI hcs
      go_wp2_with (first | (refine wpl_store_at rfl 33 _ _ rfl _ _ cs2 rfl rfl hwr on2 hri ?_))
      go_roundw
      case rel =>
        obtain ⟨yy, hb2, hln⟩ := unhide HB
        have st := Filled.step (cs := cs2) spanO_keeps (unhide hfl) hlt hb2 (by rw [unhide HX]; exact yy) hln
        exact ⟨k + 1, by omega, by go_num, (bthen hbl hb2).trans ((putL_turn _ _ _ _ _).belowFrom (bthen hbl hb2).size (fun k hk => by omega)), hide st⟩
      case measure => simp [intOf]; omega
    · have hki : ¬ (k : Int) < (l.length : Int) := by omega
      obtain rfl : k = l.length := by omega
      go_wp2
      go_ret
      exact ⟨_, rfl, (unhide hfl).done (by omega), hbl⟩
set_option maxHeartbeats 2000000 in
theorem implCopyTrail (x : TrailD) (S : Nat → Prop) (c0 : List Value) (w : World) (h0 : trailR w S c0 x) (b0 : trailBulk x ≤ 1048576) :
    Calls Try.prog 115 #[.agg c0.toArray] w fun e w' => ∃ cs', e = .returned (.agg cs'.toArray) ∧ trailO w' (Within w.heap.size w'.heap.size) cs' x ∧ Below w.heap.size w w' := by
  obtain ⟨s0, rfl, g0⟩ := h0
  obtain ⟨a0, k0, rfl⟩ := g0.form
  unfold trailBulk at b0
  have hlen : x.spans.length ≤ 1048576 := by have := bulkL_len spanBulk x.spans; omega
  go_enter Try.func115, Try.ntmps115
  go_upto_region 1 with fail
  generalize hW : World.alloc (World.alloc w _) _ = w1
  have B1 : Below w.heap.size w w1 := by rw [← hW]; exact bthen (bnew _ _) (bnew _ _)
  have P1 : Held w1 w.heap.size [.int .i64 x.id, .int .i64 x.stamp, .int .i64 x.first, .slice a0 x.spans.length k0] := by rw [← hW]; exact (Held.new w [.int .i64 x.id, .int .i64 x.stamp, .int .i64 x.first, .slice a0 x.spans.length k0] 44).keep (bnew _ _)
  have V1 : WrAt w1 w.heap.size 0 4 := by rw [← hW]; exact (WrAt.new w #[.int .i64 x.id, .int .i64 x.stamp, .int .i64 x.first, .slice a0 x.spans.length k0] 44 4 rfl).keep (bnew _ _)
  have R1 : WrAt w1 (w.heap.size + 1) 0 4 := by rw [← hW]; have := WrAt.new (w.alloc (.cells #[.int .i64 x.id, .int .i64 x.stamp, .int .i64 x.first, .slice a0 x.spans.length k0] 44)) #[.int .i64 0, .int .i64 0, .int .i64 0, .slice none 0 0] 44 4 rfl; simpa using this
  have hs1 : w1.heap.size = w.heap.size + 2 := by rw [← hW]; simp
  clear hW
  have p5 := P1.2 3 _ rfl
  have g1 := g0.keep spanR_keeps B1
  clear g0
  have HP := hide (And.intro hs1 (And.intro B1 (And.intro P1 (And.intro V1 R1))))
  clear P1 V1 R1 hs1
  go_wp2_with fail
  refine (implEachSpan x.spans S _ w1 g1 b0).mono ?_
  rintro e w4 ⟨v4, rfl, y, hb4⟩
  clear g1 p5
  obtain ⟨hs1, B1, P1, V1, R1⟩ := unhide HP
  obtain ⟨a4, k4, rfl⟩ := y.form
  have P4 := P1.keep hb4
  have V4 := V1.keep hb4
  have R4 := R1.keep hb4
  have q5 := P4.2 3 _ rfl
  have f5 := V4.free 3 (by omega)
  rw [Nat.zero_add] at f5
  have B4 := bthen B1 hb4
  have HY := hide (And.intro y (And.intro P4 (And.intro R4 B4)))
  have hlt : w.heap.size < w4.heap.size := by have := hb4.size; omega
  have HS1 := hide hs1
  clear hs1 y hb4 P1 V1 R1 P4 V4 R4 B4 B1 HP
  go_upto_region 2 with fail
  obtain ⟨y, P4, R4, B4⟩ := unhide HY
  have hs1 := unhide HS1
  generalize hW : World.setCell w4 _ _ = w5
  have P5 : Held w5 w.heap.size [.int .i64 x.id, .int .i64 x.stamp, .int .i64 x.first, .slice a4 x.spans.length k4] := by rw [← hW]; exact P4.set 3 (.slice a4 x.spans.length k4) (by simp)
  have R5 : WrAt w5 (w.heap.size + 1) 0 4 := by rw [← hW]; exact R4.set _ _
  have t5 : Turn (fun k => k = w.heap.size) w4 w5 := by rw [← hW]; exact Turn.set w4 ⟨w.heap.size, 3, none⟩ _
  clear hW q5 f5 HY
  have t6 := putL_turn (w.heap.size + 1) 0 [.int .i64 x.id, .int .i64 x.stamp, .int .i64 x.first, .slice a4 x.spans.length k4] 0 w5
  have i6 := putL_at (b := w.heap.size + 1) (o := 0) [.int .i64 x.id, .int .i64 x.stamp, .int .i64 x.first, .slice a4 x.spans.length k4] 0 R5 (by omega) (by simp)
  have tt : Turn (fun k => k = w.heap.size ∨ k = w.heap.size + 1) w4 (putL (w.heap.size + 1) 0 [.int .i64 x.id, .int .i64 x.stamp, .int .i64 x.first, .slice a4 x.spans.length k4] 0 w5) := (t5.mono (fun k h => .inl h)).trans (t6.mono (fun k h => .inr h))
  have y6 := y.turn spanO_keeps tt (fun k hk e => by have := hk.1; omega)
  have B6 := B4.trans (tt.belowFrom B4.size (fun k hk => by omega))
  have hz := tt.size
  have HF := hide (And.intro i6 (And.intro y6 B6))
  have c1 := P5.inB
  clear t5 t6 i6 tt y y6 B6 P4 R4 P5 hs1
  go_wp2_with (first | (refine wpl_load rfl 44 _ rfl _ 0 rfl [.int .i64 x.id, .int .i64 x.stamp, .int .i64 x.first, .slice a4 x.spans.length k4] c1 rowITrail ?_) | (refine wpl_store_at rfl 44 _ _ rfl _ 0 [.int .i64 x.id, .int .i64 x.stamp, .int .i64 x.first, .slice a4 x.spans.length k4] rfl rfl R5 (by intro v hv; simp only [List.mem_cons, List.not_mem_nil, or_false] at hv; rcases hv with rfl | rfl | rfl | rfl <;> rfl) rowITrail ?_))
  obtain ⟨i6, y6, B6⟩ := unhide HF
  have hs1 := unhide HS1
  refine bodyPost_ret (v := .agg #[.int .i64 x.id, .int .i64 x.stamp, .int .i64 x.first, .slice a4 x.spans.length k4]) (res_row (t := 2) (cs := [.int .i64 x.id, .int .i64 x.stamp, .int .i64 x.first, .slice a4 x.spans.length k4]) rfl rfl i6 rowITrail) rfl ⟨[.int .i64 x.id, .int .i64 x.stamp, .int .i64 x.first, .slice a4 x.spans.length k4], rfl, ⟨_, rfl, y6.widens (fun k hk => ⟨by have := hk.1; omega, by have := hk.2; omega⟩)⟩, B6⟩
end Go.Proofs.Ytjhlammjnggghaa
