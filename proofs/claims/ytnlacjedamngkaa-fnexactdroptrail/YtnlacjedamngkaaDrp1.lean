/-
  Copies of lists of trails, of the specification.
-/
import Derived.Test.YtnlacjedamngkaaTrl1
namespace Go.Proofs.Ytnlacjedamngkaa
open Go.ChangeShapes Go.WideShapes Go.ChangeAt Go.RowKit
set_option linter.unusedVariables false
set_option maxRecDepth 100000

theorem infoTrail3 : (Try.prog.info? 50).map (fun i => (i.zero, i.size, i.bytes)) = some (some (.agg #[.int .i64 0, .int .i64 0, .int .i64 0, .slice none 0 0]), 4, 48) := by kernel_rfl
set_option maxHeartbeats 4000000 in
theorem specL10AllG (l : List TrailD) (S : Nat → Prop) (v : Value) (w : World) (h0 : LAt 4 trailR w S v l) (b0 : bulkL trailBulk l ≤ 1048576) :
    Calls Try.prog 52 #[v] w fun e w' => ∃ v', e = .returned v' ∧ GrowL 4 trailO 50 w.heap.size w' v' l ∧ Below w.heap.size w w' := by
  obtain ⟨a, cap, rfl⟩ := h0.form
  have hl := bulkL_len trailBulk l
  have HA := hide h0
  clear h0
  have hst := hide (GrowL.start (α := TrailD) (N := 4) (C := trailO) (t := 50) (Nat.le_refl w.heap.size))
  have hb0 := hide (bnew w (.cells #[] 50))
  have hml : (1048577 : Nat) ≤ maxLen := by unfold maxLen; omega
  go_enter Try.func52, Try.ntmps52
  go_wp2
  go_loopw [3, 4] (fun o i wk => ∃ k : Nat, k ≤ l.length ∧ i = .int .i64 k ∧ Hid (GrowL 4 trailO 50 w.heap.size wk o (l.take k)) ∧ Below w.heap.size w wk) (fun _ i _ => l.length - (intOf i).toNat)
  case atStart => exact ⟨0, Nat.zero_le _, rfl, hst, unhide hb0⟩
  case round =>
    obtain ⟨k, hk, rfl, hgr, hbl⟩ := hrel
    have hpre : (l.take k).length ≤ k := by rw [List.length_take]; omega
    have hbs := hbl.size
    clear hst hb0
    by_cases hlt : k < l.length
    · have hki : (k : Int) < (l.length : Int) := by omega
      obtain ⟨b, o, cs, rfl, hbk, hSb, hcs, hin⟩ := (unhide HA).at k hlt
      have hcs := trailR_keeps _ _ S None1 cs _ (Below.turn hbl) none_off hcs
      have hin := hin.turn hbk (Below.turn hbl) (fun e => e)
      have hXb : trailBulk l[k] ≤ 1048576 := by have := bulkL_mem trailBulk (List.getElem_mem hlt); omega
      have HS := hide (List.take_succ_eq_append_getElem hlt)
      have hrw : RowT Try.prog 50 cs.length := by rw [trailR_len hcs]; exact rowITrail
      generalize l[k] = X at *
      go_wp2_with (first | (refine wpl_load rfl 50 _ rfl _ _ rfl cs hin hrw ?_))
      refine (specL10Copy X S cs wr hcs hXb).mono ?_
      rintro e w2 ⟨cs2, rfl, yy, hb2⟩
      obtain ⟨css, T, gx⟩ := unhide hgr
      generalize hTK : l.take k = TK at *
      clear hTK hin hcs hgr
      have HY := hide yy
      obtain ⟨s2, rfl, y2⟩ := yy
      obtain ⟨a2, k2, rfl⟩ := y2.form
      clear y2
      have hb3 := bthen hb2 (bnew w2 (.cells #[.int .i64 X.id, .int .i64 X.stamp, .int .i64 X.first, .slice a2 X.spans.length k2] 50))
      have hI3 := (Held.new w2 [.int .i64 X.id, .int .i64 X.stamp, .int .i64 X.first, .slice a2 X.spans.length k2] 50).inB
      have HB2 := hide (And.intro hb2 hb3)
      clear hb2 hb3
      go_upto_region 6 with (first | (refine wpl_store_new rfl _ _ _ rfl _ [.int .i64 X.id, .int .i64 X.stamp, .int .i64 X.first, .slice a2 X.spans.length k2] rfl rfl ?_ (by intro v hv; simp only [List.mem_cons, List.not_mem_nil, or_false] at hv; rcases hv with rfl | rfl | rfl | rfl <;> rfl) rowITrail ?_; rfl))
      obtain ⟨hb2, hb3⟩ := unhide HB2
      have hz3 : (World.alloc w2 (.cells #[.int .i64 X.id, .int .i64 X.stamp, .int .i64 X.first, .slice a2 X.spans.length k2] 50)).heap.size = w2.heap.size + 1 := by simp
      have yy3 := trailO_keeps _ _ _ None1 _ _ (Below.turn (bnew w2 (.cells #[.int .i64 X.id, .int .i64 X.stamp, .int .i64 X.first, .slice a2 X.spans.length k2] 50))) none_off (unhide HY)
      generalize hW3 : World.alloc w2 _ = w3 at *
      have hb4 := bthen hb3 (bnew w3 (.cells #[.int .i64 X.id, .int .i64 X.stamp, .int .i64 X.first, .slice a2 X.spans.length k2] 50))
      have hrow := (gx.keep trailO_keeps hb4).row
      have hns := hb2.size
      have hs4 : w.heap.size ≤ (w3.alloc (.cells #[.int .i64 X.id, .int .i64 X.stamp, .int .i64 X.first, .slice a2 X.spans.length k2] 50)).heap.size := by have := hb4.size; omega
      have HB3 := hide (And.intro hb2 (And.intro hb4 (And.intro yy3 hz3)))
      clear hb2 hb3 hb4 yy3 hW3 HB2 HY hz3
      go_wp2_with (first | (refine wpl_load rfl 50 _ rfl _ 0 rfl [.int .i64 X.id, .int .i64 X.stamp, .int .i64 X.first, .slice a2 X.spans.length k2] hI3 rowITrail ?_) | (at_builtin; refine wpl_append2 rfl (.tmp 18) (.tmp 20) 36 rfl w.heap.size 50 _ 4 48 Try.underlying36 infoTrail3 rfl (by decide) _ _ _ rfl hrow ⟨_, 0, none⟩ 1 1 [.int .i64 X.id, .int .i64 X.stamp, .int .i64 X.first, .slice a2 X.spans.length k2] rfl rfl (lit_cells2 w3 [.int .i64 X.id, .int .i64 X.stamp, .int .i64 X.first, .slice a2 X.spans.length k2] 50) (by intro v hv; simp only [List.mem_cons, List.not_mem_nil, or_false] at hv; rcases hv with rfl | rfl | rfl | rfl <;> rfl) (by omega) (by omega) hs4 ?_))
      intro v' w' how hg hv
      obtain ⟨hb2, hb4, yy3, hz3⟩ := unhide HB3
      have st1 := GrowX.step trailO_keeps gx hbs hb4 (trailO_keeps _ _ _ None1 _ _ (Below.turn (bnew w3 (.cells #[.int .i64 X.id, .int .i64 X.stamp, .int .i64 X.first, .slice a2 X.spans.length k2] 50))) none_off yy3) (fun k hk => ⟨hk.1, by have := hk.2; simp; omega⟩) rfl how hg (by rcases hv with h | h; exact .inl h; exact .inr (by rw [h]; simp))
      have bl1 := grown_below (bthen hbl hb4) hg (fun k hk => (gx.row.lt k hk).1) hs4
      have HST := hide (And.intro st1 bl1)
      clear how hg hv st1 bl1 hrow gx hb2 hb4 HB3 yy3 hz3
      go_wp2
      go_roundw
      case rel => exact ⟨k + 1, by omega, by go_num, hide (by rw [unhide HS]; exact (unhide HST).1), (unhide HST).2⟩
      case measure => simp [intOf]; omega
    · have hki : ¬ (k : Int) < (l.length : Int) := by omega
      obtain rfl : k = l.length := by omega
      go_wp2
      go_ret
      have h := unhide hgr
      rw [List.take_length] at h
      exact ⟨_, rfl, h, hbl⟩
theorem specL10All (l : List TrailD) (S : Nat → Prop) (v : Value) (w : World) (h0 : LAt 4 trailR w S v l) (b0 : bulkL trailBulk l ≤ 1048576) :
    Calls Try.prog 52 #[v] w fun e w' => ∃ v', e = .returned v' ∧ LOw 4 trailO w' (Within w.heap.size w'.heap.size) v' l ∧ Below w.heap.size w w' := by
  have hl := bulkL_len trailBulk l
  refine (specL10AllG l S v w h0 b0).mono ?_
  rintro e w1 ⟨v', rfl, h, hb⟩
  exact ⟨v', rfl, h.done (by omega), hb⟩
end Go.Proofs.Ytnlacjedamngkaa
