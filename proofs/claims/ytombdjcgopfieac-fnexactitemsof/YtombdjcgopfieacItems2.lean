/-
  ItemsOf of the program.
-/
import Derived.Test.YtombdjcgopfieacItems0
import Derived.Test.YtombdjcgopfieacCopy3
namespace Go.Proofs.Ytombdjcgopfieac
open Go.ChangeShapes Go.WideShapes Go.ChangeAt Go.RowKit
set_option linter.unusedVariables false
set_option maxRecDepth 100000

set_option maxHeartbeats 4000000 in
theorem implItemsOf (l : List ItemD) (st : Int) (S : Nat → Prop) (v : Value) (w : World) (h0 : LAt 7 itemR w S v l) (b0 : bulkL itemBulk l ≤ 1048576) :
    Calls Try.prog 12 #[v, .int .i64 st] w fun e w' => ∃ v', e = .returned v' ∧ LOw 6 spanO w' (Within w.heap.size w'.heap.size) v' (itemsOf l st) ∧ Below w.heap.size w w' := by
  obtain ⟨a, cap, rfl⟩ := h0.form
  have hl := bulkL_len itemBulk l
  have HA := hide h0
  clear h0
  have hst := hide (GrowL.start (α := SpanD) (N := 6) (C := spanO) (t := 58) (Nat.le_refl w.heap.size))
  have hb0 := hide (bnew w (.cells #[] 58))
  have hml : (1048577 : Nat) ≤ maxLen := by unfold maxLen; omega
  go_enter Try.func12, Try.ntmps12
  go_wp2
  go_loopw [5, 11] (fun o i wk => ∃ k : Nat, k ≤ l.length ∧ i = .int .i64 k ∧ Hid (GrowL 6 spanO 58 w.heap.size wk o (itemsOf (l.take k) st)) ∧ Below w.heap.size w wk) (fun _ i _ => l.length - (intOf i).toNat)
  case atStart => exact ⟨0, Nat.zero_le _, rfl, hst, unhide hb0⟩
  case round =>
    obtain ⟨k, hk, rfl, hgr, hbl⟩ := hrel
    have hpre := itemsOf_pre l st k
    have hbs := hbl.size
    clear hst hb0
    by_cases hlt : k < l.length
    · have hki : (k : Int) < (l.length : Int) := by omega
      obtain ⟨b, o, cs, rfl, hbk, hSb, hcs, hin⟩ := (unhide HA).at k hlt
      have hcs := itemR_keeps _ _ S None1 cs _ (Below.turn hbl) none_off hcs
      have hin := hin.turn hbk (Below.turn hbl) (fun e => e)
      have hXb : itemBulk l[k] ≤ 1048576 := by have := bulkL_mem itemBulk (List.getElem_mem hlt); omega
      have HS := hide (itemsOf_step l st k hlt)
      generalize l[k] = X at *
      have hXs : spanBulk X.s ≤ 1048576 := hXb
      obtain ⟨c1, hc1, hd1⟩ := itemR_sub_s hcs
      have hl1 := spanR_len hc1
      have hrI : RowT Try.prog 72 cs.length := by rw [itemR_len hcs]; exact rowIItem
      have HL1 := hide (itemR_len hcs)
      have on1 := itemR_one hcs
      have h0c := hide (itemR_c0 hcs)
      have hA1 := Held.new wr cs 72
      have hbA := bnew wr (.cells cs.toArray 72)
      have hbl := bthen hbl hbA
      have hgr := hide ((unhide hgr).keep spanO_keeps hbA)
      have hc1 := spanR_keeps _ _ S None1 c1 _ (Below.turn hbA) none_off hc1
      have HC := hide (And.intro hc1 hXs)
      have hrw : RowT Try.prog 58 c1.length := by rw [hl1]; exact rowISpan
      clear hbA
      go_upto_region 5 with (first | (refine wpl_load rfl 72 _ rfl _ _ rfl cs hin hrI ?_) | (refine wpl_store_new rfl _ _ _ rfl _ cs rfl rfl ?_ on1 hrI ?_; (rw [unhide HL1]; rfl)))
      generalize hWa : World.alloc wr _ = wa at *
      have hin1 := inB_sub hA1.inB hd1
      rw [Nat.zero_add] at hin1
      have c0 := hA1.2 0 _ (unhide h0c)
      have hbs := hbl.size
      clear hWa hin hrI on1 hcs hd1 hXb hA1
      by_cases e : X.stamp = st
      · have q : (X.stamp == st) = true := by simpa using e
        have HB : Hid (ofStamp st X = true) := hide (by simp [ofStamp, e])
        clear e
        go_wp2_with (first | (refine wpl_load rfl 58 _ rfl _ 1 rfl c1 hin1 hrw ?_))
        refine (implCopySpan X.s S c1 wa (unhide HC).1 (unhide HC).2).mono ?_
        rintro e w2 ⟨cs2, rfl, yy, hb2⟩
        obtain ⟨css, T, gx⟩ := unhide hgr
        have HY := hide yy
        obtain ⟨s2, rfl, y2⟩ := yy
        obtain ⟨a2, k2, rfl⟩ := y2.form
        have hb3 := bthen hb2 (bnew w2 (.cells #[.int .i64 X.s.1, .int .i64 X.s.2.1, .int .i64 X.s.2.2.1, .int .i64 X.s.2.2.2.1, .bool X.s.2.2.2.2.1, .slice a2 X.s.2.2.2.2.2.length k2] 58))
        have hrow := (gx.keep spanO_keeps hb3).row
        have hns := hb2.size
        have hs3 : w.heap.size ≤ (w2.alloc (.cells #[.int .i64 X.s.1, .int .i64 X.s.2.1, .int .i64 X.s.2.2.1, .int .i64 X.s.2.2.2.1, .bool X.s.2.2.2.2.1, .slice a2 X.s.2.2.2.2.2.length k2] 58)).heap.size := by have := hb3.size; omega
        have HB3 := hide (And.intro hb2 hb3)
        clear y2 hgr c0 hin1 hb2 hb3
        go_wp2_with (first | (at_builtin; refine wpl_append2 rfl (.tmp 19) (.tmp 23) 24 rfl w.heap.size 58 _ 6 64 Try.underlying24 infoSpan2 rfl (by decide) _ _ _ rfl hrow ⟨_, 0, none⟩ 1 1 [.int .i64 X.s.1, .int .i64 X.s.2.1, .int .i64 X.s.2.2.1, .int .i64 X.s.2.2.2.1, .bool X.s.2.2.2.2.1, .slice a2 X.s.2.2.2.2.2.length k2] rfl rfl (lit_cells2 w2 [.int .i64 X.s.1, .int .i64 X.s.2.1, .int .i64 X.s.2.2.1, .int .i64 X.s.2.2.2.1, .bool X.s.2.2.2.2.1, .slice a2 X.s.2.2.2.2.2.length k2] 58) (by intro v hv; simp only [List.mem_cons, List.not_mem_nil, or_false] at hv; rcases hv with rfl | rfl | rfl | rfl | rfl | rfl <;> rfl) (by omega) (by omega) hs3 ?_))
        intro v' w' how hg hv
        obtain ⟨hb2, hb3⟩ := unhide HB3
        have st1 := GrowX.step spanO_keeps gx hbs hb3 (spanO_keeps _ _ _ None1 _ _ (Below.turn (bnew w2 (.cells #[.int .i64 X.s.1, .int .i64 X.s.2.1, .int .i64 X.s.2.2.1, .int .i64 X.s.2.2.2.1, .bool X.s.2.2.2.2.1, .slice a2 X.s.2.2.2.2.2.length k2] 58))) none_off (unhide HY)) (fun k hk => ⟨hk.1, by have := hk.2; simp; omega⟩) rfl how hg (by rcases hv with h | h; exact .inl h; exact .inr (by rw [h]; simp))
        have bl1 := grown_below (bthen hbl hb3) hg (fun k hk => (gx.row.lt k hk).1) hs3
        have HST := hide (And.intro st1 bl1)
        clear how hg hv st1 bl1 hrow gx hb2 hb3 HB3
        go_wp2
        go_roundw
        case rel => exact ⟨k + 1, by omega, by go_num, hide (by rw [unhide HS, unhide HB, if_pos rfl]; exact (unhide HST).1), (unhide HST).2⟩
        case measure => simp [intOf]; omega
      · have q : (X.stamp == st) = false := by simpa using e
        have HB : Hid (ofStamp st X = false) := hide (by simp [ofStamp, e])
        clear e
        go_wp2
        go_roundw
        case rel => exact ⟨k + 1, by omega, by go_num, hide (by rw [unhide HS, unhide HB]; simpa using unhide hgr), hbl⟩
        case measure => simp [intOf]; omega
    · have hki : ¬ (k : Int) < (l.length : Int) := by omega
      obtain rfl : k = l.length := by omega
      go_wp2
      go_ret
      have h := unhide hgr
      rw [List.take_length] at h
      have hll := itemsOf_len l st
      exact ⟨_, rfl, h.done (by omega), hbl⟩
end Go.Proofs.Ytombdjcgopfieac
