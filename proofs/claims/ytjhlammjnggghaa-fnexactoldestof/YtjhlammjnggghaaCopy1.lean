/-
  Copies of spans, of the specification (by append).
-/
import Derived.Test.YtjhlammjnggghaaCopy0
namespace Go.Proofs.Ytjhlammjnggghaa
open Go.ChangeShapes Go.WideShapes Go.ChangeAt Go.RowKit
set_option linter.unusedVariables false
set_option maxRecDepth 100000

theorem infoAttr2 : (Try.prog.info? 180).map (fun i => (i.zero, i.size, i.bytes)) = some (some (.agg #[.string ⟨#[]⟩, .bool false, .int .i64 0, .string ⟨#[]⟩]), 4, 48) := by kernel_rfl
theorem l3mid (w1 : World) (a0 : Option Addr) (k0 : Nat) (l : List AttrD) (hsr : l = [] ∨ ∃ b o, a0 = some ⟨b, o, none⟩ ∧ b < w1.heap.size ∧ ∀ j u, (l.flatMap attrC)[j]? = some u → w1.cell? ((⟨b, o, none⟩ : Addr).add j) = some u) (hq : ∀ x ∈ l, x.1.size ≤ maxLen ∧ x.2.2.2.size ≤ maxLen) (hlen : l.length ≤ 1048576) :
    ∃ (v4 : Value) (w4 : World), (Builtin.append_ #[31, 31] 31 #[.slice (some ⟨w1.heap.size, 0, none⟩) 0 0, .slice a0 l.length k0]).run Try.prog (w1.alloc (.cells #[] 180)) = .ok v4 w4 ∧ LOw 4 attrO w4 (Within w1.heap.size w4.heap.size) v4 l ∧ Below w1.heap.size w1 w4 := by
  have hml : (1048576 : Nat) ≤ maxLen := by unfold maxLen; omega
  have how0 : (w1.alloc (.cells #[] 180)).ownsRow w1.heap.size 180 4 (.slice (some ⟨w1.heap.size, 0, none⟩) 0 0) 0 [] := World.ownsRow_made w1 #[] 0 (Nat.le_refl _) (by unfold maxLen; omega) rfl
  have hb0 := bnew w1 (.cells #[] 180)
  obtain ⟨i, hi, hz, h2, h3⟩ := info_parts infoAttr2
  rcases hsr with hn | ⟨b, o, rfl, hbk, hsrc⟩
  · refine ⟨_, _, by rw [hn]; exact run_append0 _ _ _ _ i Try.underlying31 hi _ _ _, by rw [hn]; exact LOw.nil _ _ _ _ _ _, hb0⟩
  · have hsrc' : ∀ j u, (l.flatMap attrC)[j]? = some u → (w1.alloc (.cells #[] 180)).cell? ((⟨b, o, none⟩ : Addr).add j) = some u := fun j u hu => by
      have e : (⟨b, o, none⟩ : Addr).add j = ⟨b, o + j, none⟩ := by unfold Addr.add; split <;> simp_all
      have := hsrc j u hu
      rw [e] at this ⊢
      rw [hb0.cell (p := ⟨b, o + j, none⟩) hbk]; exact this
    obtain ⟨v4, w4, hr, how, hg, _⟩ := run_append2 (P := Try.prog) (w1.alloc (.cells #[] 180)) w1.heap.size 31 31 180 i _ 4 48 Try.underlying31 hi hz h2 h3 rfl (by omega) _ 0 [] how0 ⟨b, o, none⟩ l.length k0 (l.flatMap attrC) (flatMap_len _ _ attrC_len) hsrc' (attrs_one _) (by omega) (by omega) (by simp)
    rw [Nat.zero_add, List.nil_append] at how
    exact ⟨v4, w4, hr, own_attrs how (hq) (by omega), grown_below hb0 hg (fun k hk => by simp [Value.ownBlock] at hk; omega) (by simp)⟩
set_option maxHeartbeats 2000000 in
theorem specL3Copy (x : SpanD) (S : Nat → Prop) (c0 : List Value) (w : World) (h0 : spanR w S c0 x) (b0 : spanBulk x ≤ 1048576) :
    Calls Try.prog 95 #[.agg c0.toArray] w fun e w' => ∃ cs', e = .returned (.agg cs'.toArray) ∧ spanO w' (Within w.heap.size w'.heap.size) cs' x ∧ Below w.heap.size w w' := by
  obtain ⟨s0, rfl, g0⟩ := h0
  obtain ⟨a0, k0, rfl⟩ := g0.form
  unfold spanBulk at b0
  have hlen : x.2.2.2.2.2.length ≤ 1048576 := by have := bulkL_len attrBulk x.2.2.2.2.2; omega
  go_enter Try.func95, Try.ntmps95
  go_upto_region 1 with fail
  generalize hW : World.alloc (World.alloc w _) _ = w1
  have B1 : Below w.heap.size w w1 := by rw [← hW]; exact bthen (bnew _ _) (bnew _ _)
  have P1 : Held w1 w.heap.size [.int .i64 x.1, .int .i64 x.2.1, .int .i64 x.2.2.1, .int .i64 x.2.2.2.1, .bool x.2.2.2.2.1, .slice a0 x.2.2.2.2.2.length k0] := by rw [← hW]; exact (Held.new w [.int .i64 x.1, .int .i64 x.2.1, .int .i64 x.2.2.1, .int .i64 x.2.2.2.1, .bool x.2.2.2.2.1, .slice a0 x.2.2.2.2.2.length k0] 33).keep (bnew _ _)
  have V1 : WrAt w1 w.heap.size 0 6 := by rw [← hW]; exact (WrAt.new w #[.int .i64 x.1, .int .i64 x.2.1, .int .i64 x.2.2.1, .int .i64 x.2.2.2.1, .bool x.2.2.2.2.1, .slice a0 x.2.2.2.2.2.length k0] 33 6 rfl).keep (bnew _ _)
  have R1 : WrAt w1 (w.heap.size + 1) 0 6 := by rw [← hW]; have := WrAt.new (w.alloc (.cells #[.int .i64 x.1, .int .i64 x.2.1, .int .i64 x.2.2.1, .int .i64 x.2.2.2.1, .bool x.2.2.2.2.1, .slice a0 x.2.2.2.2.2.length k0] 33)) #[.int .i64 0, .int .i64 0, .int .i64 0, .int .i64 0, .bool false, .slice none 0 0] 33 6 rfl; simpa using this
  have hs1 : w1.heap.size = w.heap.size + 2 := by rw [← hW]; simp
  clear hW
  have p5 := P1.2 5 _ rfl
  have g1 := g0.keep attrR_keeps B1
  clear g0
  have HP := hide (And.intro hs1 (And.intro B1 (And.intro P1 (And.intro V1 R1))))
  clear P1 V1 R1 hs1
  have HQ := hide (attrs_ok g1)
  have hsr := attrs_src g1
  have hml : (1048576 : Nat) ≤ maxLen := by unfold maxLen; omega
  clear g1
  obtain ⟨v4, w4, hrun, y, hb4⟩ := l3mid w1 a0 k0 x.2.2.2.2.2 hsr (unhide HQ) hlen
  have p5 : (w1.alloc (.cells #[] 180)).cell? ⟨w.heap.size, 5, none⟩ = some (.slice a0 x.2.2.2.2.2.length k0) := by
    rw [(bnew w1 (.cells #[] 180)).cell (p := ⟨w.heap.size, 5, none⟩) (unhide HP).2.2.1.1]; exact p5
  clear hsr
  obtain ⟨hs1, B1, P1, V1, R1⟩ := unhide HP
  obtain ⟨a4, k4, rfl⟩ := y.form
  have P4 := P1.keep hb4
  have V4 := V1.keep hb4
  have R4 := R1.keep hb4
  have q5 := P4.2 5 _ rfl
  have f5 := V4.free 5 (by omega)
  rw [Nat.zero_add] at f5
  have B4 := bthen B1 hb4
  have HY := hide (And.intro y (And.intro P4 (And.intro R4 B4)))
  have hlt : w.heap.size < w4.heap.size := by have := hb4.size; omega
  have HS1 := hide hs1
  clear hs1 y hb4 P1 V1 R1 P4 V4 R4 B4 B1 HP
  go_upto_region 2 with (first | (at_builtin; refine wpl_append_run _ rfl (.tmp 3) (.tmp 5) 31 rfl _ _ rfl rfl hrun ?_))
  obtain ⟨y, P4, R4, B4⟩ := unhide HY
  have hs1 := unhide HS1
  generalize hW : World.setCell w4 _ _ = w5
  have P5 : Held w5 w.heap.size [.int .i64 x.1, .int .i64 x.2.1, .int .i64 x.2.2.1, .int .i64 x.2.2.2.1, .bool x.2.2.2.2.1, .slice a4 x.2.2.2.2.2.length k4] := by rw [← hW]; exact P4.set 5 (.slice a4 x.2.2.2.2.2.length k4) (by simp)
  have R5 : WrAt w5 (w.heap.size + 1) 0 6 := by rw [← hW]; exact R4.set _ _
  have t5 : Turn (fun k => k = w.heap.size) w4 w5 := by rw [← hW]; exact Turn.set w4 ⟨w.heap.size, 5, none⟩ _
  clear hW q5 f5 HY hrun p5
  have t6 := putL_turn (w.heap.size + 1) 0 [.int .i64 x.1, .int .i64 x.2.1, .int .i64 x.2.2.1, .int .i64 x.2.2.2.1, .bool x.2.2.2.2.1, .slice a4 x.2.2.2.2.2.length k4] 0 w5
  have i6 := putL_at (b := w.heap.size + 1) (o := 0) [.int .i64 x.1, .int .i64 x.2.1, .int .i64 x.2.2.1, .int .i64 x.2.2.2.1, .bool x.2.2.2.2.1, .slice a4 x.2.2.2.2.2.length k4] 0 R5 (by omega) (by simp)
  have tt : Turn (fun k => k = w.heap.size ∨ k = w.heap.size + 1) w4 (putL (w.heap.size + 1) 0 [.int .i64 x.1, .int .i64 x.2.1, .int .i64 x.2.2.1, .int .i64 x.2.2.2.1, .bool x.2.2.2.2.1, .slice a4 x.2.2.2.2.2.length k4] 0 w5) := (t5.mono (fun k h => .inl h)).trans (t6.mono (fun k h => .inr h))
  have y6 := y.turn attrO_keeps tt (fun k hk e => by have := hk.1; omega)
  have B6 := B4.trans (tt.belowFrom B4.size (fun k hk => by omega))
  have hz := tt.size
  have HF := hide (And.intro i6 (And.intro y6 B6))
  have c1 := P5.inB
  clear t5 t6 i6 tt y y6 B6 P4 R4 P5 hs1
  go_wp2_with (first | (refine wpl_load rfl 33 _ rfl _ 0 rfl [.int .i64 x.1, .int .i64 x.2.1, .int .i64 x.2.2.1, .int .i64 x.2.2.2.1, .bool x.2.2.2.2.1, .slice a4 x.2.2.2.2.2.length k4] c1 rowISpan ?_) | (refine wpl_store_at rfl 33 _ _ rfl _ 0 [.int .i64 x.1, .int .i64 x.2.1, .int .i64 x.2.2.1, .int .i64 x.2.2.2.1, .bool x.2.2.2.2.1, .slice a4 x.2.2.2.2.2.length k4] rfl rfl R5 (by intro v hv; simp only [List.mem_cons, List.not_mem_nil, or_false] at hv; rcases hv with rfl | rfl | rfl | rfl | rfl | rfl <;> rfl) rowISpan ?_))
  obtain ⟨i6, y6, B6⟩ := unhide HF
  have hs1 := unhide HS1
  refine bodyPost_ret (v := .agg #[.int .i64 x.1, .int .i64 x.2.1, .int .i64 x.2.2.1, .int .i64 x.2.2.2.1, .bool x.2.2.2.2.1, .slice a4 x.2.2.2.2.2.length k4]) (res_row (t := 2) (cs := [.int .i64 x.1, .int .i64 x.2.1, .int .i64 x.2.2.1, .int .i64 x.2.2.2.1, .bool x.2.2.2.2.1, .slice a4 x.2.2.2.2.2.length k4]) rfl rfl i6 rowISpan) rfl ⟨[.int .i64 x.1, .int .i64 x.2.1, .int .i64 x.2.2.1, .int .i64 x.2.2.2.1, .bool x.2.2.2.2.1, .slice a4 x.2.2.2.2.2.length k4], rfl, ⟨_, rfl, y6.widens (fun k hk => ⟨by have := hk.1; omega, by have := hk.2; omega⟩)⟩, B6⟩
end Go.Proofs.Ytjhlammjnggghaa
