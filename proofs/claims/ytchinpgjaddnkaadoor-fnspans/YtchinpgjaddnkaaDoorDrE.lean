/-
  Drawn lists of things.
-/
import Derived.Test.YtchinpgjaddnkaaDoorDrC
import Derived.Test.YtchinpgjaddnkaaDoorSeenA
namespace Go.Proofs.YtchinpgjaddnkaaDoor
open Go.ChangeShapes Go.WideShapes Go.ChangeAt Go.RowKit
set_option linter.unusedVariables false
set_option maxRecDepth 100000
variable {B : Nat}

def AllS (l : List SpanD) : Prop := ∀ x ∈ l, TinyS x
theorem infoSpanZ : (Tryd.prog.info? 26).map (fun i => (i.zero, i.size, i.bytes)) = some (some (.agg #[.int .i64 0, .int .i64 0, .int .i64 0, .int .i64 0, .bool false, .slice none 0 0]), 6, 64) := by kernel_rfl
theorem one_span {a b c d : Int} {e : Bool} {p : Option Addr} {n m : Nat} : One [.int .i64 a, .int .i64 b, .int .i64 c, .int .i64 d, .bool e, .slice p n m] := by
  intro v hv; simp only [List.mem_cons, List.not_mem_nil, or_false] at hv; rcases hv with rfl | rfl | rfl | rfl | rfl | rfl <;> rfl
theorem allS_snoc {l : List SpanD} {x : SpanD} (h : AllS l) (hx : TinyS x) : AllS (l ++ [x]) := all_snoc h hx
theorem grow_some {α : Type} {N : Nat} {C : World → (Nat → Prop) → List Value → α → Prop} {t : TypeId} {base n c : Nat} {w : World} {a : Option Addr} {l : List α} {x : α} (h : GrowL N C t base w (.slice a n c) (l ++ [x])) : ∃ g, a = some ⟨g, 0, none⟩ := by
  obtain ⟨css, T, gx⟩ := h
  rcases gx.row.2 with ⟨_, h0⟩ | ⟨g, cap, cur, hv, _⟩
  · simp at h0
  · injection hv with hv; exact ⟨g, hv⟩
set_option maxHeartbeats 1000000 in
theorem l3List_any (b : Nat) (w : World) (hc : Cur B w b) :
    Calls Tryd.prog 25 #[.pointer (some ⟨b, 0, none⟩)] w fun e w' => (∃ v l, e = .returned v ∧ l.length ≤ 4 ∧ AllS l ∧ GrowL 6 spanO 26 w.heap.size w' v l ∧ ∃ g c, v = .slice (some ⟨g, 0, none⟩) l.length c) ∧ Cur B w' b ∧ Turns b w w' := by
  have hlt := hc.lt
  have hB := hc.high
  obtain ⟨i0, hi, hz0, hz1, hz2⟩ := info_parts infoSpanZ
  have hg0 := hide (GrowL.start (α := SpanD) (N := 6) (C := spanO) (t := 26) (Nat.le_refl w.heap.size))
  have hc0 := hc.keep (bnew w (.cells #[] 26))
  have t0 := Turns.allocs (b := b) (w := w) (.cells #[] 26)
  clear hc
  go_enter Tryd.func25, Tryd.ntmps25
  go_upto_region 2 with fail
  generalize World.alloc w _ = w0 at *
  go_wp2_with fail
  refine (l1Below_any b 5 (by omega) w0 hc0).mono ?_
  rintro e w1 ⟨⟨m, rfl, hm0, hm1⟩, hc1, ht1⟩
  obtain ⟨m, rfl⟩ := Int.eq_ofNat_of_zero_le hm0
  have HG1 := hide ((unhide hg0).keepT spanO_keeps ht1.turn (fun k e => by omega))
  have T1 := t0.trans ht1
  clear hg0 hc0 t0 ht1
  go_upto_region 3 with fail
  go_loopw [3, 4] (fun o i wk => ∃ (k : Nat) (l : List SpanD), k + l.length ≤ 4 ∧ i = .int .i64 k ∧ Hid (AllS l) ∧ Hid (GrowL 6 spanO 26 w.heap.size wk o l) ∧ Cur B wk b ∧ Turns b w wk ∧ ∃ a c, o = .slice (some ⟨a, 0, none⟩) l.length c) (fun _ i _ => (intOf i).toNat)
  case atStart => exact ⟨m, [], by simp; omega, rfl, hide (fun x hx => by simp at hx), HG1, hc1, T1, _, _, rfl⟩
  case round =>
    obtain ⟨k, l, hk, rfl, HT, HG, hc, ht, ao, co, rfl⟩ := hrel
    have hbs := ht.size
    clear hc1 T1 HG1
    by_cases hlt5 : 0 < k
    · have hki : (0 : Int) < (k : Int) := by omega
      go_wp2_with fail
      refine (l3Draw_any b wr hc).mono ?_
      rintro e w2 ⟨⟨cs, x, rfl, hso, hts⟩, hc2, ht2⟩
      obtain ⟨sv, rfl, lo⟩ := hso
      obtain ⟨a0, c0, hsv⟩ := lo.form
      subst hsv
      have hs2 := ht2.size
      have hso : spanO w2 (Within wr.heap.size w2.heap.size) [.int .i64 x.1, .int .i64 x.2.1, .int .i64 x.2.2.1, .int .i64 x.2.2.2.1, .bool x.2.2.2.2.1, .slice a0 x.2.2.2.2.2.length c0] x := ⟨_, rfl, lo⟩
      have b3 := bnew w2 (.cells #[.int .i64 x.1, .int .i64 x.2.1, .int .i64 x.2.2.1, .int .i64 x.2.2.2.1, .bool x.2.2.2.2.1, .slice a0 x.2.2.2.2.2.length c0] 26)
      have hI := (Held.new w2 [.int .i64 x.1, .int .i64 x.2.1, .int .i64 x.2.2.1, .int .i64 x.2.2.2.1, .bool x.2.2.2.2.1, .slice a0 x.2.2.2.2.2.length c0] 26).inB
      have hz3 : (w2.alloc (.cells #[.int .i64 x.1, .int .i64 x.2.1, .int .i64 x.2.2.1, .int .i64 x.2.2.2.1, .bool x.2.2.2.2.1, .slice a0 x.2.2.2.2.2.length c0] 26)).heap.size = w2.heap.size + 1 := by simp
      have hap := GrowL.app1 (ty := 30) (tl := 30) spanO_keeps Tryd.underlying30 hi hz0 hz1 hz2 rfl (by decide) (unhide HG) hbs (ht2.turn.trans ((Below.turn b3).mono (fun q h => False.elim h))) (fun k e => by omega) (spanO_keeps _ _ _ None1 _ _ (Below.turn b3) none_off hso) (fun k h => ⟨h.1, by have := h.2; omega⟩) rfl one_span (by omega) (by unfold maxLen; omega)
      have hc3 := hc2.keep b3
      have t3 := (ht.trans ht2).new (Below.turn b3) (fun q e => False.elim e)
      have HAP := hide hap
      have HC := hide (And.intro hc3 t3)
      clear hap hso lo b3 hc2 ht2 hc ht HG hz3 hc3 t3
      go_upto_region 6 with (first | (refine wpl_store_new rfl _ _ _ rfl _ [.int .i64 x.1, .int .i64 x.2.1, .int .i64 x.2.2.1, .int .i64 x.2.2.2.1, .bool x.2.2.2.2.1, .slice a0 x.2.2.2.2.2.length c0] rfl rfl ?_ one_span rowISpan ?_; rfl))
      generalize hW : World.alloc w2 _ = w3 at *
      obtain ⟨v', w', hr, hg', hgr, hob, hob', a', c', rfl⟩ := unhide HAP
      obtain ⟨ga, rfl⟩ : ∃ ga, a' = some ⟨ga, 0, none⟩ := grow_some hg'
      have ta := (Turns.allocs (b := b) (w := w3) (.cells [.int .i64 x.1, .int .i64 x.2.1, .int .i64 x.2.2.1, .int .i64 x.2.2.2.1, .bool x.2.2.2.2.1, .slice a0 x.2.2.2.2.2.length c0].toArray 26))
      have tg := grown_turn hgr
      have hc4 := ((unhide HC).1.keep (bnew w3 (.cells [.int .i64 x.1, .int .i64 x.2.1, .int .i64 x.2.2.1, .int .i64 x.2.2.2.1, .bool x.2.2.2.2.1, .slice a0 x.2.2.2.2.2.length c0].toArray 26))).new tg (fun q e => by have := (hob q e).1; omega)
      have t4 := ((unhide HC).2.trans ta).new tg (fun q e => (hob q e).1)
      have HF := hide (And.intro hg' (And.intro hc4 t4))
      have HT2 := hide (allS_snoc (unhide HT) hts)
      clear HAP HC hW hg' hgr hob hob' ta tg hc4 t4 hts
      go_wp2_with (first | (refine wpl_load rfl 26 _ rfl _ 0 rfl [.int .i64 x.1, .int .i64 x.2.1, .int .i64 x.2.2.1, .int .i64 x.2.2.2.1, .bool x.2.2.2.2.1, .slice a0 x.2.2.2.2.2.length c0] hI rowISpan ?_) | (at_builtin; refine wpl_app rfl rfl rfl rfl hr ?_))
      obtain ⟨hg', hc4, t4⟩ := unhide HF
      go_roundw
      case rel => exact ⟨k - 1, l ++ [x], by simp; omega, by go_num, HT2, hide hg', hc4, t4, ga, c', by rw [List.length_append]; rfl⟩
      case measure => simp [intOf]; omega
    · have hki : ¬ (0 : Int) < (k : Int) := by omega
      have HF := hide (And.intro HG (And.intro hc ht))
      clear hc ht HG
      go_wp2
      go_ret
      obtain ⟨HG, hc, ht⟩ := unhide HF
      exact ⟨⟨_, rfl, l, by omega, unhide HT, unhide HG, ao, co, rfl⟩, hc, ht⟩
end Go.Proofs.YtchinpgjaddnkaaDoor
