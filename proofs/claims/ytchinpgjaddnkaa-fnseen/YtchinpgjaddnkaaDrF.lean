/-
  Drawn lists of things, as a law's draws hand them back.
-/
import Derived.Test.YtchinpgjaddnkaaDrE
import Derived.Test.YtchinpgjaddnkaaBridge
namespace Go.Proofs.Ytchinpgjaddnkaa
open Go.ChangeShapes Go.WideShapes Go.ChangeAt Go.RowKit
set_option linter.unusedVariables false
set_option maxRecDepth 100000

theorem tiny_sum : ∀ (l : List AttrD), AllT l → (l.map attrBulk).sum ≤ l.length * 80 := by
  intro l
  induction l with
  | nil => intro _; simp
  | cons x r ih =>
    intro h
    have h1 := h x (List.mem_cons_self ..)
    have h2 := ih (fun y hy => h y (List.mem_cons_of_mem _ hy))
    have h3 : attrBulk x ≤ 80 := by have := h1.1; have := h1.2; unfold attrBulk; omega
    simp only [List.map_cons, List.sum_cons, List.length_cons]
    omega
theorem tiny_span {x : SpanD} (h : TinyS x) : spanBulk x ≤ 729 := by
  have h1 := tiny_sum _ h.2
  have h2 := h.1
  unfold spanBulk bulkL
  omega
theorem tiny_spans : ∀ (l : List SpanD), AllS l → (l.map spanBulk).sum ≤ l.length * 729 := by
  intro l
  induction l with
  | nil => intro _; simp
  | cons x r ih =>
    intro h
    have h1 := tiny_span (h x (List.mem_cons_self ..))
    have h2 := ih (fun y hy => h y (List.mem_cons_of_mem _ hy))
    simp only [List.map_cons, List.sum_cons, List.length_cons]
    omega
theorem bulk_tiny {l : List SpanD} (h : AllS l) (hl : l.length ≤ 1000) : bulkS l ≤ 1048576 := by
  have h1 := tiny_spans l h
  have h2 : bulkL spanBulk l = l.length + bulkS l := bulk_spans l
  unfold bulkL at h2
  omega
theorem allS_take {l : List SpanD} (h : AllS l) (k : Nat) : AllS (l.take k) := fun x hx => h x (List.mem_of_mem_take hx)
theorem allS_drop {l : List SpanD} (h : AllS l) (k : Nat) : AllS (l.drop k) := fun x hx => h x (List.mem_of_mem_drop hx)
/-- A drawn list: where it lies, and that it may be cut. -/
def Cutty (w : World) (v : Value) (l : List SpanD) : Prop := SpansAt w v l ∧ ∃ g c, v = .slice (some ⟨g, 0, none⟩) l.length c ∧ l.length ≤ c ∧ c ≤ maxLen
theorem Cutty.keep {w w' : World} {v : Value} {l : List SpanD} (h : Cutty w v l) (hb : Below w.heap.size w w') : Cutty w' v l := ⟨h.1.keep hb, h.2⟩
theorem cutty_of {base : Nat} {w : World} {v : Value} {l : List SpanD} (h : GrowL 6 spanO 46 base w v l) (hl : l.length ≤ 1048576) (hs : ∃ g c, v = .slice (some ⟨g, 0, none⟩) l.length c) : Cutty w v l := by
  refine ⟨spans_old ((h.done (by omega)).read spanR_widens spanO_read), ?_⟩
  obtain ⟨css, T, gx⟩ := h
  obtain ⟨g, c, e⟩ := hs
  rcases gx.row.2 with ⟨h0, _⟩ | ⟨g2, c2, cur, hv, hg, hh, hc, hm, _⟩
  · rw [e] at h0; injection h0 with h0; cases h0
  · exact ⟨g2, c2, hv, hc, hm⟩
theorem DrawErrors_any (a : Option Addr) (len cap : Nat) (w : World) (hl : len ≤ 1048576) (hy : Bytes w a len) :
    Calls Try.prog 6 #[.slice a len cap] w fun e w' => (∃ v l, e = .returned v ∧ l.length ≤ 4 ∧ AllS l ∧ Cutty w' v l) ∧ Below w.heap.size w w' := by
  go_enter Try.func6, Try.ntmps6
  go_wp2_with fail
  refine (l1New_any a len cap w hl hy).mono ?_
  rintro e w1 ⟨b, rfl, hb, hc1, hw1⟩
  have hs1 := hw1.size
  go_wp2_with fail
  refine (l3List_any b w1 hc1).mono ?_
  rintro e w2 ⟨⟨v, l, rfl, hll, ha, hg, hs⟩, hc2, ht2⟩
  have hF := hide (And.intro ha (cutty_of hg (by omega) hs))
  have hB := hide (hw1.trans (ht2.below hb hs1))
  clear hc1 hw1 ha hg hs hc2 ht2
  go_wp2
  go_ret
  exact ⟨⟨_, l, rfl, by omega, (unhide hF).1, (unhide hF).2⟩, unhide hB⟩
set_option maxHeartbeats 1000000 in
theorem DrawLongest_any (a : Option Addr) (len cap : Nat) (w : World) (hl : len ≤ 1048576) (hy : Bytes w a len) :
    Calls Try.prog 7 #[.slice a len cap] w fun e w' => (∃ v l, e = .returned v ∧ l.length ≤ 5 ∧ AllS l ∧ SpansAt w' v l) ∧ Below w.heap.size w w' := by
  obtain ⟨i0, hi, hz0, hz1, hz2⟩ := info_parts infoSpanZ
  go_enter Try.func7, Try.ntmps7
  go_wp2_with fail
  refine (l1New_any a len cap w hl hy).mono ?_
  rintro e w1 ⟨b, rfl, hb, hc1, hw1⟩
  have hs1 := hw1.size
  have hlt1 := hc1.lt
  go_wp2_with fail
  refine (l3List_any b w1 hc1).mono ?_
  rintro e w2 ⟨⟨v, l, rfl, hll, ha, hg, gO, cO, hs⟩, hc2, ht2⟩
  have hs2 := ht2.size
  have hlt2 := hc2.lt
  subst hs
  have HG := hide hg
  have HA := hide ha
  clear hg ha hc1
  go_wp2_with fail
  refine (l3Any_any b w2 hc2).mono ?_
  rintro e w3 ⟨⟨cs, x, rfl, hso, hts⟩, hc3, ht3⟩
  have hs3 := ht3.size
  obtain ⟨sv, rfl, lo⟩ := hso
  obtain ⟨a0, c0, hsv⟩ := lo.form
  subst hsv
  have hso : spanO w3 (Within w2.heap.size w3.heap.size) [.int .i64 x.1, .int .i64 x.2.1, .int .i64 x.2.2.1, .int .i64 x.2.2.2.1, .bool x.2.2.2.2.1, .slice a0 x.2.2.2.2.2.length c0] x := ⟨_, rfl, lo⟩
  obtain ⟨v', w', hr, hg', hgr, hob, hob', a', c', rfl⟩ := GrowL.app1 (ty := 24) (tl := 24) spanO_keeps Try.underlying24 hi hz0 hz1 hz2 rfl (by decide) (unhide HG) hs2 ht3.turn (fun k e => by omega) hso (fun k h => h) rfl one_span (by omega) (by unfold maxLen; omega)
  have ta := (Turns.allocs (b := b) (w := w3) (.cells [.int .i64 x.1, .int .i64 x.2.1, .int .i64 x.2.2.1, .int .i64 x.2.2.2.1, .bool x.2.2.2.2.1, .slice a0 x.2.2.2.2.2.length c0].toArray 46))
  have t4 := ((ht2.trans ht3).trans ta).new (grown_turn hgr) (fun q e => (hob q e).1)
  have hfin : SpansAt w' (.slice a' (l.length + 1) c') (l ++ [x]) := spans_old ((hg'.done (by simp; omega)).read spanR_widens spanO_read)
  have HB := hide (hw1.trans (t4.below hb hs1))
  have HF := hide (And.intro (allS_snoc (unhide HA) hts) hfin)
  have hln : (l ++ [x]).length ≤ 5 := by simp; omega
  clear hso lo hc2 hc3 ht2 ht3 hg' hgr hob hob' ta t4 hfin HG HA hts hw1
  generalize l ++ [x] = L at *
  go_wp2_with (first | (at_builtin; refine wpl_app rfl rfl rfl rfl hr ?_))
  go_ret
  exact ⟨⟨_, L, rfl, by omega, (unhide HF).1, (unhide HF).2⟩, unhide HB⟩
end Go.Proofs.Ytchinpgjaddnkaa
