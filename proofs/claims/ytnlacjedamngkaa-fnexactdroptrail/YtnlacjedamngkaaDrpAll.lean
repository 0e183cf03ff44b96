/-
  Several texts in one: Drp1, Drp2, Drp3, Drp5, Drp6, Drp7, Drp8, Drp9, Drp10, GrowK, Drp11, Drp12.
-/
import Derived.Test.YtnlacjedamngkaaTrl1
import Derived.Test.YtnlacjedamngkaaTrl2
import Derived.Test.YtnlacjedamngkaaAStripe
import Derived.Test.YtnlacjedamngkaaAbs2
import Derived.Deep.RegionHeld3
import Derived.Test.YtnlacjedamngkaaMem
import Derived.Test.YtnlacjedamngkaaTTrail
import Derived.Test.YtnlacjedamngkaaATrail
import Derived.Test.YtnlacjedamngkaaGrow2
import Derived.Test.YtnlacjedamngkaaArgs
import Derived.Test.YtnlacjedamngkaaFind2
import Derived.Test.YtnlacjedamngkaaNStripe
import Derived.Test.YtnlacjedamngkaaMark3
namespace Go.Proofs.Ytnlacjedamngkaa
open Go.ChangeShapes Go.WideShapes Go.ChangeAt Go.RowKit
set_option linter.unusedVariables false
set_option maxRecDepth 100000

theorem infoTrail3 : (Try.prog.info? 50).map (fun i => (i.zero, i.size, i.bytes)) = some (some (.agg #[.int .i64 0, .int .i64 0, .int .i64 0, .slice none 0 0]), 4, 48) := by kernel_rfl
set_option maxHeartbeats 4000000 in
theorem specL10AllG (l : List TrailD) (S : Nat → Prop) (v : Value) (w : World) (h0 : LAt 4 trailR w S v l) (b0 : bulkL trailBulk l ≤ 1048576) :
    Calls Try.prog 52 #[v] w fun e w' => ∃ v', e = .returned v' ∧ GrowL 4 trailO 50 w.heap.size w' v' l ∧ Below w.heap.size w w' := by
  obtain ⟨a, cap, rfl⟩ := h0.form
  have hl := bulkL_len trailBulk l
  have HA := hide h0
  clear h0
  have hst := hide (GrowL.start (α := TrailD) (N := 4) (C := trailO) (t := 50) (Nat.le_refl w.heap.size))
  have hb0 := hide (bnew w (.cells #[] 50))
  have hml : (1048577 : Nat) ≤ maxLen := by unfold maxLen; omega
  go_enter Try.func52, Try.ntmps52
  go_wp2
  go_loopw [3, 4] (fun o i wk => ∃ k : Nat, k ≤ l.length ∧ i = .int .i64 k ∧ Hid (GrowL 4 trailO 50 w.heap.size wk o (l.take k)) ∧ Below w.heap.size w wk) (fun _ i _ => l.length - (intOf i).toNat)
  case atStart => exact ⟨0, Nat.zero_le _, rfl, hst, unhide hb0⟩
  case round =>
    obtain ⟨k, hk, rfl, hgr, hbl⟩ := hrel
    have hpre : (l.take k).length ≤ k := by rw [List.length_take]; omega
    have hbs := hbl.size
    clear hst hb0
    by_cases hlt : k < l.length
    · have hki : (k : Int) < (l.length : Int) := by omega
      obtain ⟨b, o, cs, rfl, hbk, hSb, hcs, hin⟩ := (unhide HA).at k hlt
      have hcs := trailR_keeps _ _ S None1 cs _ (Below.turn hbl) none_off hcs
      have hin := hin.turn hbk (Below.turn hbl) (fun e => e)
      have hXb : trailBulk l[k] ≤ 1048576 := by have := bulkL_mem trailBulk (List.getElem_mem hlt); omega
      have HS := hide (List.take_succ_eq_append_getElem hlt)
      have hrw : RowT Try.prog 50 cs.length := by rw [trailR_len hcs]; exact rowITrail
      generalize l[k] = X at *
      go_wp2_with (first | (refine wpl_load rfl 50 _ rfl _ _ rfl cs hin hrw ?_))
      refine (specL10Copy X S cs wr hcs hXb).mono ?_
      rintro e w2 ⟨cs2, rfl, yy, hb2⟩
      obtain ⟨css, T, gx⟩ := unhide hgr
      generalize hTK : l.take k = TK at *
      clear hTK hin hcs hgr
      have HY := hide yy
      obtain ⟨s2, rfl, y2⟩ := yy
      obtain ⟨a2, k2, rfl⟩ := y2.form
      clear y2
      have hb3 := bthen hb2 (bnew w2 (.cells #[.int .i64 X.id, .int .i64 X.stamp, .int .i64 X.first, .slice a2 X.spans.length k2] 50))
      have hI3 := (Held.new w2 [.int .i64 X.id, .int .i64 X.stamp, .int .i64 X.first, .slice a2 X.spans.length k2] 50).inB
      have HB2 := hide (And.intro hb2 hb3)
      clear hb2 hb3
      go_upto_region 6 with (first | (refine wpl_store_new rfl _ _ _ rfl _ [.int .i64 X.id, .int .i64 X.stamp, .int .i64 X.first, .slice a2 X.spans.length k2] rfl rfl ?_ (by intro v hv; simp only [List.mem_cons, List.not_mem_nil, or_false] at hv; rcases hv with rfl | rfl | rfl | rfl <;> rfl) rowITrail ?_; rfl))
      obtain ⟨hb2, hb3⟩ := unhide HB2
      have hz3 : (World.alloc w2 (.cells #[.int .i64 X.id, .int .i64 X.stamp, .int .i64 X.first, .slice a2 X.spans.length k2] 50)).heap.size = w2.heap.size + 1 := by simp
      have yy3 := trailO_keeps _ _ _ None1 _ _ (Below.turn (bnew w2 (.cells #[.int .i64 X.id, .int .i64 X.stamp, .int .i64 X.first, .slice a2 X.spans.length k2] 50))) none_off (unhide HY)
      generalize hW3 : World.alloc w2 _ = w3 at *
      have hb4 := bthen hb3 (bnew w3 (.cells #[.int .i64 X.id, .int .i64 X.stamp, .int .i64 X.first, .slice a2 X.spans.length k2] 50))
      have hrow := (gx.keep trailO_keeps hb4).row
      have hns := hb2.size
      have hs4 : w.heap.size ≤ (w3.alloc (.cells #[.int .i64 X.id, .int .i64 X.stamp, .int .i64 X.first, .slice a2 X.spans.length k2] 50)).heap.size := by have := hb4.size; omega
      have HB3 := hide (And.intro hb2 (And.intro hb4 (And.intro yy3 hz3)))
      clear hb2 hb3 hb4 yy3 hW3 HB2 HY hz3
      go_wp2_with (first | (refine wpl_load rfl 50 _ rfl _ 0 rfl [.int .i64 X.id, .int .i64 X.stamp, .int .i64 X.first, .slice a2 X.spans.length k2] hI3 rowITrail ?_) | (at_builtin; refine wpl_append2 rfl (.tmp 18) (.tmp 20) 36 rfl w.heap.size 50 _ 4 48 Try.underlying36 infoTrail3 rfl (by decide) _ _ _ rfl hrow ⟨_, 0, none⟩ 1 1 [.int .i64 X.id, .int .i64 X.stamp, .int .i64 X.first, .slice a2 X.spans.length k2] rfl rfl (lit_cells2 w3 [.int .i64 X.id, .int .i64 X.stamp, .int .i64 X.first, .slice a2 X.spans.length k2] 50) (by intro v hv; simp only [List.mem_cons, List.not_mem_nil, or_false] at hv; rcases hv with rfl | rfl | rfl | rfl <;> rfl) (by omega) (by omega) hs4 ?_))
      intro v' w' how hg hv
      obtain ⟨hb2, hb4, yy3, hz3⟩ := unhide HB3
      have st1 := GrowX.step trailO_keeps gx hbs hb4 (trailO_keeps _ _ _ None1 _ _ (Below.turn (bnew w3 (.cells #[.int .i64 X.id, .int .i64 X.stamp, .int .i64 X.first, .slice a2 X.spans.length k2] 50))) none_off yy3) (fun k hk => ⟨hk.1, by have := hk.2; simp; omega⟩) rfl how hg (by rcases hv with h | h; exact .inl h; exact .inr (by rw [h]; simp))
      have bl1 := grown_below (bthen hbl hb4) hg (fun k hk => (gx.row.lt k hk).1) hs4
      have HST := hide (And.intro st1 bl1)
      clear how hg hv st1 bl1 hrow gx hb2 hb4 HB3 yy3 hz3
      go_wp2
      go_roundw
      case rel => exact ⟨k + 1, by omega, by go_num, hide (by rw [unhide HS]; exact (unhide HST).1), (unhide HST).2⟩
      case measure => simp [intOf]; omega
    · have hki : ¬ (k : Int) < (l.length : Int) := by omega
      obtain rfl : k = l.length := by omega
      go_wp2
      go_ret
      have h := unhide hgr
      rw [List.take_length] at h
      exact ⟨_, rfl, h, hbl⟩
theorem specL10All (l : List TrailD) (S : Nat → Prop) (v : Value) (w : World) (h0 : LAt 4 trailR w S v l) (b0 : bulkL trailBulk l ≤ 1048576) :
    Calls Try.prog 52 #[v] w fun e w' => ∃ v', e = .returned v' ∧ LOw 4 trailO w' (Within w.heap.size w'.heap.size) v' l ∧ Below w.heap.size w w' := by
  have hl := bulkL_len trailBulk l
  refine (specL10AllG l S v w h0 b0).mono ?_
  rintro e w1 ⟨v', rfl, h, hb⟩
  exact ⟨v', rfl, h.done (by omega), hb⟩
end Go.Proofs.Ytnlacjedamngkaa
namespace Go.Proofs.Ytnlacjedamngkaa
open Go.ChangeShapes Go.WideShapes Go.ChangeAt Go.RowKit
set_option linter.unusedVariables false
set_option maxRecDepth 100000

set_option maxHeartbeats 4000000 in
theorem implEachTrailC (l : List TrailD) (S : Nat → Prop) (v : Value) (w : World) (h0 : LAt 4 trailR w S v l) (b0 : bulkL trailBulk l ≤ 1048576) :
    Calls Try.prog 92 #[v, .func (.func 70) #[] #[]] w fun e w' => ∃ g, e = .returned (.slice (some ⟨g, 0, none⟩) l.length l.length) ∧ LOw 4 trailO w' (Within w.heap.size w'.heap.size) (.slice (some ⟨g, 0, none⟩) l.length l.length) l ∧ Below w.heap.size w w' := by
  obtain ⟨a, cap, rfl⟩ := h0.form
  have hl := bulkL_len trailBulk l
  have HA := hide h0
  clear h0
  obtain ⟨w0, hmk, hrow, hb0⟩ := mMakeTrail l.length (by omega) w
  go_enter Try.func92, Try.ntmps92
  go_wp2
  go_loopw [13] (fun i wk => ∃ k : Nat, k ≤ l.length ∧ i = .int .i64 k ∧ Below w.heap.size w wk ∧ Hid (Filled 4 trailO w wk l k)) (fun i _ => l.length - (intOf i).toNat)
  case atStart => exact ⟨0, Nat.zero_le _, rfl, hb0, hide (Filled.start _ _ _ _ _ hrow)⟩
  case round =>
    obtain ⟨k, hk, rfl, hbl, hfl⟩ := hrel
    have hbs := hbl.size
    by_cases hlt : k < l.length
    · have hki : (k : Int) < (l.length : Int) := by omega
      obtain ⟨b, o, cs, rfl, hbk, hSb, hcs, hin⟩ := (unhide HA).at k hlt
      have hcs := trailR_keeps _ _ S None1 cs _ (Below.turn hbl) none_off hcs
      have hin := hin.turn hbk (Below.turn hbl) (fun e => e)
      have hXb : trailBulk l[k] ≤ 1048576 := by have := bulkL_mem trailBulk (List.getElem_mem hlt); omega
      have hrw : RowT Try.prog 50 cs.length := by rw [trailR_len hcs]; exact rowITrail
      have HL1 := hide (trailR_len hcs)
      have on1 := trailR_one hcs
      generalize hX : l[k] = X at *
      have HX := hide hX
      have hA1 := Held.new wr cs 50
      have hbA := bnew wr (.cells cs.toArray 50)
      have hcs := trailR_keeps _ _ S None1 cs _ (Below.turn hbA) none_off hcs
      have HBA := hide hbA
      clear hX hmk hrow hbA
      go_upto_region 5 with (first | (refine wpl_load rfl 50 _ rfl _ _ rfl cs hin hrw ?_) | (refine wpl_store_new rfl _ _ _ rfl _ cs rfl rfl ?_ on1 hrw ?_; (rw [unhide HL1]; rfl)))
      generalize hWa : World.alloc wr _ = wa at *
      have hI := hA1.inB
      clear hWa hin on1 hA1
      go_wp2_with (first | (refine wpl_load rfl 50 _ rfl _ 0 rfl cs hI hrw ?_))
      refine (implCopyTrail X S cs wa hcs hXb).mono ?_
      rintro e w2 ⟨cs2, rfl, yy, hb2'⟩
      have hb2 := bthen (unhide HBA) hb2'
      have hln := trailO_len yy
      have on2 := trailR_one (trailO_read _ _ _ _ yy)
      have hri : RowT Try.prog 50 cs2.length := by rw [hln]; exact rowITrail
      have hwr : WrAt w2 w.heap.size (k * 4) cs2.length := by
        have h := ((unhide hfl).1.keep hb2).part (k * 4) 4 (by omega)
        rw [hln]; rwa [Nat.zero_add] at h
      have yy := trailO_widens _ _ (Within wr.heap.size w2.heap.size) _ _ (fun k hk => ⟨Nat.le_trans (unhide HBA).size hk.1, hk.2⟩) yy
      have HB := hide (And.intro yy (And.intro hb2 hln))
      clear yy hb2 hln hb2' HBA hI hcs
      go_wp2_with (first | (refine wpl_store_at rfl 50 _ _ rfl _ _ cs2 rfl rfl hwr on2 hri ?_))
      go_roundw
      case rel =>
        obtain ⟨yy, hb2, hln⟩ := unhide HB
        have st := Filled.step (cs := cs2) trailO_keeps (unhide hfl) hlt hb2 (by rw [unhide HX]; exact yy) hln
        exact ⟨k + 1, by omega, by go_num, (bthen hbl hb2).trans ((putL_turn _ _ _ _ _).belowFrom (bthen hbl hb2).size (fun k hk => by omega)), hide st⟩
      case measure => simp [intOf]; omega
    · have hki : ¬ (k : Int) < (l.length : Int) := by omega
      obtain rfl : k = l.length := by omega
      go_wp2
      go_ret
      exact ⟨_, rfl, (unhide hfl).done (by omega), hbl⟩
theorem implCopyTrails (l : List TrailD) (S : Nat → Prop) (v : Value) (w : World) (h0 : LAt 4 trailR w S v l) (b0 : bulkL trailBulk l ≤ 1048576) :
    Calls Try.prog 58 #[v] w fun e w' => ∃ g, e = .returned (.slice (some ⟨g, 0, none⟩) l.length l.length) ∧ LOw 4 trailO w' (Within w.heap.size w'.heap.size) (.slice (some ⟨g, 0, none⟩) l.length l.length) l ∧ Below w.heap.size w w' := by
  have H := hide (implEachTrailC l S v w h0 b0)
  go_enter Try.func58, Try.ntmps58
  go_wp2_with fail
  refine (unhide H).mono ?_
  rintro e w2 ⟨v2, rfl, y, hb⟩
  go_wp2
  go_ret
  exact ⟨_, rfl, y, hb⟩
end Go.Proofs.Ytnlacjedamngkaa
namespace Go.Proofs.Ytnlacjedamngkaa
open Go.ChangeShapes Go.WideShapes Go.ChangeAt Go.RowKit
set_option linter.unusedVariables false
set_option maxRecDepth 100000

/-- A stripe that is owned, its list with no room behind it. -/
def stripeC (w : World) (S : Nat → Prop) (cs : List Value) (x : StripeD) : Prop := ∃ g, cs = [.int .i64 x.held, .slice (some ⟨g, 0, none⟩) x.l.length x.l.length] ∧ LOw 4 trailO w S (.slice (some ⟨g, 0, none⟩) x.l.length x.l.length) x.l
theorem stripeC_keeps : Keeps stripeC := by
  intro w w' S T cs x ht hd h
  obtain ⟨s0, e, g0⟩ := h
  exact ⟨s0, e, g0.turn trailO_keeps ht hd⟩
theorem stripeC_widens : Widens stripeC := by
  intro w S T cs x hs h
  obtain ⟨s0, e, g0⟩ := h
  exact ⟨s0, e, g0.widens hs⟩
theorem stripeC_own (w : World) (S : Nat → Prop) (cs : List Value) (x : StripeD) (h : stripeC w S cs x) : stripeO w S cs x := by
  obtain ⟨g, e, g0⟩ := h
  exact ⟨_, e, g0⟩
theorem stripeC_read (w : World) (S : Nat → Prop) (cs : List Value) (x : StripeD) (h : stripeC w S cs x) : stripeR w S cs x := stripeO_read _ _ _ _ (stripeC_own _ _ _ _ h)
theorem stripeC_len {w : World} {S : Nat → Prop} {cs : List Value} {x : StripeD} (h : stripeC w S cs x) : cs.length = 2 := by
  obtain ⟨g, e, g0⟩ := h
  rw [e]
  rfl
theorem plainTrailsZ : PlainT Try.prog 36 := fun w a v h => by simp [loadVar, go_sem, h]
theorem wpo_store_at {P : Program} {op : Oper} {a : Act} {w : World} {K : Act → World → Prop} {Q : Exit → Act → World → Prop} (ty : TypeId) (x y : Operand) (ho : op.op = .store ty x y)
    (b o : Nat) (cs : List Value) (hx : a.eval x = .pointer (some ⟨b, o, none⟩)) (hy : a.eval y = .agg cs.toArray) (hw : WrAt w b o cs.length) (h1 : One cs) (hi : RowT P ty cs.length)
    (h : K (a.put op.dst undef) (putL b o cs 0 w)) : Oper.wp P op a w K Q := by
  obtain ⟨d, hu, hd, hi⟩ := hi
  refine wp_store_mid ty x y ho b o cs.toArray hx hy (fun j hj => hw.2 j (by simpa using hj)) (by simpa using hi) (all_oneCell_toArray h1) ?_
  have e : ∀ (vs : List Value) (j : Nat) (w : World), w.setCells b (o + j) vs = putL b o vs j w := by
    intro vs
    induction vs with
    | nil => intro j w; rfl
    | cons v r ih => intro j w; exact ih (j + 1) _
  have e0 := e cs 0 w
  rw [Nat.add_zero] at e0
  simpa [e0] using h
set_option maxHeartbeats 2000000 in
theorem implCopyStripe1 (x : StripeD) (S : Nat → Prop) (c0 : List Value) (w : World) (h0 : stripeR w S c0 x) (b0 : stripeBulk x ≤ 1048576) :
    Calls Try.prog 84 #[.agg c0.toArray] w fun e w' => ∃ cs', e = .returned (.agg cs'.toArray) ∧ stripeC w' (Within w.heap.size w'.heap.size) cs' x ∧ Below w.heap.size w w' := by
  obtain ⟨s0, rfl, g0⟩ := h0
  obtain ⟨a0, k0, rfl⟩ := g0.form
  unfold stripeBulk at b0
  have B1 := bthen (bnew w (.cells #[.int .i64 x.held, .slice a0 x.l.length k0] 68)) (bnew (w.alloc (.cells #[.int .i64 x.held, .slice a0 x.l.length k0] 68)) (.cells #[.int .i64 0, .slice none 0 0] 68))
  have P1 := (Held.new w [.int .i64 x.held, .slice a0 x.l.length k0] 68).keep (bnew (w.alloc (.cells #[.int .i64 x.held, .slice a0 x.l.length k0] 68)) (.cells #[.int .i64 0, .slice none 0 0] 68))
  have R1 : WrAt ((w.alloc (.cells #[.int .i64 x.held, .slice a0 x.l.length k0] 68)).alloc (.cells #[.int .i64 0, .slice none 0 0] 68)) (w.heap.size + 1) 0 2 := by have := WrAt.new (w.alloc (.cells #[.int .i64 x.held, .slice a0 x.l.length k0] 68)) #[.int .i64 0, .slice none 0 0] 68 2 rfl; simpa using this
  have HS1 : Hid (((w.alloc (.cells #[.int .i64 x.held, .slice a0 x.l.length k0] 68)).alloc (.cells #[.int .i64 0, .slice none 0 0] 68)).heap.size = w.heap.size + 2) := hide (by simp)
  have HGL : ∀ w', ((Below w.heap.size w w' ∧ Held w' w.heap.size [.int .i64 x.held, .slice a0 x.l.length k0]) ∧ (WrAt w' (w.heap.size + 1) 0 2 ∧ ((w.alloc (.cells #[.int .i64 x.held, .slice a0 x.l.length k0] 68)).alloc (.cells #[.int .i64 0, .slice none 0 0] 68)).heap.size ≤ w'.heap.size)) → LAt 4 trailR w' S (.slice a0 x.l.length k0) x.l := fun w' h => g0.keep trailR_keeps h.1.1
  clear g0
  go_enter Try.func84, Try.ntmps84
  go_upto_region 1 with fail
  generalize World.alloc (World.alloc w _) _ = w1 at *
  have hz1 : w.heap.size < w1.heap.size := P1.1
  have hz2 : w.heap.size + 1 < w1.heap.size := R1.1
  refine wp_region_held_drew (S := fun w' => (Below w.heap.size w w' ∧ Held w' w.heap.size [.int .i64 x.held, .slice a0 x.l.length k0]) ∧ (WrAt w' (w.heap.size + 1) 0 2 ∧ w1.heap.size ≤ w'.heap.size)) (by kernel_rfl) ⟨⟨B1.drew, P1.keep (Below.drew (Below.refl _ _))⟩, ⟨R1.keep (Below.drew (Below.refl _ _)), Nat.le_refl _⟩⟩ (fun hHeld => ?_)
  refine wpAnyH_take (i := 0) (oi := ?oo1) (v := ?vv1) ?hi1 (by kernel_rfl) (by kernel_rfl) (by kernel_rfl) ?hQ1 ?hy1 (by assumption) ?rest1
  case hi1 => (simp only [List.getElem?_toArray, List.getElem?_cons_zero]; rfl)
  case hQ1 => exact fun _ _ _ h => h
  case hy1 => exact Or.inl ⟨by rfl, by intro wS hSw; (try dsimp only at hSw); go_simp; try first | (with_reducible rfl) | (simp only [*]; done) | omega⟩
  try simp only [Act.put, List.setIfInBounds_toArray, List.set_cons_zero, List.set_cons_succ]
  refine wpAnyH_take (i := 1) (oi := ?oo2) (v := .int .i64 x.held) ?hi2 (by kernel_rfl) (by kernel_rfl) (by kernel_rfl) ?hQ2 ?hy2 (by assumption) ?rest2
  case hi2 => (simp only [List.getElem?_toArray, List.getElem?_cons_zero, List.getElem?_cons_succ]; rfl)
  case hQ2 => exact fun _ _ _ h => h
  case hy2 => exact yld_cell (by rfl) 3 _ rfl w.heap.size 0 rfl _ (fun w' hS => hS.1.2.2 0 _ rfl) plainInt
  try simp only [Act.put, List.setIfInBounds_toArray, List.set_cons_zero, List.set_cons_succ]
  refine wpAnyH_take (i := 2) (oi := ?oo3) (v := ?vv3) ?hi3 (by kernel_rfl) (by kernel_rfl) (by kernel_rfl) ?hQ3 ?hy3 (by assumption) ?rest3
  case hi3 => (simp only [List.getElem?_toArray, List.getElem?_cons_zero, List.getElem?_cons_succ]; rfl)
  case hQ3 => exact fun _ _ _ h => h
  case hy3 => exact Or.inl ⟨by rfl, by intro wS hSw; (try dsimp only at hSw); go_simp; try first | (with_reducible rfl) | (simp only [*]; done) | omega⟩
  try simp only [Act.put, List.setIfInBounds_toArray, List.set_cons_zero, List.set_cons_succ]
  refine wpAnyH_take (i := 3) (oi := ?oo4) (v := .slice a0 x.l.length k0) ?hi4 (by kernel_rfl) (by kernel_rfl) (by kernel_rfl) ?hQ4 ?hy4 (by assumption) ?rest4
  case hi4 => (simp only [List.getElem?_toArray, List.getElem?_cons_zero, List.getElem?_cons_succ]; rfl)
  case hQ4 => exact fun _ _ _ h => h
  case hy4 => exact yld_cell (by rfl) 36 _ rfl w.heap.size 1 rfl _ (fun w' hS => hS.1.2.2 1 _ rfl) plainTrailsZ
  try simp only [Act.put, List.setIfInBounds_toArray, List.set_cons_zero, List.set_cons_succ]
  refine wpAnyH_ready (rs := [4]) (by kernel_rfl) (by simp) ?_
  refine (AllReadyH.cons (o := ?bo5n4) ?bh5n4 (fun K hK => ?br5n4) AllReadyH.nil)
  case bh5n4 => (simp only [List.getElem?_toArray, List.getElem?_cons_zero, List.getElem?_cons_succ]; rfl)
  case br5n4 =>
    go_simp
    refine (implCopyTrails x.l S _ _ (HGL _ hHeld) b0).mono ?_
    rintro e w4 ⟨g4, rfl, y, hb4⟩
    have hH4 := hide (show (fun w' => (Below w.heap.size w w' ∧ Held w' w.heap.size [.int .i64 x.held, .slice a0 x.l.length k0]) ∧ (WrAt w' (w.heap.size + 1) 0 2 ∧ w1.heap.size ≤ w'.heap.size)) w4 from ⟨⟨bthen hHeld.1.1 hb4, hHeld.1.2.keep hb4⟩, ⟨hHeld.2.1.keep hb4, Nat.le_trans hHeld.2.2 hb4.size⟩⟩)
    have HP := hide (And.intro hHeld.2.2 y)
    clear y hb4 hHeld
    go_wp2_with fail
    refine hK.out _ _ ((unhide hH4)) (fun hHeld => ?_)
    clear hK
    refine wpAnyH_take (i := 5) (oi := ?oo6) (v := .agg #[.int .i64 x.held, .slice (some ⟨g4, 0, none⟩) x.l.length x.l.length]) ?hi6 (by kernel_rfl) (by kernel_rfl) (by kernel_rfl) ?hQ6 ?hy6 (by assumption) ?rest6
    case hi6 => (simp only [List.getElem?_toArray, List.getElem?_cons_zero, List.getElem?_cons_succ]; rfl)
    case hQ6 => exact fun _ _ _ h => h
    case hy6 => exact Or.inl ⟨by rfl, by intro wS hSw; (try dsimp only at hSw); go_simp; try first | (with_reducible rfl) | (simp only [*]; done) | omega⟩
    try simp only [Act.put, List.setIfInBounds_toArray, List.set_cons_zero, List.set_cons_succ]
    refine wpAnyH_ready (rs := [6]) (by kernel_rfl) (by simp) ?_
    refine (AllReadyH.cons (o := ?bo7n6) ?bh7n6 (fun K hK => ?br7n6) AllReadyH.nil)
    case bh7n6 => (simp only [List.getElem?_toArray, List.getElem?_cons_zero, List.getElem?_cons_succ]; rfl)
    case br7n6 =>
      refine wpo_store_at 68 _ _ rfl (w.heap.size + 1) 0 [.int .i64 x.held, .slice (some ⟨g4, 0, none⟩) x.l.length x.l.length] rfl rfl hHeld.2.1 (by intro v hv; simp only [List.mem_cons, List.not_mem_nil, or_false] at hv; rcases hv with rfl | rfl <;> rfl) rowIStripe ?_
      have t6 := putL_turn (w.heap.size + 1) 0 [.int .i64 x.held, .slice (some ⟨g4, 0, none⟩) x.l.length x.l.length] 0 w4
      have HT := hide (And.intro (putL_at (b := w.heap.size + 1) (o := 0) [.int .i64 x.held, .slice (some ⟨g4, 0, none⟩) x.l.length x.l.length] 0 hHeld.2.1 (by omega) (by simp)) (And.intro ((unhide HP).2.turn trailO_keeps t6 (fun k hk e => by have := hk.1; have := (unhide HP).1; omega)) (And.intro (hHeld.1.1.trans (t6.belowFrom hHeld.1.1.size (fun k hk => by omega))) t6.size)))
      refine hK.out _ _ (⟨⟨(unhide HT).2.2.1, hHeld.1.2.turn t6 (fun e => by omega)⟩, ⟨putL_wr _ _ hHeld.2.1, Nat.le_trans hHeld.2.2 t6.size⟩⟩) (fun hHeld => ?_)
      clear hK
      refine wpAnyH_done (by kernel_rfl) ?_ _
      obtain ⟨i6, y6, B6, hz6⟩ := unhide HT
      have hq := (unhide HP).1
      have hs1 := unhide HS1
      go_wp2
      refine bodyPost_ret (v := .agg #[.int .i64 x.held, .slice (some ⟨g4, 0, none⟩) x.l.length x.l.length]) (res_row (t := 2) (cs := [.int .i64 x.held, .slice (some ⟨g4, 0, none⟩) x.l.length x.l.length]) rfl rfl i6 rowIStripe) rfl ⟨[.int .i64 x.held, .slice (some ⟨g4, 0, none⟩) x.l.length x.l.length], rfl, ⟨g4, rfl, y6.widens (fun k hk => ⟨by have := hk.1; omega, by have := hk.2; omega⟩)⟩, B6⟩
set_option maxHeartbeats 4000000 in
theorem implEachStripeC (l : List StripeD) (S : Nat → Prop) (v : Value) (w : World) (h0 : LAt 2 stripeR w S v l) (b0 : bulkL stripeBulk l ≤ 1048576) :
    Calls Try.prog 83 #[v, .func (.func 84) #[] #[]] w fun e w' => ∃ g, e = .returned (.slice (some ⟨g, 0, none⟩) l.length l.length) ∧ LOw 2 stripeC w' (Within w.heap.size w'.heap.size) (.slice (some ⟨g, 0, none⟩) l.length l.length) l ∧ Below w.heap.size w w' := by
  obtain ⟨a, cap, rfl⟩ := h0.form
  have hl := bulkL_len stripeBulk l
  have HA := hide h0
  clear h0
  obtain ⟨w0, hmk, hrow, hb0⟩ := mMakeStripe l.length (by omega) w
  go_enter Try.func83, Try.ntmps83
  go_wp2
  go_loopw [13] (fun i wk => ∃ k : Nat, k ≤ l.length ∧ i = .int .i64 k ∧ Below w.heap.size w wk ∧ Hid (Filled 2 stripeC w wk l k)) (fun i _ => l.length - (intOf i).toNat)
  case atStart => exact ⟨0, Nat.zero_le _, rfl, hb0, hide (Filled.start _ _ _ _ _ hrow)⟩
  case round =>
    obtain ⟨k, hk, rfl, hbl, hfl⟩ := hrel
    have hbs := hbl.size
    by_cases hlt : k < l.length
    · have hki : (k : Int) < (l.length : Int) := by omega
      obtain ⟨b, o, cs, rfl, hbk, hSb, hcs, hin⟩ := (unhide HA).at k hlt
      have hcs := stripeR_keeps _ _ S None1 cs _ (Below.turn hbl) none_off hcs
      have hin := hin.turn hbk (Below.turn hbl) (fun e => e)
      have hXb : stripeBulk l[k] ≤ 1048576 := by have := bulkL_mem stripeBulk (List.getElem_mem hlt); omega
      have hrw : RowT Try.prog 68 cs.length := by rw [stripeR_len hcs]; exact rowIStripe
      have HL1 := hide (stripeR_len hcs)
      have on1 := stripeR_one hcs
      generalize hX : l[k] = X at *
      have HX := hide hX
      have hA1 := Held.new wr cs 68
      have hbA := bnew wr (.cells cs.toArray 68)
      have hcs := stripeR_keeps _ _ S None1 cs _ (Below.turn hbA) none_off hcs
      have HBA := hide hbA
      clear hX hmk hrow hbA
      go_upto_region 5 with (first | (refine wpl_load rfl 68 _ rfl _ _ rfl cs hin hrw ?_) | (refine wpl_store_new rfl _ _ _ rfl _ cs rfl rfl ?_ on1 hrw ?_; (rw [unhide HL1]; rfl)))
      generalize hWa : World.alloc wr _ = wa at *
      have hI := hA1.inB
      clear hWa hin on1 hA1
      go_wp2_with (first | (refine wpl_load rfl 68 _ rfl _ 0 rfl cs hI hrw ?_))
      refine (implCopyStripe1 X S cs wa hcs hXb).mono ?_
      rintro e w2 ⟨cs2, rfl, yy, hb2'⟩
      have hb2 := bthen (unhide HBA) hb2'
      have hln := stripeC_len yy
      have on2 := stripeR_one (stripeC_read _ _ _ _ yy)
      have hri : RowT Try.prog 68 cs2.length := by rw [hln]; exact rowIStripe
      have hwr : WrAt w2 w.heap.size (k * 2) cs2.length := by
        have h := ((unhide hfl).1.keep hb2).part (k * 2) 2 (by omega)
        rw [hln]; rwa [Nat.zero_add] at h
      have yy := stripeC_widens _ _ (Within wr.heap.size w2.heap.size) _ _ (fun k hk => ⟨Nat.le_trans (unhide HBA).size hk.1, hk.2⟩) yy
      have HB := hide (And.intro yy (And.intro hb2 hln))
      clear yy hb2 hln hb2' HBA hI hcs
      go_wp2_with (first | (refine wpl_store_at rfl 68 _ _ rfl _ _ cs2 rfl rfl hwr on2 hri ?_))
      go_roundw
      case rel =>
        obtain ⟨yy, hb2, hln⟩ := unhide HB
        have st := Filled.step (cs := cs2) stripeC_keeps (unhide hfl) hlt hb2 (by rw [unhide HX]; exact yy) hln
        exact ⟨k + 1, by omega, by go_num, (bthen hbl hb2).trans ((putL_turn _ _ _ _ _).belowFrom (bthen hbl hb2).size (fun k hk => by omega)), hide st⟩
      case measure => simp [intOf]; omega
    · have hki : ¬ (k : Int) < (l.length : Int) := by omega
      obtain rfl : k = l.length := by omega
      go_wp2
      go_ret
      exact ⟨_, rfl, (unhide hfl).done (by omega), hbl⟩
theorem implCopyStripes (l : List StripeD) (S : Nat → Prop) (v : Value) (w : World) (h0 : LAt 2 stripeR w S v l) (b0 : bulkL stripeBulk l ≤ 1048576) :
    Calls Try.prog 46 #[v] w fun e w' => ∃ g, e = .returned (.slice (some ⟨g, 0, none⟩) l.length l.length) ∧ LOw 2 stripeC w' (Within w.heap.size w'.heap.size) (.slice (some ⟨g, 0, none⟩) l.length l.length) l ∧ Below w.heap.size w w' := by
  have H := hide (implEachStripeC l S v w h0 b0)
  go_enter Try.func46, Try.ntmps46
  go_wp2_with fail
  refine (unhide H).mono ?_
  rintro e w2 ⟨v2, rfl, y, hb⟩
  go_wp2
  go_ret
  exact ⟨_, rfl, y, hb⟩
end Go.Proofs.Ytnlacjedamngkaa
namespace Go.Proofs.Ytnlacjedamngkaa
open Go.ChangeShapes Go.WideShapes Go.ChangeAt Go.RowKit
set_option linter.unusedVariables false
set_option maxRecDepth 100000

theorem LOw.swap {α : Type} {n : Nat} {C : World → (Nat → Prop) → List Value → α → Prop} (hC : Keeps C) (hlen : ∀ w S cs x, C w S cs x → cs.length = n) {w : World} {S : Nat → Prop} {v : Value} {l : List α} {i : Nat} (h : LOw n C w S v l) (hS : ∀ k, S k → k < w.heap.size) (hi : i < l.length) :
    ∃ (b o cap : Nat) (T : Nat → Prop) (cs : List Value), v = .slice (some ⟨b, o, none⟩) l.length cap ∧ C w T cs l[i] ∧ InB w b (o + i * n) cs ∧ WrAt w b o (l.length * n) ∧ S b ∧ (∀ k, T k → S k ∧ k ≠ b) ∧
      ∀ (w' : World) (U : Nat → Prop) (cs' : List Value) (x' : α), Turn (fun k => k = b ∨ T k) w w' → (∀ k, U k → T k ∨ (w.heap.size ≤ k ∧ k < w'.heap.size)) → C w' U cs' x' → InB w' b (o + i * n) cs' →
        (∀ j, j < o + i * n ∨ o + i * n + n ≤ j → w'.cell? ⟨b, j, none⟩ = w.cell? ⟨b, j, none⟩) → WrAt w' b o (l.length * n) →
        LOw n C w' (fun k => S k ∨ (w.heap.size ≤ k ∧ k < w'.heap.size)) v (l.set i x') := by
  obtain ⟨a, cap, rfl, hl, h⟩ := h
  rcases h with rfl | ⟨b, o, T, rfl, hb, hw, h1, h2, h3⟩
  · simp at hi
  obtain ⟨cs, hc, hin⟩ := h3 i _ (List.getElem?_eq_getElem hi)
  refine ⟨b, o, cap, T i, cs, rfl, hc, hin, hw, hb, fun k hk => h1 i k hk, ?_⟩
  intro w' U cs' x' ht hU hc' hin' hoff hw'
  have hbs := hS b hb
  refine ⟨_, cap, by rw [List.length_set], by rw [List.length_set]; exact hl, .inr ⟨b, o, fun j => if j = i then U else T j, rfl, .inl hb, by rw [List.length_set]; exact hw', ?_, ?_, ?_⟩⟩
  · intro j k hk
    replace hk : (if j = i then U else T j) k := hk
    by_cases e : j = i
    · rw [if_pos e] at hk
      rcases hU k hk with h | h
      · exact ⟨.inl (h1 i k h).1, (h1 i k h).2⟩
      · exact ⟨.inr h, by omega⟩
    · rw [if_neg e] at hk
      exact ⟨.inl (h1 j k hk).1, (h1 j k hk).2⟩
  · intro j1 j2 k hk1 hk2
    replace hk1 : (if j1 = i then U else T j1) k := hk1
    replace hk2 : (if j2 = i then U else T j2) k := hk2
    by_cases e1 : j1 = i <;> by_cases e2 : j2 = i
    · rw [e1, e2]
    · rw [if_pos e1] at hk1
      rw [if_neg e2] at hk2
      rcases hU k hk1 with h | h
      · rw [e1]; exact h2 i j2 k h hk2
      · have := hS k (h1 j2 k hk2).1; omega
    · rw [if_neg e1] at hk1
      rw [if_pos e2] at hk2
      rcases hU k hk2 with h | h
      · rw [e2]; exact h2 j1 i k hk1 h
      · have := hS k (h1 j1 k hk1).1; omega
    · rw [if_neg e1] at hk1
      rw [if_neg e2] at hk2
      exact h2 j1 j2 k hk1 hk2
  · intro j x hx
    rw [List.getElem?_set] at hx
    by_cases e : i = j
    · subst e
      rw [if_pos rfl, if_pos hi] at hx
      injection hx with hx
      subst hx
      exact ⟨cs', by show C w' (if i = i then U else T i) cs' x'; rw [if_pos rfl]; exact hc', hin'⟩
    · rw [if_neg e] at hx
      obtain ⟨cj, hcj, hinj⟩ := h3 j x hx
      refine ⟨cj, ?_, ?_⟩
      · show C w' (if j = i then U else T j) cj x
        rw [if_neg (fun h : j = i => e h.symm)]
        exact hC _ _ _ _ _ _ ht (fun k hk hn => by
          rcases hn with hn | hn
          · exact (h1 j k hk).2 hn
          · exact e (h2 i j k hn hk)) hcj
      · intro q u hu
        have hq : q < n := by rw [← hlen _ _ _ _ hcj]; exact (List.getElem?_eq_some_iff.1 hu).1
        rw [hoff (o + j * n + q) (by
          rcases Nat.lt_or_ge j i with h | h
          · left
            have : (j + 1) * n ≤ i * n := Nat.mul_le_mul_right n h
            rw [Nat.succ_mul] at this
            omega
          · right
            have : (i + 1) * n ≤ j * n := Nat.mul_le_mul_right n (by omega)
            rw [Nat.succ_mul] at this
            omega)]
        exact hinj q u hu
end Go.Proofs.Ytnlacjedamngkaa
namespace Go.Proofs.Ytnlacjedamngkaa
open Go.ChangeShapes Go.WideShapes Go.ChangeAt Go.RowKit
set_option linter.unusedVariables false
set_option maxRecDepth 100000

def SrcC (w : World) (a : Option Addr) (n : Nat) (cs : List Value) : Prop := cs.length = n * 4 ∧ One cs ∧ (n = 0 ∨ ∃ b o, a = some ⟨b, o, none⟩ ∧ b < w.heap.size ∧ ∀ j u, cs[j]? = some u → w.cell? ((⟨b, o, none⟩ : Addr).add j) = some u)
theorem SrcC.keep {w w' : World} {a : Option Addr} {n : Nat} {cs : List Value} (h : SrcC w a n cs) (hb : Below w.heap.size w w') : SrcC w' a n cs := by
  obtain ⟨h0, h1, h⟩ := h
  refine ⟨h0, h1, ?_⟩
  rcases h with h | ⟨b, o, h2, h3, h4⟩
  · exact .inl h
  · refine .inr ⟨b, o, h2, Nat.lt_of_lt_of_le h3 hb.size, fun j u hu => ?_⟩
    have e : (⟨b, o, none⟩ : Addr).add j = ⟨b, o + j, none⟩ := by unfold Addr.add; split <;> simp_all
    have := h4 j u hu
    rw [e] at this ⊢
    rw [hb.cell (p := ⟨b, o + j, none⟩) h3]
    exact this
theorem sizeTr2 : (Try.prog.info? 50).map (·.size) = some 4 := by kernel_rfl
theorem copyC (n : Nat) (cs : List Value) (w0 : World) (b o dLen dCap : Nat) (a : Option Addr) (cap : Nat) (hs : SrcC w0 a n cs) (hw : WrAt w0 b o (n * 4)) (hd : n ≤ dLen) :
    ∃ w4, (Builtin.copy_ #[36, 36] 3 #[.slice (some ⟨b, o, none⟩) dLen dCap, .slice a n cap]).run Try.prog w0 = .ok (.int .i64 n) w4 ∧ Turn (fun k => k = b) w0 w4 ∧ InB w4 b o cs ∧ (∀ c p m, WrAt w0 c p m → WrAt w4 c p m) ∧ (∀ i xs, InB w0 b i xs → i + xs.length ≤ o → InB w4 b i xs) := by
  obtain ⟨hl, h1, hs⟩ := hs
  rcases hs with rfl | ⟨b', o', rfl, hbk, hsrc⟩
  · refine ⟨w0, run_copy0 w0 _ _ _ 50 4 _ _ _ _ _ Try.underlying36 sizeTr2, Turn.refl _ _, (fun i v hv => ?_), fun _ _ _ h => h, fun _ _ h _ => h⟩
    have : cs = [] := List.length_eq_zero_iff.1 (by simpa using hl)
    subst this
    simp at hv
  · have hmin : Nat.min n dLen = n := Nat.min_eq_left hd
    have hr := run_copyN (P := Try.prog) w0 36 36 3 50 4 b o dLen dCap ⟨b', o', none⟩ n cap cs Try.underlying36 sizeTr2 (by rw [hl, hmin]) hsrc (by rw [hl]; exact hw) h1
    rw [hmin] at hr
    refine ⟨_, hr, putL_turn _ _ _ _ _, ?_, fun c p m h => putL_wr _ _ h, fun i xs h hi => putL_in _ _ h (by omega)⟩
    exact putL_at cs 0 hw (by omega) (by rw [hl]; omega)
set_option maxHeartbeats 2000000 in
theorem implLaidT (n m : Nat) (c1 c3 : List Value) (a1 a3 : Option Addr) (k1 k3 : Nat) (b0 : Nat) (w : World) (h1 : SrcC w a1 n c1) (h3 : SrcC w a3 (m + 1) c3) (p0 : w.cell? ⟨b0, 0, none⟩ = some (.slice a1 n k1)) (p1 : w.cell? ⟨b0, 1, none⟩ = some (.slice none 0 0)) (p2 : w.cell? ⟨b0, 2, none⟩ = some (.slice a3 (m + 1) k3)) (hb0 : b0 < w.heap.size) (hlen : n + (m + 1) ≤ 1048576) :
    Calls Try.prog 86 #[.slice (some ⟨b0, 0, none⟩) 3 3] w fun e w' => ∃ nb, e = .returned (.slice (some ⟨nb, 0, none⟩) (n + (m + 1)) (n + (m + 1))) ∧ w.heap.size ≤ nb ∧ InB w' nb 0 (c1 ++ c3) ∧ WrAt w' nb 0 ((n + (m + 1)) * 4) ∧ Below w.heap.size w w' := by
  obtain ⟨w0, hmk, hrow, hbm⟩ := mMakeTrail (n + (m + 1)) hlen w
  have hmk : (Instr.makeSlice 36 (.int .i64 ((n : Int) + ((m : Int) + 1))) (.int .i64 ((n : Int) + ((m : Int) + 1)))).run Try.prog w = .ok (.slice (some ⟨w.heap.size, 0, none⟩) (n + (m + 1)) (n + (m + 1))) w0 := by have h := hmk; rw [Int.natCast_add, Int.natCast_add] at h; exact h
  have q0 : w0.cell? ⟨b0, 0, none⟩ = some (.slice a1 n k1) := by rw [hbm.cell (p := ⟨b0, 0, none⟩) hb0]; exact p0
  obtain ⟨w4, hrun, ht, hin, hwr, _⟩ := copyC n c1 w0 w.heap.size 0 (n + (m + 1)) (n + (m + 1)) a1 k1 (h1.keep hbm) (by simpa using hrow.part 0 (n * 4) (by omega)) (by omega)
  have hb4 := hbm.trans (ht.belowFrom hbm.size (fun k hk => by omega))
  have q1 : w4.cell? ⟨b0, 1, none⟩ = some (.slice none 0 0) := by rw [hb4.cell (p := ⟨b0, 1, none⟩) hb0]; exact p1
  have q2 : w4.cell? ⟨b0, 2, none⟩ = some (.slice a3 (m + 1) k3) := by rw [hb4.cell (p := ⟨b0, 2, none⟩) hb0]; exact p2
  have hw4 := hwr _ _ _ hrow
  have hrun2 : (Builtin.copy_ #[36, 36] 3 #[.slice (some ⟨w.heap.size, n * 4, none⟩) (m + 1) (m + 1), .slice none 0 0]).run Try.prog w4 = .ok (.int .i64 0) w4 := run_copy0 w4 _ _ _ 50 4 _ _ _ _ _ Try.underlying36 sizeTr2
  obtain ⟨w5, hrun5, ht5, hin5, hwr5, hold⟩ := copyC (m + 1) c3 w4 w.heap.size (n * 4) (m + 1) (m + 1) a3 k3 (h3.keep hb4) (by simpa using hw4.part (n * 4) ((m + 1) * 4) (by omega)) (Nat.le_refl _)
  have hb5 := hb4.trans (ht5.belowFrom hb4.size (fun k hk => by omega))
  have hl1 := h1.1
  have hin6 : InB w5 w.heap.size 0 (c1 ++ c3) := by
    have hi0 := hold 0 _ hin (by rw [hl1]; omega)
    intro i u hu
    rcases Nat.lt_or_ge i c1.length with h | h
    · rw [List.getElem?_append_left h] at hu; exact hi0 i u hu
    · rw [List.getElem?_append_right h] at hu
      have := hin5 _ u hu
      rw [hl1] at this h
      rwa [show n * 4 + (i - n * 4) = 0 + i by omega] at this
  have HY0 := hide (And.intro hin6 (And.intro (hwr5 _ _ _ hw4) hb5))
  have hrun5 : (Builtin.copy_ #[36, 36] 3 #[.slice (some ⟨w.heap.size, n * 4, none⟩) (m + 1) (m + 1), .slice a3 (m + 1) k3]).run Try.prog w4 = .ok (.int .i64 ((m : Int) + 1)) w5 := hrun5
  clear hb4 hb5 hrow h1 h3 ht hin hwr ht5 hin5 hwr5 hold hin6 hw4 hl1 hbm
  go_enter Try.func86, Try.ntmps86
  go_wp2
  go_loopw [3, 12] (fun s i wk => ((s = .int .i64 0 ∧ i = .int .i64 0) ∨ (s = .int .i64 n ∧ i = .int .i64 1) ∨ (s = .int .i64 n ∧ i = .int .i64 2) ∨ (s = .int .i64 ((n : Int) + ((m : Int) + 1)) ∧ i = .int .i64 3)) ∧ wk = w) (fun _ i _ => 3 - (intOf i).toNat)
  case atStart => exact ⟨.inl ⟨rfl, rfl⟩, rfl⟩
  case round =>
    rcases hrel with ⟨⟨rfl, rfl⟩ | ⟨rfl, rfl⟩ | ⟨rfl, rfl⟩ | ⟨rfl, rfl⟩, hww⟩
    · subst wr
      go_wp2
      go_roundw
      case rel => exact ⟨.inr (.inl ⟨by go_num, by go_num⟩), trivial⟩
      case measure => simp [intOf]
    · subst wr
      go_wp2
      go_roundw
      case rel => exact ⟨.inr (.inr (.inl ⟨by go_num, by go_num⟩)), trivial⟩
      case measure => simp [intOf]
    · subst wr
      go_wp2
      go_roundw
      case rel => exact ⟨.inr (.inr (.inr ⟨by go_num, by go_num⟩)), trivial⟩
      case measure => simp [intOf]
    · subst wr
      go_wp2
      go_loopw [7, 25] (fun s i wk => (s = .int .i64 0 ∧ i = .int .i64 0 ∧ wk = w0) ∨ (s = .int .i64 n ∧ i = .int .i64 1 ∧ wk = w4) ∨ (s = .int .i64 n ∧ i = .int .i64 2 ∧ wk = w4) ∨ (i = .int .i64 3 ∧ wk = w5)) (fun _ i _ => 3 - (intOf i).toNat)
      case atStart => exact .inl ⟨rfl, rfl, rfl⟩
      case round =>
        rcases hrel with ⟨rfl, rfl, hww⟩ | ⟨rfl, rfl, hww⟩ | ⟨rfl, rfl, hww⟩ | ⟨rfl, hww⟩
        · subst hww
          go_wp2_with (first | (at_builtin; refine wpl_copy _ rfl (.tmp 32) (.tmp 33) 36 36 rfl _ _ rfl rfl hrun ?_))
          go_roundw
          case rel => exact .inr (.inl ⟨by go_num, by go_num, trivial⟩)
          case measure => simp [intOf]
        · subst hww
          go_wp2_with (first | (at_builtin; refine wpl_copy _ rfl (.tmp 32) (.tmp 33) 36 36 rfl _ _ rfl rfl hrun2 ?_))
          go_roundw
          case rel => exact .inr (.inr (.inl ⟨by go_num, by go_num, trivial⟩))
          case measure => simp [intOf]
        · subst hww
          go_wp2_with (first | (at_builtin; refine wpl_copy _ rfl (.tmp 32) (.tmp 33) 36 36 rfl _ _ rfl rfl hrun5 ?_))
          go_roundw
          case rel => exact .inr (.inr (.inr ⟨by go_num, trivial⟩))
          case measure => simp [intOf]
        · subst hww
          go_wp2
          go_ret
          obtain ⟨y, y2, hb4⟩ := unhide HY0
          exact ⟨_, rfl, Nat.le_refl _, y, y2, hb4⟩
set_option maxHeartbeats 2000000 in
theorem implLaidT0 (n : Nat) (c1 : List Value) (a1 a3 : Option Addr) (k1 k3 : Nat) (b0 : Nat) (w : World) (h1 : SrcC w a1 n c1) (p0 : w.cell? ⟨b0, 0, none⟩ = some (.slice a1 n k1)) (p1 : w.cell? ⟨b0, 1, none⟩ = some (.slice none 0 0)) (p2 : w.cell? ⟨b0, 2, none⟩ = some (.slice a3 0 k3)) (hb0 : b0 < w.heap.size) (hlen : n ≤ 1048576) :
    Calls Try.prog 86 #[.slice (some ⟨b0, 0, none⟩) 3 3] w fun e w' => ∃ nb, e = .returned (.slice (some ⟨nb, 0, none⟩) n n) ∧ w.heap.size ≤ nb ∧ InB w' nb 0 c1 ∧ WrAt w' nb 0 (n * 4) ∧ Below w.heap.size w w' := by
  obtain ⟨w0, hmk, hrow, hbm⟩ := mMakeTrail n hlen w
  have q0 : w0.cell? ⟨b0, 0, none⟩ = some (.slice a1 n k1) := by rw [hbm.cell (p := ⟨b0, 0, none⟩) hb0]; exact p0
  obtain ⟨w4, hrun, ht, hin, hwr, _⟩ := copyC n c1 w0 w.heap.size 0 n n a1 k1 (h1.keep hbm) hrow (Nat.le_refl _)
  have hb4 := hbm.trans (ht.belowFrom hbm.size (fun k hk => by omega))
  have q1 : w4.cell? ⟨b0, 1, none⟩ = some (.slice none 0 0) := by rw [hb4.cell (p := ⟨b0, 1, none⟩) hb0]; exact p1
  have q2 : w4.cell? ⟨b0, 2, none⟩ = some (.slice a3 0 k3) := by rw [hb4.cell (p := ⟨b0, 2, none⟩) hb0]; exact p2
  have hrun2 : ∀ (da sa : Option Addr) (dl dc sc : Nat), (Builtin.copy_ #[36, 36] 3 #[.slice da dl dc, .slice sa 0 sc]).run Try.prog w4 = .ok (.int .i64 0) w4 := fun da sa dl dc sc => run_copy0 w4 _ _ _ 50 4 _ _ _ _ _ Try.underlying36 sizeTr2
  have HY0 := hide (And.intro hin (And.intro (hwr _ _ _ hrow) hb4))
  clear hb4 hrow h1 ht hin hwr hbm
  go_enter Try.func86, Try.ntmps86
  go_wp2
  go_loopw [3, 12] (fun s i wk => ((s = .int .i64 0 ∧ i = .int .i64 0) ∨ (s = .int .i64 n ∧ i = .int .i64 1) ∨ (s = .int .i64 n ∧ i = .int .i64 2) ∨ (s = .int .i64 n ∧ i = .int .i64 3)) ∧ wk = w) (fun _ i _ => 3 - (intOf i).toNat)
  case atStart => exact ⟨.inl ⟨rfl, rfl⟩, rfl⟩
  case round =>
    rcases hrel with ⟨⟨rfl, rfl⟩ | ⟨rfl, rfl⟩ | ⟨rfl, rfl⟩ | ⟨rfl, rfl⟩, hww⟩
    · subst wr
      go_wp2
      go_roundw
      case rel => exact ⟨.inr (.inl ⟨by go_num, by go_num⟩), trivial⟩
      case measure => simp [intOf]
    · subst wr
      go_wp2
      go_roundw
      case rel => exact ⟨.inr (.inr (.inl ⟨by go_num, by go_num⟩)), trivial⟩
      case measure => simp [intOf]
    · subst wr
      go_wp2
      go_roundw
      case rel => exact ⟨.inr (.inr (.inr ⟨by go_num, by go_num⟩)), trivial⟩
      case measure => simp [intOf]
    · subst wr
      go_wp2
      go_loopw [7, 25] (fun s i wk => (s = .int .i64 0 ∧ i = .int .i64 0 ∧ wk = w0) ∨ (s = .int .i64 n ∧ i = .int .i64 1 ∧ wk = w4) ∨ (s = .int .i64 n ∧ i = .int .i64 2 ∧ wk = w4) ∨ (i = .int .i64 3 ∧ wk = w4)) (fun _ i _ => 3 - (intOf i).toNat)
      case atStart => exact .inl ⟨rfl, rfl, rfl⟩
      case round =>
        rcases hrel with ⟨rfl, rfl, hww⟩ | ⟨rfl, rfl, hww⟩ | ⟨rfl, rfl, hww⟩ | ⟨rfl, hww⟩
        · subst hww
          go_wp2_with (first | (at_builtin; refine wpl_copy _ rfl (.tmp 32) (.tmp 33) 36 36 rfl _ _ rfl rfl hrun ?_))
          go_roundw
          case rel => exact .inr (.inl ⟨by go_num, by go_num, trivial⟩)
          case measure => simp [intOf]
        · subst hww
          go_wp2_with (first | (at_builtin; refine wpl_copy _ rfl (.tmp 32) (.tmp 33) 36 36 rfl _ _ rfl rfl (hrun2 _ _ _ _ _) ?_))
          go_roundw
          case rel => exact .inr (.inr (.inl ⟨by go_num, by go_num, trivial⟩))
          case measure => simp [intOf]
        · subst hww
          go_wp2_with (first | (at_builtin; refine wpl_copy _ rfl (.tmp 32) (.tmp 33) 36 36 rfl _ _ rfl rfl (hrun2 _ _ _ _ _) ?_))
          go_roundw
          case rel => exact .inr (.inr (.inr ⟨by go_num, trivial⟩))
          case measure => simp [intOf]
        · subst hww
          go_wp2
          go_ret
          obtain ⟨y, y2, hb4⟩ := unhide HY0
          exact ⟨_, rfl, Nat.le_refl _, y, y2, hb4⟩
end Go.Proofs.Ytnlacjedamngkaa
namespace Go.Proofs.Ytnlacjedamngkaa
open Go.ChangeShapes Go.WideShapes Go.ChangeAt Go.RowKit
set_option linter.unusedVariables false
set_option maxRecDepth 100000

theorem srcC_in {w : World} {b o n p : Nat} {cs xs : List Value} (h : InB w b o xs) (hb : b < w.heap.size) (hl : cs.length = n * 4) (h1 : One cs) (hp : ∀ j u, cs[j]? = some u → xs[p + j]? = some u) : SrcC w (some ⟨b, o + p, none⟩) n cs := by
  refine ⟨hl, h1, .inr ⟨b, o + p, rfl, hb, fun j u hu => ?_⟩⟩
  have e : (⟨b, o + p, none⟩ : Addr).add j = ⟨b, o + p + j, none⟩ := by unfold Addr.add; split <;> simp_all
  rw [e, Nat.add_assoc]
  exact h (p + j) u (hp j u hu)
set_option maxHeartbeats 2000000 in
theorem implExchT (i m : Nat) (c1 cx c3 : List Value) (b o : Nat) (w : World) (hin : InB w b o (c1 ++ (cx ++ c3))) (l1 : c1.length = i * 4) (lx : cx.length = 4) (l3 : c3.length = (m + 1) * 4) (o1 : One c1) (o3 : One c3) (hb : b < w.heap.size) (hlen : i + (m + 1) + 1 ≤ 1048576) :
    Calls Try.prog 48 #[.slice (some ⟨b, o, none⟩) (i + (m + 1) + 1) (i + (m + 1) + 1), .int .i64 i, .int .i64 ((i : Int) + 1), .slice none 0 0] w fun e w' => ∃ nb, e = .returned (.slice (some ⟨nb, 0, none⟩) (i + (m + 1)) (i + (m + 1))) ∧ w.heap.size ≤ nb ∧ InB w' nb 0 (c1 ++ c3) ∧ WrAt w' nb 0 ((i + (m + 1)) * 4) ∧ Below w.heap.size w w' := by
  have s1 := srcC_in (p := 0) hin hb l1 o1 (fun j u hu => by rw [Nat.zero_add, List.getElem?_append_left (List.getElem?_eq_some_iff.1 hu).1]; exact hu)
  have s3 := srcC_in (p := (i + 1) * 4) hin hb l3 o3 (fun j u hu => by rw [List.getElem?_append_right (by omega), List.getElem?_append_right (by omega), show (i + 1) * 4 + j - c1.length - cx.length = j by omega]; exact hu)
  rw [Nat.add_zero] at s1
  have bd : Below w.heap.size w w.drew := Below.drew (Below.refl _ _)
  have bA := bnew w.drew (.cells #[.slice (some ⟨b, o, none⟩) i i, .slice none 0 0, .slice (some ⟨b, o + (i + 1) * 4, none⟩) (m + 1) (m + 1)] 36)
  have hA := Held.new w.drew [.slice (some ⟨b, o, none⟩) i i, .slice none 0 0, .slice (some ⟨b, o + (i + 1) * 4, none⟩) (m + 1) (m + 1)] 36
  have BB := hide (bthen bd bA)
  have HC := hide (implLaidT i m c1 c3 (some ⟨b, o, none⟩) (some ⟨b, o + (i + 1) * 4, none⟩) i (m + 1) w.drew.heap.size _ ((s1.keep bd).keep bA) ((s3.keep bd).keep bA) (hA.2 0 _ rfl) (hA.2 1 _ rfl) (hA.2 2 _ rfl) hA.1 (by omega))
  clear hin l1 lx l3 o1 o3 hb s1 s3 bA hA
  go_enter Try.func48, Try.ntmps48
  go_upto_region 1 with fail
  refine wp_region_held_drew (S := fun w' => Below w.heap.size w w') (by kernel_rfl) bd (fun hHeld => ?_)
  refine wpAnyH_take (i := 0) (oi := ?oo1) (v := ?vv1) ?hi1 (by kernel_rfl) (by kernel_rfl) (by kernel_rfl) ?hQ1 ?hy1 (by assumption) ?rest1
  case hi1 => (simp only [List.getElem?_toArray, List.getElem?_cons_zero]; rfl)
  case hQ1 => exact fun _ _ _ h => h
  case hy1 => exact Or.inl ⟨by rfl, by intro wS hSw; (try dsimp only at hSw); go_simp; try first | (with_reducible rfl) | (simp only [*]; done) | omega⟩
  try simp only [Act.put, List.setIfInBounds_toArray, List.set_cons_zero, List.set_cons_succ]
  refine wpAnyH_take (i := 1) (oi := ?oo2) (v := ?vv2) ?hi2 (by kernel_rfl) (by kernel_rfl) (by kernel_rfl) ?hQ2 ?hy2 (by assumption) ?rest2
  case hi2 => (simp only [List.getElem?_toArray, List.getElem?_cons_zero, List.getElem?_cons_succ]; rfl)
  case hQ2 => exact fun _ _ _ h => h
  case hy2 => exact Or.inl ⟨by rfl, by intro wS hSw; (try dsimp only at hSw); go_simp; try first | (with_reducible rfl) | (simp only [*]; done) | omega⟩
  try simp only [Act.put, List.setIfInBounds_toArray, List.set_cons_zero, List.set_cons_succ]
  refine wpAnyH_take (i := 2) (oi := ?oo3) (v := ?vv3) ?hi3 (by kernel_rfl) (by kernel_rfl) (by kernel_rfl) ?hQ3 ?hy3 (by assumption) ?rest3
  case hi3 => (simp only [List.getElem?_toArray, List.getElem?_cons_zero, List.getElem?_cons_succ]; rfl)
  case hQ3 => exact fun _ _ _ h => h
  case hy3 => exact Or.inl ⟨by rfl, by intro wS hSw; (try dsimp only at hSw); go_simp; try first | (with_reducible rfl) | (simp only [*]; done) | omega⟩
  try simp only [Act.put, List.setIfInBounds_toArray, List.set_cons_zero, List.set_cons_succ]
  refine wpAnyH_take (i := 3) (oi := ?oo4) (v := .slice (some ⟨b, o, none⟩) i i) ?hi4 (by kernel_rfl) (by kernel_rfl) (by kernel_rfl) ?hQ4 ?hy4 (by assumption) ?rest4
  case hi4 => (simp only [List.getElem?_toArray, List.getElem?_cons_zero, List.getElem?_cons_succ]; rfl)
  case hQ4 => exact fun _ _ _ h => h
  case hy4 => exact Or.inl ⟨by rfl, by intro wS hSw; (try dsimp only at hSw); go_simp; try first | (with_reducible rfl) | (simp only [*]; done) | omega⟩
  try simp only [Act.put, List.setIfInBounds_toArray, List.set_cons_zero, List.set_cons_succ]
  refine wpAnyH_take (i := 4) (oi := ?oo5) (v := ?vv5) ?hi5 (by kernel_rfl) (by kernel_rfl) (by kernel_rfl) ?hQ5 ?hy5 (by assumption) ?rest5
  case hi5 => (simp only [List.getElem?_toArray, List.getElem?_cons_zero, List.getElem?_cons_succ]; rfl)
  case hQ5 => exact fun _ _ _ h => h
  case hy5 => exact Or.inl ⟨by rfl, by intro wS hSw; (try dsimp only at hSw); go_simp; try first | (with_reducible rfl) | (simp only [*]; done) | omega⟩
  try simp only [Act.put, List.setIfInBounds_toArray, List.set_cons_zero, List.set_cons_succ]
  refine wpAnyH_take (i := 5) (oi := ?oo6) (v := ?vv6) ?hi6 (by kernel_rfl) (by kernel_rfl) (by kernel_rfl) ?hQ6 ?hy6 (by assumption) ?rest6
  case hi6 => (simp only [List.getElem?_toArray, List.getElem?_cons_zero, List.getElem?_cons_succ]; rfl)
  case hQ6 => exact fun _ _ _ h => h
  case hy6 => exact Or.inl ⟨by rfl, by intro wS hSw; (try dsimp only at hSw); go_simp; try first | (with_reducible rfl) | (simp only [*]; done) | omega⟩
  try simp only [Act.put, List.setIfInBounds_toArray, List.set_cons_zero, List.set_cons_succ]
  refine wpAnyH_take (i := 6) (oi := ?oo7) (v := ?vv7) ?hi7 (by kernel_rfl) (by kernel_rfl) (by kernel_rfl) ?hQ7 ?hy7 (by assumption) ?rest7
  case hi7 => (simp only [List.getElem?_toArray, List.getElem?_cons_zero, List.getElem?_cons_succ]; rfl)
  case hQ7 => exact fun _ _ _ h => h
  case hy7 => exact Or.inl ⟨by rfl, by intro wS hSw; (try dsimp only at hSw); go_simp; try first | (with_reducible rfl) | (simp only [*]; done) | omega⟩
  try simp only [Act.put, List.setIfInBounds_toArray, List.set_cons_zero, List.set_cons_succ]
  refine wpAnyH_take (i := 7) (oi := ?oo8) (v := ?vv8) ?hi8 (by kernel_rfl) (by kernel_rfl) (by kernel_rfl) ?hQ8 ?hy8 (by assumption) ?rest8
  case hi8 => (simp only [List.getElem?_toArray, List.getElem?_cons_zero, List.getElem?_cons_succ]; rfl)
  case hQ8 => exact fun _ _ _ h => h
  case hy8 => exact Or.inl ⟨by rfl, by intro wS hSw; (try dsimp only at hSw); go_simp; try first | (with_reducible rfl) | (simp only [*]; done) | omega⟩
  try simp only [Act.put, List.setIfInBounds_toArray, List.set_cons_zero, List.set_cons_succ]
  refine wpAnyH_take (i := 8) (oi := ?oo9) (v := ?vv9) ?hi9 (by kernel_rfl) (by kernel_rfl) (by kernel_rfl) ?hQ9 ?hy9 (by assumption) ?rest9
  case hi9 => (simp only [List.getElem?_toArray, List.getElem?_cons_zero, List.getElem?_cons_succ]; rfl)
  case hQ9 => exact fun _ _ _ h => h
  case hy9 => exact Or.inl ⟨by rfl, by intro wS hSw; (try dsimp only at hSw); go_simp; try first | (with_reducible rfl) | (simp only [*]; done) | omega⟩
  try simp only [Act.put, List.setIfInBounds_toArray, List.set_cons_zero, List.set_cons_succ]
  refine wpAnyH_take (i := 9) (oi := ?oo10) (v := ?vv10) ?hi10 (by kernel_rfl) (by kernel_rfl) (by kernel_rfl) ?hQ10 ?hy10 (by assumption) ?rest10
  case hi10 => (simp only [List.getElem?_toArray, List.getElem?_cons_zero, List.getElem?_cons_succ]; rfl)
  case hQ10 => exact fun _ _ _ h => h
  case hy10 => exact Or.inl ⟨by rfl, by intro wS hSw; (try dsimp only at hSw); go_simp; try first | (with_reducible rfl) | (simp only [*]; done) | omega⟩
  try simp only [Act.put, List.setIfInBounds_toArray, List.set_cons_zero, List.set_cons_succ]
  refine wpAnyH_take (i := 10) (oi := ?oo11) (v := ?vv11) ?hi11 (by kernel_rfl) (by kernel_rfl) (by kernel_rfl) ?hQ11 ?hy11 (by assumption) ?rest11
  case hi11 => (simp only [List.getElem?_toArray, List.getElem?_cons_zero, List.getElem?_cons_succ]; rfl)
  case hQ11 => exact fun _ _ _ h => h
  case hy11 => exact Or.inl ⟨by rfl, by intro wS hSw; (try dsimp only at hSw); go_simp; try first | (with_reducible rfl) | (simp only [*]; done) | omega⟩
  try simp only [Act.put, List.setIfInBounds_toArray, List.set_cons_zero, List.set_cons_succ]
  refine wpAnyH_take (i := 11) (oi := ?oo12) (v := .slice (some ⟨b, o + (i + 1) * 4, none⟩) (m + 1) (m + 1)) ?hi12 (by kernel_rfl) (by kernel_rfl) (by kernel_rfl) ?hQ12 ?hy12 (by assumption) ?rest12
  case hi12 => (simp only [List.getElem?_toArray, List.getElem?_cons_zero, List.getElem?_cons_succ]; rfl)
  case hQ12 => exact fun _ _ _ h => h
  case hy12 => exact Or.inl ⟨by rfl, by intro wS hSw; (try dsimp only at hSw); go_simp; rw [if_pos (by omega), if_pos (by omega), if_pos (by omega), show ((i : Int) + ((m : Int) + 1) + 1).toNat = i + (m + 1) + 1 by omega, if_neg (by omega), show i + (m + 1) + 1 - (i + 1) = m + 1 by omega]⟩
  try simp only [Act.put, List.setIfInBounds_toArray, List.set_cons_zero, List.set_cons_succ]
  refine wpAnyH_ready (rs := [12]) (by kernel_rfl) (by simp) ?_
  refine (AllReadyH.cons (o := ?bo13n12) ?bh13n12 (fun K hK => ?br13n12) AllReadyH.nil)
  case bh13n12 => (simp only [List.getElem?_toArray, List.getElem?_cons_zero, List.getElem?_cons_succ]; rfl)
  case br13n12 =>
    go_simp
    refine hK.out _ _ ((unhide BB)) (fun hHeld => ?_)
    clear hK
    refine wpAnyH_ready (rs := [13]) (by kernel_rfl) (by simp) ?_
    refine (AllReadyH.cons (o := ?bo14n13) ?bh14n13 (fun K hK => ?br14n13) AllReadyH.nil)
    case bh14n13 => (simp only [List.getElem?_toArray, List.getElem?_cons_zero, List.getElem?_cons_succ]; rfl)
    case br14n13 =>
      go_simp
      refine (unhide HC).mono ?_
      rintro e w2 ⟨nb, rfl, hnb, hi, hw, hb2⟩
      have HF := hide (And.intro (Nat.le_trans (unhide BB).size hnb) (And.intro hi (And.intro hw (bthen (unhide BB) hb2))))
      clear hnb hi hw hb2
      go_wp2_with fail
      refine hK.out _ _ ((unhide HF).2.2.2) (fun hHeld => ?_)
      clear hK
      refine wpAnyH_take (i := 14) (oi := ?oo15) (v := ?vv15) ?hi15 (by kernel_rfl) (by kernel_rfl) (by kernel_rfl) ?hQ15 ?hy15 (by assumption) ?rest15
      case hi15 => (simp only [List.getElem?_toArray, List.getElem?_cons_zero, List.getElem?_cons_succ]; rfl)
      case hQ15 => exact fun _ _ _ h => h
      case hy15 => exact Or.inl ⟨by rfl, by intro wS hSw; (try dsimp only at hSw); go_simp; try first | (with_reducible rfl) | (simp only [*]; done) | omega⟩
      try simp only [Act.put, List.setIfInBounds_toArray, List.set_cons_zero, List.set_cons_succ]
      refine wpAnyH_done (by kernel_rfl) ?_ _
      go_wp2
      go_ret
      exact ⟨nb, rfl, unhide HF⟩
set_option maxHeartbeats 2000000 in
theorem implExchT0 (i : Nat) (c1 cx : List Value) (b o : Nat) (w : World) (hin : InB w b o (c1 ++ cx)) (l1 : c1.length = i * 4) (o1 : One c1) (hb : b < w.heap.size) (hlen : i + 1 ≤ 1048576) :
    Calls Try.prog 48 #[.slice (some ⟨b, o, none⟩) (i + 1) (i + 1), .int .i64 i, .int .i64 ((i : Int) + 1), .slice none 0 0] w fun e w' => ∃ nb, e = .returned (.slice (some ⟨nb, 0, none⟩) i i) ∧ w.heap.size ≤ nb ∧ InB w' nb 0 c1 ∧ WrAt w' nb 0 (i * 4) ∧ Below w.heap.size w w' := by
  have s1 := srcC_in (p := 0) hin hb l1 o1 (fun j u hu => by rw [Nat.zero_add, List.getElem?_append_left (List.getElem?_eq_some_iff.1 hu).1]; exact hu)
  rw [Nat.add_zero] at s1
  have bd : Below w.heap.size w w.drew := Below.drew (Below.refl _ _)
  have bA := bnew w.drew (.cells #[.slice (some ⟨b, o, none⟩) i i, .slice none 0 0, .slice (some ⟨b, o, none⟩) 0 0] 36)
  have hA := Held.new w.drew [.slice (some ⟨b, o, none⟩) i i, .slice none 0 0, .slice (some ⟨b, o, none⟩) 0 0] 36
  have BB := hide (bthen bd bA)
  have HC := hide (implLaidT0 i c1 (some ⟨b, o, none⟩) (some ⟨b, o, none⟩) i 0 w.drew.heap.size _ ((s1.keep bd).keep bA) (hA.2 0 _ rfl) (hA.2 1 _ rfl) (hA.2 2 _ rfl) hA.1 (by omega))
  clear hin l1 o1 hb s1 bA hA
  go_enter Try.func48, Try.ntmps48
  go_upto_region 1 with fail
  refine wp_region_held_drew (S := fun w' => Below w.heap.size w w') (by kernel_rfl) bd (fun hHeld => ?_)
  refine wpAnyH_take (i := 0) (oi := ?oo16) (v := ?vv16) ?hi16 (by kernel_rfl) (by kernel_rfl) (by kernel_rfl) ?hQ16 ?hy16 (by assumption) ?rest16
  case hi16 => (simp only [List.getElem?_toArray, List.getElem?_cons_zero]; rfl)
  case hQ16 => exact fun _ _ _ h => h
  case hy16 => exact Or.inl ⟨by rfl, by intro wS hSw; (try dsimp only at hSw); go_simp; try first | (with_reducible rfl) | (simp only [*]; done) | omega⟩
  try simp only [Act.put, List.setIfInBounds_toArray, List.set_cons_zero, List.set_cons_succ]
  refine wpAnyH_take (i := 1) (oi := ?oo17) (v := ?vv17) ?hi17 (by kernel_rfl) (by kernel_rfl) (by kernel_rfl) ?hQ17 ?hy17 (by assumption) ?rest17
  case hi17 => (simp only [List.getElem?_toArray, List.getElem?_cons_zero, List.getElem?_cons_succ]; rfl)
  case hQ17 => exact fun _ _ _ h => h
  case hy17 => exact Or.inl ⟨by rfl, by intro wS hSw; (try dsimp only at hSw); go_simp; try first | (with_reducible rfl) | (simp only [*]; done) | omega⟩
  try simp only [Act.put, List.setIfInBounds_toArray, List.set_cons_zero, List.set_cons_succ]
  refine wpAnyH_take (i := 2) (oi := ?oo18) (v := ?vv18) ?hi18 (by kernel_rfl) (by kernel_rfl) (by kernel_rfl) ?hQ18 ?hy18 (by assumption) ?rest18
  case hi18 => (simp only [List.getElem?_toArray, List.getElem?_cons_zero, List.getElem?_cons_succ]; rfl)
  case hQ18 => exact fun _ _ _ h => h
  case hy18 => exact Or.inl ⟨by rfl, by intro wS hSw; (try dsimp only at hSw); go_simp; try first | (with_reducible rfl) | (simp only [*]; done) | omega⟩
  try simp only [Act.put, List.setIfInBounds_toArray, List.set_cons_zero, List.set_cons_succ]
  refine wpAnyH_take (i := 3) (oi := ?oo19) (v := .slice (some ⟨b, o, none⟩) i i) ?hi19 (by kernel_rfl) (by kernel_rfl) (by kernel_rfl) ?hQ19 ?hy19 (by assumption) ?rest19
  case hi19 => (simp only [List.getElem?_toArray, List.getElem?_cons_zero, List.getElem?_cons_succ]; rfl)
  case hQ19 => exact fun _ _ _ h => h
  case hy19 => exact Or.inl ⟨by rfl, by intro wS hSw; (try dsimp only at hSw); go_simp; try first | (with_reducible rfl) | (simp only [*]; done) | omega⟩
  try simp only [Act.put, List.setIfInBounds_toArray, List.set_cons_zero, List.set_cons_succ]
  refine wpAnyH_take (i := 4) (oi := ?oo20) (v := ?vv20) ?hi20 (by kernel_rfl) (by kernel_rfl) (by kernel_rfl) ?hQ20 ?hy20 (by assumption) ?rest20
  case hi20 => (simp only [List.getElem?_toArray, List.getElem?_cons_zero, List.getElem?_cons_succ]; rfl)
  case hQ20 => exact fun _ _ _ h => h
  case hy20 => exact Or.inl ⟨by rfl, by intro wS hSw; (try dsimp only at hSw); go_simp; try first | (with_reducible rfl) | (simp only [*]; done) | omega⟩
  try simp only [Act.put, List.setIfInBounds_toArray, List.set_cons_zero, List.set_cons_succ]
  refine wpAnyH_take (i := 5) (oi := ?oo21) (v := ?vv21) ?hi21 (by kernel_rfl) (by kernel_rfl) (by kernel_rfl) ?hQ21 ?hy21 (by assumption) ?rest21
  case hi21 => (simp only [List.getElem?_toArray, List.getElem?_cons_zero, List.getElem?_cons_succ]; rfl)
  case hQ21 => exact fun _ _ _ h => h
  case hy21 => exact Or.inl ⟨by rfl, by intro wS hSw; (try dsimp only at hSw); go_simp; try first | (with_reducible rfl) | (simp only [*]; done) | omega⟩
  try simp only [Act.put, List.setIfInBounds_toArray, List.set_cons_zero, List.set_cons_succ]
  refine wpAnyH_take (i := 6) (oi := ?oo22) (v := ?vv22) ?hi22 (by kernel_rfl) (by kernel_rfl) (by kernel_rfl) ?hQ22 ?hy22 (by assumption) ?rest22
  case hi22 => (simp only [List.getElem?_toArray, List.getElem?_cons_zero, List.getElem?_cons_succ]; rfl)
  case hQ22 => exact fun _ _ _ h => h
  case hy22 => exact Or.inl ⟨by rfl, by intro wS hSw; (try dsimp only at hSw); go_simp; try first | (with_reducible rfl) | (simp only [*]; done) | omega⟩
  try simp only [Act.put, List.setIfInBounds_toArray, List.set_cons_zero, List.set_cons_succ]
  refine wpAnyH_take (i := 7) (oi := ?oo23) (v := ?vv23) ?hi23 (by kernel_rfl) (by kernel_rfl) (by kernel_rfl) ?hQ23 ?hy23 (by assumption) ?rest23
  case hi23 => (simp only [List.getElem?_toArray, List.getElem?_cons_zero, List.getElem?_cons_succ]; rfl)
  case hQ23 => exact fun _ _ _ h => h
  case hy23 => exact Or.inl ⟨by rfl, by intro wS hSw; (try dsimp only at hSw); go_simp; try first | (with_reducible rfl) | (simp only [*]; done) | omega⟩
  try simp only [Act.put, List.setIfInBounds_toArray, List.set_cons_zero, List.set_cons_succ]
  refine wpAnyH_take (i := 8) (oi := ?oo24) (v := ?vv24) ?hi24 (by kernel_rfl) (by kernel_rfl) (by kernel_rfl) ?hQ24 ?hy24 (by assumption) ?rest24
  case hi24 => (simp only [List.getElem?_toArray, List.getElem?_cons_zero, List.getElem?_cons_succ]; rfl)
  case hQ24 => exact fun _ _ _ h => h
  case hy24 => exact Or.inl ⟨by rfl, by intro wS hSw; (try dsimp only at hSw); go_simp; try first | (with_reducible rfl) | (simp only [*]; done) | omega⟩
  try simp only [Act.put, List.setIfInBounds_toArray, List.set_cons_zero, List.set_cons_succ]
  refine wpAnyH_take (i := 9) (oi := ?oo25) (v := ?vv25) ?hi25 (by kernel_rfl) (by kernel_rfl) (by kernel_rfl) ?hQ25 ?hy25 (by assumption) ?rest25
  case hi25 => (simp only [List.getElem?_toArray, List.getElem?_cons_zero, List.getElem?_cons_succ]; rfl)
  case hQ25 => exact fun _ _ _ h => h
  case hy25 => exact Or.inl ⟨by rfl, by intro wS hSw; (try dsimp only at hSw); go_simp; try first | (with_reducible rfl) | (simp only [*]; done) | omega⟩
  try simp only [Act.put, List.setIfInBounds_toArray, List.set_cons_zero, List.set_cons_succ]
  refine wpAnyH_take (i := 10) (oi := ?oo26) (v := ?vv26) ?hi26 (by kernel_rfl) (by kernel_rfl) (by kernel_rfl) ?hQ26 ?hy26 (by assumption) ?rest26
  case hi26 => (simp only [List.getElem?_toArray, List.getElem?_cons_zero, List.getElem?_cons_succ]; rfl)
  case hQ26 => exact fun _ _ _ h => h
  case hy26 => exact Or.inl ⟨by rfl, by intro wS hSw; (try dsimp only at hSw); go_simp; try first | (with_reducible rfl) | (simp only [*]; done) | omega⟩
  try simp only [Act.put, List.setIfInBounds_toArray, List.set_cons_zero, List.set_cons_succ]
  refine wpAnyH_take (i := 11) (oi := ?oo27) (v := .slice (some ⟨b, o, none⟩) 0 0) ?hi27 (by kernel_rfl) (by kernel_rfl) (by kernel_rfl) ?hQ27 ?hy27 (by assumption) ?rest27
  case hi27 => (simp only [List.getElem?_toArray, List.getElem?_cons_zero, List.getElem?_cons_succ]; rfl)
  case hQ27 => exact fun _ _ _ h => h
  case hy27 => exact Or.inl ⟨by rfl, by intro wS hSw; (try dsimp only at hSw); go_simp; rw [if_pos (by omega), if_pos (by omega), if_pos (by omega)]⟩
  try simp only [Act.put, List.setIfInBounds_toArray, List.set_cons_zero, List.set_cons_succ]
  refine wpAnyH_ready (rs := [12]) (by kernel_rfl) (by simp) ?_
  refine (AllReadyH.cons (o := ?bo28n12) ?bh28n12 (fun K hK => ?br28n12) AllReadyH.nil)
  case bh28n12 => (simp only [List.getElem?_toArray, List.getElem?_cons_zero, List.getElem?_cons_succ]; rfl)
  case br28n12 =>
    go_simp
    refine hK.out _ _ ((unhide BB)) (fun hHeld => ?_)
    clear hK
    refine wpAnyH_ready (rs := [13]) (by kernel_rfl) (by simp) ?_
    refine (AllReadyH.cons (o := ?bo29n13) ?bh29n13 (fun K hK => ?br29n13) AllReadyH.nil)
    case bh29n13 => (simp only [List.getElem?_toArray, List.getElem?_cons_zero, List.getElem?_cons_succ]; rfl)
    case br29n13 =>
      go_simp
      refine (unhide HC).mono ?_
      rintro e w2 ⟨nb, rfl, hnb, hi, hw, hb2⟩
      have HF := hide (And.intro (Nat.le_trans (unhide BB).size hnb) (And.intro hi (And.intro hw (bthen (unhide BB) hb2))))
      clear hnb hi hw hb2
      go_wp2_with fail
      refine hK.out _ _ ((unhide HF).2.2.2) (fun hHeld => ?_)
      clear hK
      refine wpAnyH_take (i := 14) (oi := ?oo30) (v := ?vv30) ?hi30 (by kernel_rfl) (by kernel_rfl) (by kernel_rfl) ?hQ30 ?hy30 (by assumption) ?rest30
      case hi30 => (simp only [List.getElem?_toArray, List.getElem?_cons_zero, List.getElem?_cons_succ]; rfl)
      case hQ30 => exact fun _ _ _ h => h
      case hy30 => exact Or.inl ⟨by rfl, by intro wS hSw; (try dsimp only at hSw); go_simp; try first | (with_reducible rfl) | (simp only [*]; done) | omega⟩
      try simp only [Act.put, List.setIfInBounds_toArray, List.set_cons_zero, List.set_cons_succ]
      refine wpAnyH_done (by kernel_rfl) ?_ _
      go_wp2
      go_ret
      exact ⟨nb, rfl, unhide HF⟩
end Go.Proofs.Ytnlacjedamngkaa
namespace Go.Proofs.Ytnlacjedamngkaa
open Go.ChangeShapes Go.WideShapes Go.ChangeAt Go.RowKit
set_option linter.unusedVariables false
set_option maxRecDepth 100000

theorem LOw.row {α : Type} {n : Nat} {C : World → (Nat → Prop) → List Value → α → Prop} (hlen : ∀ w S cs x, C w S cs x → cs.length = n) (hn : 0 < n) {w : World} {S : Nat → Prop} {g cap : Nat} {l : List α} (h : LOw n C w S (.slice (some ⟨g, 0, none⟩) l.length cap) l) (hl : l ≠ []) :
    ∃ (css : List {c : List Value // c.length = n}) (T : Nat → Nat → Prop), css.length = l.length ∧ InB w g 0 (css.flatMap Subtype.val) ∧ S g ∧ g < w.heap.size ∧ (∀ i k, T i k → S k ∧ k ≠ g) ∧ (∀ i j k, T i k → T j k → i = j) ∧
      ∀ (i : Nat) (c : {c : List Value // c.length = n}) (x : α), css[i]? = some c → l[i]? = some x → C w (T i) c.1 x := by
  obtain ⟨a, cap', e, hlm, h⟩ := h
  injection e with e1 e2 e3
  rcases h with h | ⟨b, o, T, h0, hb, hw, h1, h2, h3⟩
  · exact absurd h hl
  rw [h0] at e1
  injection e1 with e1
  injection e1 with e4 e5
  subst e4
  subst e5
  obtain ⟨css, hl2, hp⟩ := list_of1 l.length (fun i (c : {c : List Value // c.length = n}) => ∀ x, l[i]? = some x → C w (T i) c.1 x ∧ InB w g (0 + i * n) c.1) (fun i hi => by
    obtain ⟨cs, hc, hin⟩ := h3 i _ (List.getElem?_eq_getElem hi)
    exact ⟨⟨cs, hlen _ _ _ _ hc⟩, fun x hx => by
      rw [List.getElem?_eq_getElem hi] at hx
      injection hx with hx
      subst hx
      exact ⟨hc, hin⟩⟩)
  refine ⟨css, T, hl2, ?_, hb, hw.1, h1, h2, fun i c x hc hx => (hp i c hc x hx).1⟩
  intro j u hu
  have := flat_src (w := w) (b := g) (o := 0) (f := fun c : {c : List Value // c.length = n} => c.1) (fun c => c.2) hn (fun i c hc => by
    have hi : i < l.length := by rw [← hl2]; exact (List.getElem?_eq_some_iff.1 hc).1
    exact (hp i c hc _ (List.getElem?_eq_getElem hi)).2) j u hu
  have e : (⟨g, 0, none⟩ : Addr).add j = ⟨g, 0 + j, none⟩ := by unfold Addr.add; split <;> simp_all
  rw [e] at this
  exact this
/-- The pieces that stay, laid in a new row. -/
theorem LOw.left {α : Type} {n : Nat} {C : World → (Nat → Prop) → List Value → α → Prop} (hC : Keeps C) (hn : 0 < n) {w w' : World} {S : Nat → Prop} {l : List α} {css : List {c : List Value // c.length = n}} {T : Nat → Nat → Prop} {nb j : Nat} (hcl : css.length = l.length) (hj : j < l.length) (hll : l.length ≤ 9223372036854775807)
    (hS : ∀ i k, T i k → S k) (hSw : ∀ k, S k → k < w.heap.size) (h2 : ∀ i j k, T i k → T j k → i = j) (h3 : ∀ (i : Nat) (c : {c : List Value // c.length = n}) (x : α), css[i]? = some c → l[i]? = some x → C w (T i) c.1 x)
    (hb : Below w.heap.size w w') (hnb : w.heap.size ≤ nb) (hw : WrAt w' nb 0 ((l.eraseIdx j).length * n)) (hin : InB w' nb 0 ((css.eraseIdx j).flatMap Subtype.val)) (cap : Nat) :
    LOw n C w' (fun k => S k ∨ Within w.heap.size w'.heap.size k) (.slice (some ⟨nb, 0, none⟩) (l.eraseIdx j).length cap) (l.eraseIdx j) := by
  refine ⟨_, cap, rfl, ?_, .inr ⟨nb, 0, fun i => T (if i < j then i else i + 1), rfl, .inr ⟨hnb, hw.1⟩, hw, ?_, ?_, ?_⟩⟩
  · have := List.length_eraseIdx_le l j
    omega
  · intro i k hk
    have hk2 := hS _ k hk
    exact ⟨.inl hk2, by have := hSw k hk2; omega⟩
  · intro i1 i2 k hk1 hk2
    have := h2 _ _ k hk1 hk2
    split at this <;> split at this <;> omega
  · intro i x hx
    rw [List.getElem?_eraseIdx] at hx
    have hx2 : l[if i < j then i else i + 1]? = some x := by split at hx <;> split <;> first | assumption | contradiction
    have hlt : (if i < j then i else i + 1) < css.length := by rw [hcl]; exact (List.getElem?_eq_some_iff.1 hx2).1
    have hc2 : css[if i < j then i else i + 1]? = some css[if i < j then i else i + 1] := List.getElem?_eq_getElem hlt
    have hc3 : (css.eraseIdx j)[i]? = some css[if i < j then i else i + 1] := by
      rw [List.getElem?_eraseIdx]
      split
      · simp
      · simp
    refine ⟨css[if i < j then i else i + 1].1, ?_, ?_⟩
    · exact hC _ _ _ _ _ _ (Below.turn hb) (fun k hk e => by have := hSw k (hS _ k hk); exact absurd e (by simp [None1])) (h3 _ _ x hc2 hx2)
    · intro q u hu
      have hq : q < n := by rw [← css[if i < j then i else i + 1].2]; exact (List.getElem?_eq_some_iff.1 hu).1
      have := hin (i * n + q) u (by
        rw [List.flatMap_def, flat_at (N := n) _ i q (fun cs hcs => by obtain ⟨y, _, rfl⟩ := List.mem_map.1 hcs; exact y.2) hq, List.getElem?_map, hc3]
        exact hu)
      rw [show 0 + i * n + q = 0 + (i * n + q) by omega]
      exact this
end Go.Proofs.Ytnlacjedamngkaa
namespace Go.Proofs.Ytnlacjedamngkaa
open Go.ChangeShapes Go.WideShapes Go.ChangeAt Go.RowKit
set_option linter.unusedVariables false
set_option maxRecDepth 100000

def dropS (x : StripeD) (k : Nat) : StripeD := ⟨x.held, x.l.eraseIdx k⟩
def dropL (l : List StripeD) (id : Int) : List StripeD :=
  if placeAt l id < 0 then l else match l[(stripeAt l id).toNat]? with
    | some x => l.set (stripeAt l id).toNat (dropS x (placeAt l id).toNat)
    | none => l
theorem drop_no {l : List StripeD} {id : Int} (h : placeAt l id < 0) : dropL l id = l := if_pos h
theorem drop_is {l : List StripeD} {id : Int} {j k : Nat} (hs : stripeAt l id = (j : Int)) (hp : placeAt l id = (k : Int)) (hj : j < l.length) : dropL l id = l.set j (dropS l[j] k) := by
  unfold dropL
  rw [if_neg (by omega), hs, hp, Int.toNat_natCast, Int.toNat_natCast, List.getElem?_eq_getElem hj]
theorem sub_sum {α : Type} (f : α → Nat) {a b : List α} (h : List.Sublist a b) : (a.map f).sum ≤ (b.map f).sum := by
  induction h with
  | slnil => simp
  | cons x _ ih => simp only [List.map_cons, List.sum_cons]; omega
  | cons_cons x _ ih => simp only [List.map_cons, List.sum_cons]; omega
theorem set_sum {α : Type} (f : α → Nat) (y : α) : ∀ (l : List α) (j : Nat) (hj : j < l.length), f y ≤ f l[j] → ((l.set j y).map f).sum ≤ (l.map f).sum := by
  intro l
  induction l with
  | nil => intro j hj; simp at hj
  | cons x r ih =>
    intro j hj h
    cases j with
    | zero => simp only [List.set_cons_zero, List.map_cons, List.sum_cons]; simp only [List.getElem_cons_zero] at h; omega
    | succ j =>
      simp only [List.set_cons_succ, List.map_cons, List.sum_cons]
      have := ih j (by simpa using hj) (by simpa using h)
      omega
theorem dropS_cnt (x : StripeD) (k : Nat) : stripeCnt (dropS x k) ≤ stripeCnt x := by
  have := sub_sum trailCnt (List.eraseIdx_sublist x.l k)
  show 1 + ((x.l.eraseIdx k).map trailCnt).sum ≤ 1 + (x.l.map trailCnt).sum
  omega
theorem drop_cnt (l : List StripeD) (id : Int) : cntL stripeCnt (dropL l id) ≤ cntL stripeCnt l := by
  unfold dropL
  split
  · exact Nat.le_refl _
  · split
    · next x hx =>
      have hj := (List.getElem?_eq_some_iff.1 hx)
      obtain ⟨hlt, e⟩ := hj
      subst e
      exact set_sum stripeCnt _ l _ hlt (dropS_cnt _ _)
    · exact Nat.le_refl _
theorem trail_cnt (x : TrailD) : trailCnt x ≤ 6 + 6 * trailBulk x := by
  have h := cnt_bulk spanCnt spanBulk 6 (fun y => by
    have := bulkL_len attrBulk y.2.2.2.2.2
    unfold spanCnt spanBulk
    omega) x.spans
  unfold trailCnt trailBulk
  omega
theorem stripe_cnt (x : StripeD) : stripeCnt x ≤ 6 + 6 * stripeBulk x := by
  have h := cnt_bulk trailCnt trailBulk 6 trail_cnt x.l
  unfold stripeCnt stripeBulk
  omega
theorem stripeS_cnt (l : List StripeD) : cntL stripeCnt l ≤ 6 * bulkL stripeBulk l := cnt_bulk stripeCnt stripeBulk 6 stripe_cnt l
theorem drop_marks (l : List StripeD) (id : Int) (h : bulkL stripeBulk l ≤ 1048576) : cntL stripeCnt (dropL l id) ≤ 16777216 := by
  have h1 := drop_cnt l id
  have h2 := cnt_bulk stripeCnt stripeBulk 6 stripe_cnt l
  omega
end Go.Proofs.Ytnlacjedamngkaa
namespace Go.Proofs.Ytnlacjedamngkaa
open Go.ChangeShapes Go.WideShapes Go.ChangeAt Go.RowKit
set_option linter.unusedVariables false
set_option maxRecDepth 100000

theorem LOw.imp {α : Type} {n : Nat} {C D : World → (Nat → Prop) → List Value → α → Prop} (hr : ∀ w S cs x, C w S cs x → D w S cs x) {w : World} {S : Nat → Prop} {v : Value} {l : List α} (h : LOw n C w S v l) : LOw n D w S v l := by
  obtain ⟨a, cap, rfl, hl, h⟩ := h
  refine ⟨a, cap, rfl, hl, ?_⟩
  rcases h with h | ⟨b, o, U, h1, h2, h3, h4, h5, h6⟩
  · exact .inl h
  · refine .inr ⟨b, o, U, h1, h2, h3, h4, h5, fun i x hx => ?_⟩
    obtain ⟨cs, hcs, hin⟩ := h6 i x hx
    exact ⟨cs, hr w (U i) cs x hcs, hin⟩
theorem flat_len4 (css : List {c : List Value // c.length = 4}) : (css.flatMap Subtype.val).length = css.length * 4 := flatMap_len css _ (fun c => c.2)
theorem flat_one {css : List {c : List Value // c.length = 4}} (h : ∀ c ∈ css, One c.1) : One (css.flatMap Subtype.val) := by
  intro v hv
  obtain ⟨c, hc, hvc⟩ := List.mem_flatMap.1 hv
  exact h c hc v hvc
theorem css_split {α : Type} {css : List α} {k : Nat} (hk : k < css.length) : css = css.take k ++ (css[k] :: css.drop (k + 1)) := by
  rw [List.getElem_cons_drop, List.take_append_drop]
theorem erase_split {α : Type} (css : List α) (k : Nat) : css.eraseIdx k = css.take k ++ css.drop (k + 1) := List.eraseIdx_eq_take_drop_succ css k
theorem implExchK (css : List {c : List Value // c.length = 4}) (k : Nat) (hk : k < css.length) (g : Nat) (w : World) (hin : InB w g 0 (css.flatMap Subtype.val)) (h1 : ∀ c ∈ css, One c.1) (hg : g < w.heap.size) (hlen : css.length ≤ 1048576) :
    Calls Try.prog 48 #[.slice (some ⟨g, 0, none⟩) css.length css.length, .int .i64 k, .int .i64 ((k : Int) + 1), .slice none 0 0] w fun e w' => ∃ nb, e = .returned (.slice (some ⟨nb, 0, none⟩) (css.length - 1) (css.length - 1)) ∧ w.heap.size ≤ nb ∧ InB w' nb 0 ((css.eraseIdx k).flatMap Subtype.val) ∧ WrAt w' nb 0 ((css.length - 1) * 4) ∧ Below w.heap.size w w' := by
  rw [erase_split, List.flatMap_append]
  have hsp := css_split hk
  have hln : css.length = k + ((css.drop (k + 1)).length + 1) := by rw [List.length_drop]; omega
  have o1 : One ((css.take k).flatMap Subtype.val) := flat_one (fun c hc => h1 c (List.mem_of_mem_take hc))
  have o3 : One ((css.drop (k + 1)).flatMap Subtype.val) := flat_one (fun c hc => h1 c (List.mem_of_mem_drop hc))
  have l1 : ((css.take k).flatMap Subtype.val).length = k * 4 := by rw [flat_len4, List.length_take, Nat.min_eq_left (by omega)]
  have l3 := flat_len4 (css.drop (k + 1))
  have lx := css[k].2
  have hin2 : InB w g 0 ((css.take k).flatMap Subtype.val ++ (css[k].1 ++ (css.drop (k + 1)).flatMap Subtype.val)) := by
    rw [← List.flatMap_cons, ← List.flatMap_append, ← hsp]
    exact hin
  cases hd : (css.drop (k + 1)).length with
  | zero =>
    have e0 : css.drop (k + 1) = [] := List.length_eq_zero_iff.1 hd
    rw [hd] at hln
    rw [e0] at hin2 ⊢
    simp only [List.flatMap_nil, List.append_nil] at hin2 ⊢
    have := implExchT0 k _ css[k].1 g 0 w hin2 l1 o1 hg (by omega)
    rw [show css.length = k + 1 by omega, show k + 1 - 1 = k by omega]
    exact this
  | succ m =>
    rw [hd] at hln l3
    have := implExchT k m _ css[k].1 _ g 0 w hin2 l1 lx l3 o1 o3 hg (by omega)
    rw [show css.length = k + (m + 1) + 1 by omega, show k + (m + 1) + 1 - 1 = k + (m + 1) by omega]
    exact this
set_option maxHeartbeats 2000000 in
theorem implDropTrail (l : List StripeD) (id : Int) (S : Nat → Prop) (v : Value) (w : World) (h0 : LAt 2 stripeR w S v l) (b0 : bulkL stripeBulk l ≤ 1048576) :
    Calls Try.prog 11 #[v, .int .i64 id] w fun e w' => ∃ v', e = .returned v' ∧ LOw 2 stripeO w' (Within w.heap.size w'.heap.size) v' (dropL l id) ∧ Below w.heap.size w w' := by
  have hl := bulkL_len stripeBulk l
  have hbl : ∀ j (hj : j < l.length), l[j].l.length ≤ 1048576 := fun j hj => by
    have h1 := stripe_bulk_l hj b0
    have h2 := bulkL_len trailBulk l[j].l
    omega
  have HC := hide (implCopyStripes l S v w h0 b0)
  clear h0
  go_enter Try.func11, Try.ntmps11
  go_wp2_with fail
  refine (unhide HC).mono ?_
  rintro e w1 ⟨g0, rfl, ow1, hb1⟩
  clear HC
  have HF := hide (implfindTrail l id _ _ w1 (ow1.read stripeR_widens stripeC_read) b0)
  have HO := hide (And.intro ow1 hb1)
  clear ow1 hb1
  go_wp2_with fail
  refine (unhide HF).mono ?_
  rintro e w2 ⟨rfl, hb2⟩
  clear HF
  obtain ⟨ow1, hb1⟩ := unhide HO
  clear HO
  have ow2 := ow1.keep stripeC_keeps hb2
  have B2 := bthen hb1 hb2
  have hz1 := hb1.size
  have hz2 := hb2.size
  clear ow1 hb1 hb2
  by_cases hk : placeAt l id < 0
  · have HNO := hide (drop_no hk)
    have hk2 : ¬ (0 : Int) ≤ placeAt l id := by omega
    generalize placeAt l id = pl at *
    have HW := hide (And.intro ow2 B2)
    clear ow2 B2
    go_wp2
    go_ret
    exact ⟨_, rfl, by rw [unhide HNO]; exact ((unhide HW).1.imp stripeC_own).widens (fun k hk => ⟨hk.1, by have := hk.2; omega⟩), (unhide HW).2⟩
  have hn : l.length ≠ 0 := fun e => hk (by rw [at_nil l id e]; omega)
  obtain ⟨j, hj, hje⟩ := stripe_in2 id l.length (by omega)
  have hTA := at_is l id j hj hje
  have hSA : stripeAt l id = (j : Int) := by rw [stripeAt, if_neg hn, hje]
  obtain ⟨k, hkl, hke⟩ := idx_is (p := fun x : TrailD => decide (x.id = id)) (l := trailsAt l id) hk
  have hPK : placeAt l id = (k : Int) := hke
  rw [hTA] at hkl
  have HDI := hide (drop_is hSA hPK hj)
  have hlx := hbl j hj
  obtain ⟨b, o, cap, T, cs, hv, hc, hin, hwr, hSb, hT, hend⟩ := ow2.swap stripeC_keeps (fun _ _ _ _ h => stripeC_len h) (fun k hk => by have := hk.2; omega) hj
  injection hv with hv1 hv2 hv3
  injection hv1 with hv1
  injection hv1 with hv1 hv4
  subst hv1
  subst hv4
  obtain ⟨g, rfl, lo⟩ := hc
  obtain ⟨css, T2, hcl, hin2, hTg, hgs, hT2, hT3, hT4⟩ := lo.row (n := 4) (fun _ _ _ _ h => trailO_len h) (by omega) (fun e => by rw [e] at hkl; simp at hkl)
  have hone : ∀ c ∈ css, One c.1 := by
    intro c hc
    obtain ⟨i, hi, rfl⟩ := List.mem_iff_getElem.1 hc
    exact trailR_one (trailO_read _ _ _ _ (hT4 i _ _ (List.getElem?_eq_getElem hi) (List.getElem?_eq_getElem (by rw [← hcl]; exact hi))))
  have HE := hide (implExchK css k (by rw [hcl]; exact hkl) g w2 hin2 hone hgs (by omega))
  rw [hcl] at HE
  rw [hSA, hPK]
  have hji : (j : Int) < (l.length : Int) := by omega
  have hj0 : (0 : Int) ≤ (j : Int) := by omega
  have hk0 : (0 : Int) ≤ (k : Int) := by omega
  have c1 : w2.cell? ⟨g0, j * 2 + 1, none⟩ = some (.slice (some ⟨g, 0, none⟩) l[j].l.length l[j].l.length) := by have := hin 1 _ rfl; rwa [Nat.zero_add] at this
  have HA1 := hide (And.intro hin (And.intro hwr (And.intro hT hend)))
  have HA2 := hide (And.intro hT2 (And.intro hT3 (And.intro hT4 hcl)))
  have HB2 := hide B2
  have HSb := hide hSb
  have HTA := hide hTA
  have hg0s := hwr.1
  have HL := hide (And.intro hkl hgs)
  generalize hX : l[j] = X at *
  have HX := hide hX
  clear hX hin hwr hT hend hT2 hT3 hT4 hcl hin2 hTg hone lo hTA ow2 hSb B2 hke hPK hSA hk hn hje hbl hv2 hv3
  go_wp2_with fail
  refine (unhide HE).mono ?_
  rintro e w3 ⟨nb, rfl, hnb, hin3, hwr3, hb3⟩
  have c2 : w3.cell? ⟨g0, j * 2 + 1, none⟩ = some (.slice (some ⟨g, 0, none⟩) X.l.length X.l.length) := by rw [hb3.cell (p := ⟨g0, j * 2 + 1, none⟩) hg0s]; exact c1
  have f2 : w3.frozen? ⟨g0, j * 2 + 1, none⟩ = false := by
    have := (unhide HA1).2.1.free (j * 2 + 1) (by omega)
    rw [Nat.zero_add] at this
    rw [hb3.frozen (p := ⟨g0, j * 2 + 1, none⟩) hg0s]; exact this
  have HN := hide (And.intro hnb (And.intro hin3 (And.intro hwr3 hb3)))
  clear hnb hin3 hwr3 hb3 c1 HE
  go_wp2
  go_ret
  obtain ⟨hnb, hin3, hwr3, hb3⟩ := unhide HN
  obtain ⟨hin, hwr, hT, hend⟩ := unhide HA1
  obtain ⟨hT2, hT3, hT4, hcl⟩ := unhide HA2
  obtain ⟨hkl, hgs⟩ := unhide HL
  have B2 := unhide HB2
  have hSb := unhide HSb
  have hel : (X.l.eraseIdx k).length = X.l.length - 1 := List.length_eraseIdx_of_lt hkl
  have hTs : ∀ q, T q → q < w2.heap.size := fun q hq => by have := (hT q hq).1.2; omega
  have lf := LOw.left trailO_keeps (n := 4) (by omega) hcl hkl (by omega) (fun i q h => (hT2 i q h).1) hTs hT3 hT4 hb3 hnb (by rw [hel]; exact hwr3) hin3 (X.l.length - 1)
  rw [hel] at lf
  have tt := Turn.set w3 ⟨g0, j * 2 + 1, none⟩ (.slice (some ⟨nb, 0, none⟩) (X.l.length - 1) (X.l.length - 1))
  have lf4 := lf.turn trailO_keeps tt (fun q hq e => by
    have e2 : q = g0 := e
    rcases hq with hq | hq
    · exact (hT q hq).2 e2
    · have := hq.1; omega)
  have hsz : (w3.setCell ⟨g0, j * 2 + 1, none⟩ (.slice (some ⟨nb, 0, none⟩) (X.l.length - 1) (X.l.length - 1))).heap.size = w3.heap.size := by simp [World.setCell]
  have hz3 := hb3.size
  refine ⟨_, rfl, ?_, ?_⟩
  · rw [unhide HDI]
    refine (LOw.imp stripeC_own (hend (w3.setCell ⟨g0, j * 2 + 1, none⟩ (.slice (some ⟨nb, 0, none⟩) (X.l.length - 1) (X.l.length - 1))) (fun q => T q ∨ Within w2.heap.size w3.heap.size q) [.int .i64 X.held, .slice (some ⟨nb, 0, none⟩) (X.l.length - 1) (X.l.length - 1)] (dropS X k) ?_ ?_ ?_ ?_ ?_ ?_)).widens (fun q hq => ?_)
    · exact ((Below.turn hb3).mono (fun q h => False.elim h)).trans (tt.mono (fun q h => .inl h))
    · exact fun q hq => hq.imp (fun h => h) (fun h => ⟨h.1, by rw [hsz]; exact h.2⟩)
    · refine ⟨nb, ?_, ?_⟩
      · show _ = [Value.int .i64 X.held, .slice (some ⟨nb, 0, none⟩) (X.l.eraseIdx k).length (X.l.eraseIdx k).length]
        rw [hel]
      · show LOw 4 trailO _ _ (.slice (some ⟨nb, 0, none⟩) (X.l.eraseIdx k).length (X.l.eraseIdx k).length) (X.l.eraseIdx k)
        rw [hel]
        exact lf4
    · intro i u hu
      match i, hu with
      | 0, hu =>
        rw [World.cell?_setCell_other _ _ _ _ (fun e => by injection e with e1 e2; omega), hb3.cell (p := ⟨g0, 0 + j * 2 + 0, none⟩) hg0s]
        exact hin 0 u hu
      | 1, hu =>
        rw [show 0 + j * 2 + 1 = j * 2 + 1 by omega, World.cell?_setCell_same' _ _ _ (by rw [c2]; rfl)]
        exact hu
    · intro q hq
      rw [World.cell?_setCell_other _ _ _ _ (fun e => by injection e with e1 e2; omega), hb3.cell (p := ⟨g0, q, none⟩) hg0s]
    · exact (hwr.keep hb3).set _ _
    · rw [hsz] at hq ⊢
      rcases hq with hq | hq
      · exact ⟨hq.1, by have := hq.2; omega⟩
      · exact ⟨by have := hq.1; omega, hq.2⟩
  · exact (bthen B2 hb3).trans (tt.belowFrom (bthen B2 hb3).size (fun q e => by have e2 : q = g0 := e; have := hSb.1; omega))
end Go.Proofs.Ytnlacjedamngkaa
namespace Go.Proofs.Ytnlacjedamngkaa
open Go.ChangeShapes Go.WideShapes Go.ChangeAt Go.RowKit
set_option linter.unusedVariables false
set_option maxRecDepth 100000

variable {α : Type} {N : Nat} {C : World → (Nat → Prop) → List Value → α → Prop} {t : TypeId} {base : Nat}
theorem GrowX.base0 {w : World} {v : Value} {l : List α} {css : List (List Value)} {T : Nat → Nat → Prop} (h : GrowX N C t base w v l css T) : GrowX N C t 0 w v l css T :=
  ⟨⟨h.row.1, h.row.2.imp id (fun ⟨g, cap, cur, hv, hg, rest⟩ => ⟨g, cap, cur, hv, Nat.zero_le _, rest⟩)⟩, h.len, fun i k hk => ⟨Nat.zero_le _, (h.off i k hk).2⟩, h.one, h.has⟩
theorem GrowX.keepU (hC : Keeps C) {w w' : World} {v : Value} {l : List α} {css : List (List Value)} {T : Nat → Nat → Prop} (h : GrowX N C t base w v l css T) {U : Nat → Prop} (hb : Turn U w w') (h1 : ∀ i k, T i k → ¬ U k) (h2 : ∀ k, v.ownBlock = some k → ¬ U k) : GrowX N C t base w' v l css T := by
  refine ⟨⟨h.row.1, ?_⟩, h.len, fun i k hk => ⟨(h.off i k hk).1, Nat.lt_of_lt_of_le (h.off i k hk).2.1 hb.size, (h.off i k hk).2.2⟩, h.one, fun i x hx => ?_⟩
  · rcases h.row.2 with h0 | ⟨g, cap, cur, hv, hg, hh, rest⟩
    · exact .inl h0
    · have hlt : g < w.heap.size := (Array.getElem?_eq_some_iff.1 hh).1
      exact .inr ⟨g, cap, cur, hv, hg, by rw [hb.2.2.2.2 g hlt (h2 g (by rw [hv]; rfl))]; exact hh, rest⟩
  · obtain ⟨cs, g1, g2, g3⟩ := h.has i x hx
    exact ⟨cs, g1, hC w w' _ _ cs x hb (fun k hk => h1 i k hk) g2, g3⟩
theorem GrowX.len63 {w : World} {v : Value} {l : List α} {css : List (List Value)} {T : Nat → Nat → Prop} (h : GrowX N C t base w v l css T) : l.length ≤ 9223372036854775807 := by
  rcases h.row.2 with ⟨_, h0⟩ | ⟨g, cap, cur, hv, hg, hh, hc, hm, _⟩
  · omega
  · unfold maxLen at hm; omega
theorem GrowX.doneS {w : World} {v : Value} {l : List α} {css : List (List Value)} {T : Nat → Nat → Prop} (h : GrowX N C t base w v l css T) {S : Nat → Prop} (hS1 : ∀ i k, T i k → S k) (hS2 : ∀ k, v.ownBlock = some k → S k) : LOw N C w S v l := by
  have hl := h.len63
  have hall := h.all
  obtain ⟨h1, h2⟩ := h.row
  rcases h2 with ⟨rfl, h0⟩ | ⟨g, cap, cur, rfl, hg, hh, hc, hm, hs, ht⟩
  · obtain rfl := List.length_eq_zero_iff.1 h0
    exact LOw.nil _ _ _ _ _ _
  · have hlt : g < w.heap.size := (Array.getElem?_eq_some_iff.1 hh).1
    have how : w.ownsRow base t N (.slice (some ⟨g, 0, none⟩) l.length cap) l.length css.flatten := ⟨h1, .inr ⟨g, cap, cur, rfl, hg, hh, hc, hm, hs, ht⟩⟩
    have hcell : ∀ j, j < l.length * N → w.cell? ⟨g, j, none⟩ = css.flatten[j]? := fun j hj => how.cellAt j hj
    refine ⟨_, cap, rfl, hl, .inr ⟨g, 0, T, rfl, hS2 g rfl, ⟨hlt, fun j hj => ⟨?_, ?_⟩⟩, fun i k hk => ⟨hS1 i k hk, fun e => (h.off i k hk).2.2 (by rw [e]; rfl)⟩, h.one, fun i x hx => ?_⟩⟩
    · rw [Nat.zero_add, hcell j hj, List.getElem?_eq_getElem (by rw [h1]; exact hj)]; rfl
    · rw [Nat.zero_add]; exact how.frozenAt j
    · obtain ⟨cs, g1, g2, g3⟩ := h.has i x hx
      refine ⟨cs, g2, fun j u hu => ?_⟩
      have hj : j < N := by rw [← g3]; exact (List.getElem?_eq_some_iff.1 hu).1
      have hi : i < l.length := (List.getElem?_eq_some_iff.1 hx).1
      have hlt2 : i * N + j < l.length * N := by
        have : (i + 1) * N ≤ l.length * N := Nat.mul_le_mul_right N (by omega)
        rw [Nat.succ_mul] at this
        omega
      rw [Nat.zero_add, hcell _ hlt2, flat_at css i j hall hj, g1]
      exact hu
theorem flat_take {css : List (List Value)} (h : ∀ cs ∈ css, cs.length = N) (k : Nat) : css.flatten.take (k * N) = (css.take k).flatten := by
  induction k generalizing css with
  | zero => simp
  | succ k ih =>
    cases css with
    | nil => simp
    | cons c r =>
      have hc := h c (List.mem_cons_self ..)
      have hr := ih (css := r) (fun cs hcs => h cs (List.mem_cons_of_mem _ hcs))
      rw [List.flatten_cons, List.take_succ_cons, List.flatten_cons, Nat.succ_mul, List.take_append, hc, List.take_of_length_le (by omega), show k * N + N - N = k * N by omega, hr]
theorem flat_drop {css : List (List Value)} (h : ∀ cs ∈ css, cs.length = N) (k : Nat) : css.flatten.drop (k * N) = (css.drop k).flatten := by
  induction k generalizing css with
  | zero => simp
  | succ k ih =>
    cases css with
    | nil => simp
    | cons c r =>
      have hc := h c (List.mem_cons_self ..)
      have hr := ih (css := r) (fun cs hcs => h cs (List.mem_cons_of_mem _ hcs))
      rw [List.flatten_cons, List.drop_succ_cons, Nat.succ_mul, List.drop_append, hc, List.drop_of_length_le (by omega), show k * N + N - N = k * N by omega, hr, List.nil_append]
/-- The front of a row that a list was grown in. -/
theorem owns_front {w : World} {e : TypeId} {n cap k : Nat} {a : Option Addr} {xs : List Value} (h : w.ownsRow base e N (.slice a n cap) n xs) (hk : k ≤ n) (ha : a ≠ none) : w.ownsRow base e N (.slice a k cap) k (xs.take (k * N)) := by
  obtain ⟨h1, h2⟩ := h
  have hle : k * N ≤ n * N := Nat.mul_le_mul_right N hk
  refine ⟨by rw [List.length_take]; omega, ?_⟩
  rcases h2 with ⟨h0, _⟩ | ⟨g, cap2, cur, hv, hg, hh, hc, hm, hs, ht⟩
  · injection h0 with h0; exact absurd h0 ha
  · injection hv with e1 e2 e3
    subst e1
    subst e3
    exact .inr ⟨g, cap, cur, rfl, hg, hh, by omega, hm, hs, by rw [← ht, List.take_take, Nat.min_eq_left hle]⟩
theorem GrowX.erase (hC : Keeps C) {w w' : World} {v v' : Value} {l : List α} {css : List (List Value)} {T : Nat → Nat → Prop} (h : GrowX N C t base w v l css T) {k : Nat} (hk : k < l.length)
    (how : w'.ownsRow base t N v' (l.length - 1) ((css.eraseIdx k).flatten)) (hg : w.grownBy w' v.ownBlock) (hv : v'.ownBlock = v.ownBlock ∨ v'.ownBlock = some w.heap.size) : GrowX N C t base w' v' (l.eraseIdx k) (css.eraseIdx k) (fun i => T (if i < k then i else i + 1)) := by
  have hl := List.length_eraseIdx_of_lt hk
  have hcl := List.length_eraseIdx_of_lt (i := k) (l := css) (by rw [h.len]; exact hk)
  have ht := grown_turn hg
  refine ⟨by rw [hl]; exact how, by rw [hcl, hl, h.len], fun i j hj => ?_, fun i1 i2 j h1 h2 => ?_, fun i x hx => ?_⟩
  · obtain ⟨h1, h2, h3⟩ := h.off _ j hj
    refine ⟨h1, Nat.lt_of_lt_of_le h2 ht.size, fun e => ?_⟩
    rcases hv with hv | hv
    · rw [hv] at e; exact h3 e
    · rw [hv, Option.some.injEq] at e; omega
  · have := h.one _ _ j h1 h2
    split at this <;> split at this <;> omega
  · rw [List.getElem?_eraseIdx] at hx
    have hx2 : l[if i < k then i else i + 1]? = some x := by split at hx <;> split <;> first | assumption | contradiction
    obtain ⟨cs, g1, g2, g3⟩ := h.has _ x hx2
    refine ⟨cs, ?_, ?_, g3⟩
    · rw [List.getElem?_eraseIdx]
      split at g1 <;> split <;> first | assumption | contradiction
    · exact hC _ _ _ _ _ _ ht (fun j hj e => (h.off _ j hj).2.2 e) g2
end Go.Proofs.Ytnlacjedamngkaa
namespace Go.Proofs.Ytnlacjedamngkaa
open Go.ChangeShapes Go.WideShapes Go.ChangeAt Go.RowKit
set_option linter.unusedVariables false
set_option maxRecDepth 100000

def stripeK (w : World) (S : Nat → Prop) (cs : List Value) (x : StripeD) : Prop := ∃ v css T, cs = [.int .i64 x.held, v] ∧ GrowX 4 trailO 50 0 w v x.l css T ∧ (∀ i k, T i k → S k) ∧ (∀ k, v.ownBlock = some k → S k)
theorem stripeK_keeps : Keeps stripeK := by
  intro w w' S U cs x ht hd h
  obtain ⟨v, css, T, e, g, h1, h2⟩ := h
  exact ⟨v, css, T, e, g.keepU trailO_keeps ht (fun i k hk => hd k (h1 i k hk)) (fun k hk => hd k (h2 k hk)), h1, h2⟩
theorem stripeK_read (w : World) (S : Nat → Prop) (cs : List Value) (x : StripeD) (h : stripeK w S cs x) : stripeR w S cs x := by
  obtain ⟨v, css, T, e, g, h1, h2⟩ := h
  exact ⟨v, e, (g.doneS h1 h2).read trailR_widens trailO_read⟩
theorem stripeK_len {w : World} {S : Nat → Prop} {cs : List Value} {x : StripeD} (h : stripeK w S cs x) : cs.length = 2 := by
  obtain ⟨v, css, T, rfl, _⟩ := h
  rfl
theorem stripeK_of {w : World} {base : Nat} {v : Value} {X : StripeD} (h : GrowL 4 trailO 50 base w v X.l) : stripeK w (Within base w.heap.size) [.int .i64 X.held, v] X := by
  obtain ⟨css, T, g⟩ := h
  exact ⟨v, css, T, rfl, g.base0, fun i k hk => ⟨(g.off i k hk).1, (g.off i k hk).2.1⟩, fun k hk => g.row.lt k hk⟩
theorem GrowL.form {α : Type} {N : Nat} {C : World → (Nat → Prop) → List Value → α → Prop} {t : TypeId} {base : Nat} {w : World} {v : Value} {l : List α} (h : GrowL N C t base w v l) : ∃ a cap, v = .slice a l.length cap := by
  obtain ⟨css, T, g⟩ := h
  rcases g.row.2 with ⟨rfl, h0⟩ | ⟨b, cap, cur, rfl, _⟩
  · exact ⟨none, 0, by rw [h0]⟩
  · exact ⟨_, cap, rfl⟩
theorem plainTrailsK : PlainT Try.prog 36 := fun w a v h => by simp [loadVar, go_sem, h]
theorem wpo_appendK {P : Program} {w : World} {o : Oper} {a : Act} {K : Act → World → Prop} {Q : Exit → Act → World → Prop} {s x : Operand} {t : TypeId} {v u v' : Value} {w' : World} (ho : o.op = .call { callee := .builtin .append, args := #[s, x], argTypes := #[t, t] })
    (hs : a.eval s = v) (hx : a.eval x = u) (hr : (Builtin.append_ #[t, t] o.type #[v, u]).run P w = .ok v' w') (h : K (a.put o.dst v') w') : Oper.wp P o a w K Q := by
  unfold Oper.wp execOp
  simp only [ho, resolve, invoke, builtin, Sem.run_bind, Sem.run_pure, Result.andThen_ok, List.map_toArray, List.map_cons, List.map_nil, hs, hx, hr]
  exact h
set_option maxHeartbeats 2000000 in
theorem specL11CopyK (l : List StripeD) (S : Nat → Prop) (v : Value) (w : World) (h0 : LAt 2 stripeR w S v l) (b0 : bulkL stripeBulk l ≤ 1048576) :
    Calls Try.prog 42 #[v] w fun e w' => ∃ v', e = .returned v' ∧ LOw 2 stripeK w' (Within w.heap.size w'.heap.size) v' l ∧ Below w.heap.size w w' := by
  obtain ⟨a, cap, rfl⟩ := h0.form
  have hl := bulkL_len stripeBulk l
  have HA := hide h0
  clear h0
  have hst := hide (GrowL.start (α := StripeD) (N := 2) (C := stripeK) (t := 68) (Nat.le_refl w.heap.size))
  have hb0 := hide (bnew w (.cells #[] 68))
  have hml : (1048577 : Nat) ≤ maxLen := by unfold maxLen; omega
  go_enter Try.func42, Try.ntmps42
  go_wp2
  go_loopw [3, 4] (fun o i wk => ∃ k : Nat, k ≤ l.length ∧ i = .int .i64 k ∧ Hid (GrowL 2 stripeK 68 w.heap.size wk o (l.take k)) ∧ Below w.heap.size w wk) (fun _ i _ => l.length - (intOf i).toNat)
  case atStart => exact ⟨0, Nat.zero_le _, rfl, hst, unhide hb0⟩
  case round =>
    obtain ⟨k, hk, rfl, hgr, hbl⟩ := hrel
    have hpre : (l.take k).length ≤ k := by rw [List.length_take]; omega
    have hbs := hbl.size
    clear hst hb0
    by_cases hlt : k < l.length
    · have hki : (k : Int) < (l.length : Int) := by omega
      have hk0 : (0 : Int) ≤ (k : Int) := by omega
      obtain ⟨b, oo, cs, rfl, hbk, hSb, hcs, hin⟩ := (unhide HA).at k hlt
      have hXb : bulkL trailBulk l[k].l ≤ 1048576 := by have := bulkL_mem stripeBulk (List.getElem_mem hlt); unfold stripeBulk at this; unfold stripeBulk at hl b0; omega
      have HS := hide (List.take_succ_eq_append_getElem hlt)
      generalize l[k] = X at *
      obtain ⟨s1, rfl, g1⟩ := hcs
      obtain ⟨a1, k1, rfl⟩ := g1.form
      have q0 : w.cell? ⟨b, oo + k * 2, none⟩ = some (.int .i64 X.held) := hin 0 _ rfl
      have q1 : w.cell? ⟨b, oo + k * 2 + 1, none⟩ = some (.slice a1 X.l.length k1) := hin 1 _ rfl
      obtain ⟨css, T, gx⟩ := unhide hgr
      generalize hTK : l.take k = TK at *
      have HG := hide g1
      clear hTK hin hgr g1
      have hbd : Below wr.heap.size wr wr.drew := Below.drew (Below.refl _ _)
      have HX := hide (And.intro gx (And.intro hbl hbd))
      have hb5 := hbl.drew
      clear gx hbl hbd
      go_upto_region 5 with fail
      refine wp_region_held_drew (S := fun w' => Below w.heap.size w w') (by kernel_rfl) hb5 (fun hHeld => ?_)
      refine wpAnyH_take (i := 0) (oi := ?oo1) (v := ?vv1) ?hi1 (by kernel_rfl) (by kernel_rfl) (by kernel_rfl) ?hQ1 ?hy1 (by assumption) ?rest1
      case hi1 => (simp only [List.getElem?_toArray, List.getElem?_cons_zero]; rfl)
      case hQ1 => exact fun _ _ _ h => h
      case hy1 => exact Or.inl ⟨by rfl, by intro wS hSw; (try dsimp only at hSw); go_simp; try first | (with_reducible rfl) | (simp only [*]; done) | omega⟩
      try simp only [Act.put, List.setIfInBounds_toArray, List.set_cons_zero, List.set_cons_succ]
      refine wpAnyH_take (i := 1) (oi := ?oo2) (v := ?vv2) ?hi2 (by kernel_rfl) (by kernel_rfl) (by kernel_rfl) ?hQ2 ?hy2 (by assumption) ?rest2
      case hi2 => (simp only [List.getElem?_toArray, List.getElem?_cons_zero, List.getElem?_cons_succ]; rfl)
      case hQ2 => exact fun _ _ _ h => h
      case hy2 => exact Or.inl ⟨by rfl, by intro wS hSw; (try dsimp only at hSw); go_simp; try first | (with_reducible rfl) | (simp only [*]; done) | omega⟩
      try simp only [Act.put, List.setIfInBounds_toArray, List.set_cons_zero, List.set_cons_succ]
      refine wpAnyH_take (i := 2) (oi := ?oo3) (v := ?vv3) ?hi3 (by kernel_rfl) (by kernel_rfl) (by kernel_rfl) ?hQ3 ?hy3 (by assumption) ?rest3
      case hi3 => (simp only [List.getElem?_toArray, List.getElem?_cons_zero, List.getElem?_cons_succ]; rfl)
      case hQ3 => exact fun _ _ _ h => h
      case hy3 => exact Or.inl ⟨by rfl, by intro wS hSw; (try dsimp only at hSw); go_simp; try first | (with_reducible rfl) | (simp only [*]; done) | omega⟩
      try simp only [Act.put, List.setIfInBounds_toArray, List.set_cons_zero, List.set_cons_succ]
      refine wpAnyH_take (i := 3) (oi := ?oo4) (v := ?vv4) ?hi4 (by kernel_rfl) (by kernel_rfl) (by kernel_rfl) ?hQ4 ?hy4 (by assumption) ?rest4
      case hi4 => (simp only [List.getElem?_toArray, List.getElem?_cons_zero, List.getElem?_cons_succ]; rfl)
      case hQ4 => exact fun _ _ _ h => h
      case hy4 => exact Or.inl ⟨by rfl, by intro wS hSw; (try dsimp only at hSw); go_simp; try first | (with_reducible rfl) | (simp only [*]; done) | omega⟩
      try simp only [Act.put, List.setIfInBounds_toArray, List.set_cons_zero, List.set_cons_succ]
      refine wpAnyH_take (i := 4) (oi := ?oo5) (v := ?vv5) ?hi5 (by kernel_rfl) (by kernel_rfl) (by kernel_rfl) ?hQ5 ?hy5 (by assumption) ?rest5
      case hi5 => (simp only [List.getElem?_toArray, List.getElem?_cons_zero, List.getElem?_cons_succ]; rfl)
      case hQ5 => exact fun _ _ _ h => h
      case hy5 => exact Or.inl ⟨by rfl, by intro wS hSw; (try dsimp only at hSw); go_simp; try first | (with_reducible rfl) | (simp only [*]; done) | omega⟩
      try simp only [Act.put, List.setIfInBounds_toArray, List.set_cons_zero, List.set_cons_succ]
      refine wpAnyH_take (i := 5) (oi := ?oo6) (v := .int .i64 X.held) ?hi6 (by kernel_rfl) (by kernel_rfl) (by kernel_rfl) ?hQ6 ?hy6 (by assumption) ?rest6
      case hi6 => (simp only [List.getElem?_toArray, List.getElem?_cons_zero, List.getElem?_cons_succ]; rfl)
      case hQ6 => exact fun _ _ _ h => h
      case hy6 => exact yld_cell (by rfl) 3 _ rfl b (oo + k * 2) rfl _ (fun w' hS => (hS.cell (p := ⟨b, oo + k * 2, none⟩) hbk).trans q0) plainInt
      try simp only [Act.put, List.setIfInBounds_toArray, List.set_cons_zero, List.set_cons_succ]
      refine wpAnyH_take (i := 6) (oi := ?oo7) (v := ?vv7) ?hi7 (by kernel_rfl) (by kernel_rfl) (by kernel_rfl) ?hQ7 ?hy7 (by assumption) ?rest7
      case hi7 => (simp only [List.getElem?_toArray, List.getElem?_cons_zero, List.getElem?_cons_succ]; rfl)
      case hQ7 => exact fun _ _ _ h => h
      case hy7 => exact Or.inl ⟨by rfl, by intro wS hSw; (try dsimp only at hSw); go_simp; try first | (with_reducible rfl) | (simp only [*]; done) | omega⟩
      try simp only [Act.put, List.setIfInBounds_toArray, List.set_cons_zero, List.set_cons_succ]
      refine wpAnyH_take (i := 7) (oi := ?oo8) (v := ?vv8) ?hi8 (by kernel_rfl) (by kernel_rfl) (by kernel_rfl) ?hQ8 ?hy8 (by assumption) ?rest8
      case hi8 => (simp only [List.getElem?_toArray, List.getElem?_cons_zero, List.getElem?_cons_succ]; rfl)
      case hQ8 => exact fun _ _ _ h => h
      case hy8 => exact Or.inl ⟨by rfl, by intro wS hSw; (try dsimp only at hSw); go_simp; try first | (with_reducible rfl) | (simp only [*]; done) | omega⟩
      try simp only [Act.put, List.setIfInBounds_toArray, List.set_cons_zero, List.set_cons_succ]
      refine wpAnyH_take (i := 8) (oi := ?oo9) (v := ?vv9) ?hi9 (by kernel_rfl) (by kernel_rfl) (by kernel_rfl) ?hQ9 ?hy9 (by assumption) ?rest9
      case hi9 => (simp only [List.getElem?_toArray, List.getElem?_cons_zero, List.getElem?_cons_succ]; rfl)
      case hQ9 => exact fun _ _ _ h => h
      case hy9 => exact Or.inl ⟨by rfl, by intro wS hSw; (try dsimp only at hSw); go_simp; try first | (with_reducible rfl) | (simp only [*]; done) | omega⟩
      try simp only [Act.put, List.setIfInBounds_toArray, List.set_cons_zero, List.set_cons_succ]
      refine wpAnyH_take (i := 9) (oi := ?oo10) (v := ?vv10) ?hi10 (by kernel_rfl) (by kernel_rfl) (by kernel_rfl) ?hQ10 ?hy10 (by assumption) ?rest10
      case hi10 => (simp only [List.getElem?_toArray, List.getElem?_cons_zero, List.getElem?_cons_succ]; rfl)
      case hQ10 => exact fun _ _ _ h => h
      case hy10 => exact Or.inl ⟨by rfl, by intro wS hSw; (try dsimp only at hSw); go_simp; try first | (with_reducible rfl) | (simp only [*]; done) | omega⟩
      try simp only [Act.put, List.setIfInBounds_toArray, List.set_cons_zero, List.set_cons_succ]
      refine wpAnyH_take (i := 10) (oi := ?oo11) (v := .slice a1 X.l.length k1) ?hi11 (by kernel_rfl) (by kernel_rfl) (by kernel_rfl) ?hQ11 ?hy11 (by assumption) ?rest11
      case hi11 => (simp only [List.getElem?_toArray, List.getElem?_cons_zero, List.getElem?_cons_succ]; rfl)
      case hQ11 => exact fun _ _ _ h => h
      case hy11 => exact yld_cell (by rfl) 36 _ rfl b (oo + k * 2 + 1) rfl _ (fun w' hS => (hS.cell (p := ⟨b, oo + k * 2 + 1, none⟩) hbk).trans q1) plainTrailsK
      try simp only [Act.put, List.setIfInBounds_toArray, List.set_cons_zero, List.set_cons_succ]
      refine wpAnyH_ready (rs := [11]) (by kernel_rfl) (by simp) ?_
      refine (AllReadyH.cons (o := ?bo12n11) ?bh12n11 (fun K hK => ?br12n11) AllReadyH.nil)
      case bh12n11 => (simp only [List.getElem?_toArray, List.getElem?_cons_zero, List.getElem?_cons_succ]; rfl)
      case br12n11 =>
        go_simp
        refine (specL10AllG X.l S _ _ ((unhide HG).keep trailR_keeps hHeld) hXb).mono ?_
        rintro e w2 ⟨v2, rfl, y, hb2⟩
        obtain ⟨a2, k2, rfl⟩ := y.form
        obtain ⟨gx, hbl, hbd⟩ := unhide HX
        have hbw := bthen hbd hb2
        have hb3 := bnew w2 (.cells #[.int .i64 X.held, .slice a2 X.l.length k2] 68)
        have hb4 := bthen hbw hb3
        have hrow := (gx.keep stripeK_keeps hb4).row
        have hwz := hbw.size
        have h3z := hb3.size
        have hdz := hbd.size
        obtain ⟨i0, hi, hz0, hz1, hz2⟩ := info_parts mInfoStripe
        obtain ⟨v3, w3, hr, how, hg, hv⟩ := run_append2 (P := Try.prog) (w2.alloc (.cells #[.int .i64 X.held, .slice a2 X.l.length k2] 68)) w.heap.size 24 24 68 i0 _ 2 32 Try.underlying24 hi hz0 hz1 hz2 rfl (by decide) _ _ _ hrow ⟨w2.heap.size, 0, none⟩ 1 1 [.int .i64 X.held, .slice a2 X.l.length k2] rfl (lit_cells2 w2 [.int .i64 X.held, .slice a2 X.l.length k2] 68) (by intro u hu; simp at hu; rcases hu with rfl | rfl <;> rfl) (by omega) (by omega) (by omega)
        have yy3 : stripeK (w2.alloc (.cells #[.int .i64 X.held, .slice a2 X.l.length k2] 68)) (Within wr.drew.heap.size w2.heap.size) [.int .i64 X.held, .slice a2 X.l.length k2] X := stripeK_keeps _ _ _ None1 _ _ (Below.turn hb3) none_off (stripeK_of y)
        have st1 := GrowX.step stripeK_keeps gx hbs hb4 yy3 (fun k hk => ⟨Nat.le_trans hdz hk.1, Nat.lt_of_lt_of_le hk.2 h3z⟩) rfl how hg (by rcases hv with h | h; exact .inl h; exact .inr (by rw [h]; try simp))
        have bl1 := grown_below (bthen hbl hb4) hg (fun k hk => (gx.row.lt k hk).1) (by omega)
        have HST := hide (And.intro st1 bl1)
        have HB3 := hide (bthen hbl hb4)
        have hHw := bthen hHeld hb2
        clear gx hbl hbd hb2 hbw hb3 hb4 hrow y how hg hv yy3 st1 bl1 hHeld hi hz0 hz1 hz2 hwz h3z hdz
        go_wp2_with fail
        refine hK.out _ _ (hHw) (fun hHeld => ?_)
        clear hK
        refine wpAnyH_take (i := 12) (oi := ?oo13) (v := .agg #[.int .i64 X.held, .slice a2 X.l.length k2]) ?hi13 (by kernel_rfl) (by kernel_rfl) (by kernel_rfl) ?hQ13 ?hy13 (by assumption) ?rest13
        case hi13 => (simp only [List.getElem?_toArray, List.getElem?_cons_zero, List.getElem?_cons_succ]; rfl)
        case hQ13 => exact fun _ _ _ h => h
        case hy13 => exact Or.inl ⟨by rfl, by intro wS hSw; (try dsimp only at hSw); go_simp; try first | (with_reducible rfl) | (simp only [*]; done) | omega⟩
        try simp only [Act.put, List.setIfInBounds_toArray, List.set_cons_zero, List.set_cons_succ]
        refine wpAnyH_ready (rs := [13]) (by kernel_rfl) (by simp) ?_
        refine (AllReadyH.cons (o := ?bo14n13) ?bh14n13 (fun K hK => ?br14n13) AllReadyH.nil)
        case bh14n13 => (simp only [List.getElem?_toArray, List.getElem?_cons_zero, List.getElem?_cons_succ]; rfl)
        case br14n13 =>
          go_simp
          refine hK.out _ _ ((unhide HB3)) (fun hHeld => ?_)
          clear hK
          refine wpAnyH_ready (rs := [14]) (by kernel_rfl) (by simp) ?_
          refine (AllReadyH.cons (o := ?bo15n14) ?bh15n14 (fun K hK => ?br15n14) AllReadyH.nil)
          case bh15n14 => (simp only [List.getElem?_toArray, List.getElem?_cons_zero, List.getElem?_cons_succ]; rfl)
          case br15n14 =>
            refine wpo_appendK (s := .tmp 12) (x := .tmp 25) (t := 24) (by rfl) (by rfl) (by rfl) hr ?_
            refine hK.out _ _ ((unhide HST).2) (fun hHeld => ?_)
            clear hK
            refine wpAnyH_take (i := 15) (oi := ?oo16) (v := ?vv16) ?hi16 (by kernel_rfl) (by kernel_rfl) (by kernel_rfl) ?hQ16 ?hy16 (by assumption) ?rest16
            case hi16 => (simp only [List.getElem?_toArray, List.getElem?_cons_zero, List.getElem?_cons_succ]; rfl)
            case hQ16 => exact fun _ _ _ h => h
            case hy16 => exact Or.inl ⟨by rfl, by intro wS hSw; (try dsimp only at hSw); go_simp; try first | (with_reducible rfl) | (simp only [*]; done) | omega⟩
            try simp only [Act.put, List.setIfInBounds_toArray, List.set_cons_zero, List.set_cons_succ]
            refine wpAnyH_done (by kernel_rfl) ?_ _
            clear hHeld hr
            go_wp2
            go_roundw
            case rel => exact ⟨k + 1, by omega, by go_num, hide (by rw [unhide HS]; exact (unhide HST).1), (unhide HST).2⟩
            case measure => simp [intOf]; omega
    · have hki : ¬ (k : Int) < (l.length : Int) := by omega
      obtain rfl : k = l.length := by omega
      go_wp2
      go_ret
      have h := unhide hgr
      rw [List.take_length] at h
      exact ⟨_, rfl, h.done (by omega), hbl⟩
end Go.Proofs.Ytnlacjedamngkaa
namespace Go.Proofs.Ytnlacjedamngkaa
open Go.ChangeShapes Go.WideShapes Go.ChangeAt Go.RowKit
set_option linter.unusedVariables false
set_option maxRecDepth 100000

theorem stripeK_own (w : World) (S : Nat → Prop) (cs : List Value) (x : StripeD) (h : stripeK w S cs x) : stripeO w S cs x := by
  obtain ⟨v, css, T, e, g, h1, h2⟩ := h
  exact ⟨v, e, g.doneS h1 h2⟩
theorem row_form {w : World} {base : Nat} {e : TypeId} {N n : Nat} {v : Value} {xs : List Value} (h : w.ownsRow base e N v n xs) : ∃ a c, v = .slice a n c := by
  rcases h.2 with ⟨rfl, h0⟩ | ⟨g, cap, cur, rfl, _⟩
  · exact ⟨none, 0, by rw [h0]⟩
  · exact ⟨_, cap, rfl⟩
theorem wrap_succ {k n : Nat} (h : (k : Int) < (n : Int)) (hn : n ≤ 1048576) : IntKind.i64.wrap ((k : Int) + 1) = (k : Int) + 1 := by rw [IntKind.wrap_i64]; omega
/-- What stands behind the store: the stripe's list is the one without the trail, and all else is as it was. -/
theorem drop_fin {l : List StripeD} {id : Int} {w w1 w3 w4 : World} {a1 a4 : Option Addr} {k1 k4 j k b o g cx : Nat} {T : Nat → Prop} {X : StripeD} {css : List (List Value)} {T2 : Nat → Nat → Prop} (hj : j < l.length) (hkl : k < X.l.length) (hz1 : w.heap.size ≤ w1.heap.size) (hz3 : w1.heap.size ≤ w3.heap.size) (hbs : b < w3.drew.heap.size)
    (HDI : Hid (dropL l id = l.set j (dropS X k))) (HX : Hid (l[j] = X)) (HW : Hid (LOw 2 stripeK w1 (Within w.heap.size w1.heap.size) (.slice a1 l.length k1) l ∧ Below w.heap.size w w1)) (HB3 : Hid (Below w1.heap.size w1 w3)) (HBd : Hid (Below w3.heap.size w3 w3.drew))
    (HA1 : Hid (InB w3.drew b (o + j * 2) [.int .i64 X.held, .slice (some ⟨g, 0, none⟩) X.l.length cx] ∧ WrAt w3.drew b o (l.length * 2) ∧ (∀ q, T q → Within w.heap.size w1.heap.size q ∧ q ≠ b) ∧
      ∀ (w' : World) (U : Nat → Prop) (cs' : List Value) (x' : StripeD), Turn (fun k => k = b ∨ T k) w3.drew w' → (∀ k, U k → T k ∨ (w3.drew.heap.size ≤ k ∧ k < w'.heap.size)) → stripeK w' U cs' x' → InB w' b (o + j * 2) cs' →
        (∀ q, q < o + j * 2 ∨ o + j * 2 + 2 ≤ q → w'.cell? ⟨b, q, none⟩ = w3.drew.cell? ⟨b, q, none⟩) → WrAt w' b o (l.length * 2) →
        LOw 2 stripeK w' (fun k => Within w.heap.size w1.heap.size k ∨ (w3.drew.heap.size ≤ k ∧ k < w'.heap.size)) (.slice (some ⟨b, o, none⟩) l.length k1) (l.set j x')))
    (HA2 : Hid ((∀ i q, T2 i q → T q) ∧ (∀ q, (Value.slice (some ⟨g, 0, none⟩) X.l.length cx).ownBlock = some q → T q) ∧ (css.take k).flatten ++ (css.drop (k + 1)).flatten = (css.eraseIdx k).flatten))
    (HGX : Hid (GrowX 4 trailO 50 0 w3.drew (.slice (some ⟨g, 0, none⟩) X.l.length cx) X.l css T2)) (HSb : Hid (Within w.heap.size w1.heap.size b))
    (HG4 : Hid (w4.ownsRow 0 50 4 (.slice a4 (X.l.length - 1) k4) (X.l.length - 1) ((css.eraseIdx k).flatten) ∧ w3.drew.grownBy w4 (some g) ∧ ((Value.slice a4 (X.l.length - 1) k4).ownBlock = some g ∨ (Value.slice a4 (X.l.length - 1) k4).ownBlock = some w3.drew.heap.size)))
    (c4 : w4.cell? ⟨b, o + j * 2 + 1, none⟩ = some (.slice (some ⟨g, 0, none⟩) X.l.length cx)) :
    ∃ v', Ending.returned (.slice (some ⟨b, o, none⟩) l.length k1) = Ending.returned v' ∧ LOw 2 stripeO (w4.setCell ⟨b, o + j * 2 + 1, none⟩ (.slice a4 (X.l.length - 1) k4)) (Within w.heap.size (w4.setCell ⟨b, o + j * 2 + 1, none⟩ (.slice a4 (X.l.length - 1) k4)).heap.size) v' (dropL l id) ∧ Below w.heap.size w (w4.setCell ⟨b, o + j * 2 + 1, none⟩ (.slice a4 (X.l.length - 1) k4)) := by
  obtain ⟨hin, hwr, hT, hend⟩ := unhide HA1
  obtain ⟨hT2, hob, _⟩ := unhide HA2
  obtain ⟨how, hg4, hv4⟩ := unhide HG4
  have hdz := (unhide HBd).size
  have gx := unhide HGX
  have ht4 := grown_turn hg4
  have hz4 := ht4.size
  have hTg : T g := hob g rfl
  have hgb : g ≠ b := (hT g hTg).2
  have he := gx.erase trailO_keeps hkl how hg4 (by rcases hv4 with h | h; exact .inl h; exact .inr h)
  have tt := Turn.set w4 ⟨b, o + j * 2 + 1, none⟩ (.slice a4 (X.l.length - 1) k4)
  have hsz : (w4.setCell ⟨b, o + j * 2 + 1, none⟩ (.slice a4 (X.l.length - 1) k4)).heap.size = w4.heap.size := by simp [World.setCell]
  generalize hvv : Value.slice a4 (X.l.length - 1) k4 = vv at *
  have he5 := he.keepU trailO_keeps tt (fun i q hq e => (hT q (hT2 _ q hq)).2 e) (fun q hq e => by
    have e2 : q = b := e
    rcases hv4 with h | h
    · rw [h, Option.some.injEq] at hq; omega
    · rw [h, Option.some.injEq] at hq; omega)
  have t5 : Turn (fun q => q = b ∨ T q) w3.drew (w4.setCell ⟨b, o + j * 2 + 1, none⟩ vv) :=
    (ht4.mono (fun q e => .inr (by have e2 : some g = some q := e; rw [Option.some.injEq] at e2; rw [← e2]; exact hTg))).trans (tt.mono (fun q e => .inl e))
  have hSb := unhide HSb
  refine ⟨_, rfl, ?_, ?_⟩
  · rw [unhide HDI]
    have fin := hend (w4.setCell ⟨b, o + j * 2 + 1, none⟩ vv) (fun q => T q ∨ (w3.drew.heap.size ≤ q ∧ q < w4.heap.size)) [.int .i64 X.held, vv] (dropS X k) t5 (fun q hq => by rw [hsz]; exact hq) ⟨vv, _, _, rfl, he5, fun i q hq => .inl (hT2 _ q hq), fun q hq => by
      rcases hv4 with h | h
      · rw [h, Option.some.injEq] at hq; rw [← hq]; exact .inl hTg
      · right
        have hlt := (he.row.lt q hq).2
        rw [h, Option.some.injEq] at hq
        omega⟩ (by
      intro i u hu
      match i, hu with
      | 0, hu =>
        rw [World.cell?_setCell_other _ _ _ _ (fun e => by injection e with e1 e2; omega), ht4.cell (p := ⟨b, o + j * 2 + 0, none⟩) hbs (fun e => hgb (by injection e))]
        exact hin 0 u hu
      | 1, hu =>
        rw [World.cell?_setCell_same' _ _ _ (by rw [c4]; rfl)]
        exact hu) (fun q hq => by
      rw [World.cell?_setCell_other _ _ _ _ (fun e => by injection e with e1 e2; omega), ht4.cell (p := ⟨b, q, none⟩) hbs (fun e => hgb (by injection e))]) ((hwr.turn ht4 (fun e => hgb (by injection e))).set _ _)
    refine (fin.imp stripeK_own).widens (fun q hq => ?_)
    rw [hsz] at hq ⊢
    rcases hq with hq | hq
    · exact ⟨hq.1, by have := hq.2; omega⟩
    · exact ⟨by have := hq.1; omega, hq.2⟩
  · have b1 := bthen (bthen (unhide HW).2 (unhide HB3)) (unhide HBd)
    exact b1.trans (t5.belowFrom b1.size (fun q hq => by
      rcases hq with hq | hq
      · have := hSb.1; omega
      · exact (hT q hq).1.1))
set_option maxHeartbeats 2000000 in
theorem specDropTrail (l : List StripeD) (id : Int) (S : Nat → Prop) (v : Value) (w : World) (h0 : LAt 2 stripeR w S v l) (b0 : bulkL stripeBulk l ≤ 1048576) :
    Calls Try.prog 9 #[v, .int .i64 id] w fun e w' => ∃ v', e = .returned v' ∧ LOw 2 stripeO w' (Within w.heap.size w'.heap.size) v' (dropL l id) ∧ Below w.heap.size w w' := by
  have hl := bulkL_len stripeBulk l
  obtain ⟨aI, kI, rfl⟩ := h0.form
  have HC := hide (specL11CopyK l S _ w h0 b0)
  have H0 := hide h0
  clear h0
  go_enter Try.func9, Try.ntmps9
  go_wp2_with fail
  refine (unhide HC).mono ?_
  rintro e w1 ⟨v1, rfl, ow1, hb1⟩
  clear HC
  obtain ⟨a1, k1, rfl⟩ := ow1.form
  have hz1 := hb1.size
  have HA := hide ((unhide H0).keep stripeR_keeps hb1)
  have HW := hide (And.intro ow1 hb1)
  clear ow1 hb1 H0
  by_cases hn : l.length = 0
  · have HNO := hide (drop_no (l := l) (id := id) (by rw [at_nil l id hn]; omega))
    have q : ((l.length : Int) == 0) = true := by simp [hn]
    clear hn
    go_wp2
    go_ret
    exact ⟨_, rfl, by rw [unhide HNO]; exact (unhide HW).1.imp stripeK_own, (unhide HW).2⟩
  have q : ((l.length : Int) == 0) = false := by simpa using hn
  obtain ⟨j, hj, hje⟩ := stripe_in2 id l.length (by omega)
  have hTA := at_is l id j hj hje
  have hc := specStripeOf id l.length w1
  rw [hje] at hc
  have hbl := stripe_bulk_l hj b0
  have hxl := bulkL_len trailBulk l[j].l
  have hSA : stripeAt l id = (j : Int) := by rw [stripeAt, if_neg hn, hje]
  have hPA : placeAt l id = atID l[j].l id := by rw [placeAt, hTA]
  have HDI := hide (fun (k : Nat) (hk : atID l[j].l id = (k : Int)) => drop_is hSA (hPA.trans hk) hj)
  have HNO := hide (fun (hk : atID l[j].l id < 0) => drop_no (hPA.symm ▸ hk))
  have HSW := hide ((unhide HW).1)
  obtain ⟨bI, oI, csI, rfl, hbkI, hSbI, hcsI, hinI⟩ := (unhide HA).at j hj
  have HCS := hide hc
  have hji : (j : Int) < (l.length : Int) := by omega
  have hj0 : ¬ (j : Int) < 0 := by omega
  have hj1 : (0 : Int) ≤ (j : Int) := by omega
  have HJ := hide hj
  generalize hX : l[j] = X at *
  have HX := hide hX
  clear hX
  obtain ⟨a2, k2, z2, g2⟩ := stripeR_c1 hcsI
  have c1 : w1.cell? ⟨bI, oI + j * 2 + 1, none⟩ = some (.slice a2 X.l.length k2) := hinI 1 _ z2
  have HT := hide (specTrailAt X.l id S _ w1 g2 hbl)
  clear hTA hc hn hje z2 hinI hcsI g2 HA hSA hPA hj
  go_wp2_with fail
  refine (unhide HCS).mono ?_
  rintro e w1' ⟨rfl, hw1⟩
  obtain rfl := hw1
  go_wp2_with fail
  refine (unhide HT).mono ?_
  rintro e w3 ⟨rfl, hb3⟩
  have hz3 := hb3.size
  have HB3 := hide hb3
  clear hb3 c1 HT HCS
  by_cases hk : atID X.l id < 0
  · have HNO2 := hide (unhide HNO hk)
    clear HNO
    have hk2 : ¬ (0 : Int) ≤ atID X.l id := by omega
    generalize atID X.l id = pl at *
    clear HDI
    go_wp2
    go_ret
    exact ⟨_, rfl, by rw [unhide HNO2]; exact (((unhide HW).1.imp stripeK_own).keep stripeO_keeps (unhide HB3)).widens (fun k hk => ⟨hk.1, by have := hk.2; omega⟩), bthen (unhide HW).2 (unhide HB3)⟩
  obtain ⟨k, hkl, hke⟩ := idx_is (p := fun x : TrailD => decide (x.id = id)) (l := X.l) hk
  have hke : atID X.l id = (k : Int) := hke
  have HDI2 := hide (unhide HDI k hke)
  rw [hke]
  clear hk HNO hke HDI
  have hk0 : (0 : Int) ≤ (k : Int) := by omega
  have hbd : Below w3.heap.size w3 w3.drew := Below.drew (Below.refl _ _)
  have ow3 := ((unhide HW).1.keep stripeK_keeps (unhide HB3)).keep stripeK_keeps hbd
  have hj := unhide HJ
  obtain ⟨b, o, cap, T, cs, hv, hc, hin, hwr, hSb, hT, hend⟩ := ow3.swap stripeK_keeps (fun _ _ _ _ h => stripeK_len h) (fun k hk => by have := hk.2; have := hbd.size; omega) hj
  replace hc := Eq.mp (congrArg (stripeK w3.drew T cs) (unhide HX)) hc
  injection hv with hv1 hv2 hv3
  subst hv1
  obtain ⟨vx, css, T2, rfl, gx, hT2, hob⟩ := hc
  have hnx : vx ≠ .slice none 0 0 := fun e => by
    rcases gx.row.2 with ⟨_, h0⟩ | ⟨g, cap, cur, hv, _⟩
    · omega
    · rw [e] at hv; injection hv with hv; cases hv
  obtain ⟨g, cx, rfl, hkc, hcm⟩ : ∃ g cx, vx = .slice (some ⟨g, 0, none⟩) X.l.length cx ∧ X.l.length ≤ cx ∧ cx ≤ maxLen := by
    rcases gx.row.2 with ⟨h0, _⟩ | ⟨g, cap, cur, hv, hg, hh, hc, hm, _⟩
    · exact absurd h0 hnx
    · exact ⟨g, cap, hv, hc, hm⟩
  clear hnx
  have hgb : g ≠ b := fun e => (hT g (hob g rfl)).2 e
  have c1 : w3.drew.cell? ⟨b, o + j * 2 + 1, none⟩ = some (.slice (some ⟨g, 0, none⟩) X.l.length cx) := hin 1 _ rfl
  have f1 : w3.drew.frozen? ⟨b, o + j * 2 + 1, none⟩ = false := by
    have := hwr.free (j * 2 + 1) (by omega)
    rw [← Nat.add_assoc] at this; exact this
  have hfr := owns_front gx.row (k := k) (by omega) (by simp)
  rw [flat_take gx.all k] at hfr
  have hsp : (css.take k).flatten ++ (css.drop (k + 1)).flatten = (css.eraseIdx k).flatten := by rw [← List.flatten_append, List.eraseIdx_eq_take_drop_succ]
  have hnl : (css.drop (k + 1)).flatten.length = (X.l.length - (k + 1)) * 4 := by
    rw [← flat_drop gx.all (k + 1), List.length_drop, gx.row.1]
    omega
  have hone : ∀ u ∈ (css.drop (k + 1)).flatten, u.oneCell' = true := by
    intro u hu
    obtain ⟨c, hc, huc⟩ := List.mem_flatten.1 hu
    obtain ⟨i, hi, rfl⟩ := List.mem_iff_getElem.1 (List.mem_of_mem_drop hc)
    obtain ⟨c2, q1, q2, q3⟩ := gx.has i _ (List.getElem?_eq_getElem (by rw [← gx.len]; exact hi))
    rw [List.getElem?_eq_getElem hi, Option.some.injEq] at q1
    rw [q1] at huc
    exact trailR_one (trailO_read _ _ _ _ q2) u huc
  have hnews : ∀ i u, (css.drop (k + 1)).flatten[i]? = some u → w3.drew.cell? ⟨g, (k + 1) * 4 + i, none⟩ = some u := by
    intro i u hu
    have hi := (List.getElem?_eq_some_iff.1 hu).1
    rw [gx.row.cellAt _ (by omega)]
    rw [← flat_drop gx.all (k + 1), List.getElem?_drop] at hu
    exact hu
  have hgs := (gx.row.lt g rfl).2
  have hbs := hwr.1
  have hkn : (k : Int) < (X.l.length : Int) := by omega
  have hkn2 : (k : Int) + 1 ≤ (X.l.length : Int) := by omega
  have hk3 : (0 : Int) ≤ (k : Int) + 1 := by omega
  have hcn : (X.l.length : Int) ≤ (cx : Int) := by omega
  have HGX := hide gx
  have HA1 := hide (And.intro hin (And.intro hwr (And.intro hT hend)))
  have HA2 := hide (And.intro hT2 (And.intro hob hsp))
  have HSb := hide hSb
  have HBd := hide hbd
  have hk1 : k + 1 ≤ X.l.length := by omega
  have hap : ∀ (ad : Addr), ad = ⟨g, (k + 1) * 4, none⟩ ∨ X.l.length = k + 1 → ∀ (c : Nat), ∃ v' w', (Builtin.append_ #[36, 36] 36 #[.slice (some ⟨g, 0, none⟩) k cx, .slice (some ad) (X.l.length - (k + 1)) c]).run Try.prog w3.drew = .ok v' w' ∧ w'.ownsRow 0 50 4 v' (X.l.length - 1) ((css.eraseIdx k).flatten) ∧ w3.drew.grownBy w' (some g) ∧ (v'.ownBlock = some g ∨ v'.ownBlock = some w3.drew.heap.size) := by
    intro ad had c
    obtain ⟨i0, hi, hz0, hz1, hz2⟩ := info_parts infoTrail3
    obtain ⟨v', w', hr, how, hg, hv⟩ := run_append2 (P := Try.prog) w3.drew 0 36 36 50 i0 _ 4 48 Try.underlying36 hi hz0 hz1 hz2 rfl (by decide) _ _ _ hfr ad (X.l.length - (k + 1)) c ((css.drop (k + 1)).flatten) hnl (by
      intro i u hu
      rcases had with had | had
      · rw [had]
        have e : (⟨g, (k + 1) * 4, none⟩ : Addr).add i = ⟨g, (k + 1) * 4 + i, none⟩ := by unfold Addr.add; split <;> simp_all
        rw [e]; exact hnews i u hu
      · have := (List.getElem?_eq_some_iff.1 hu).1
        omega) hone (by unfold maxLen; omega) (by omega) (Nat.zero_le _)
    rw [hsp, show k + (X.l.length - (k + 1)) = X.l.length - 1 by omega] at how
    exact ⟨v', w', hr, how, hg, hv⟩
  have HAP := hide hap
  clear hap hnews hone hnl hsp hfr hT2 hob gx hin hwr hT hend hSb hbd ow3 hv2 hv3
  go_upto_region 7 with fail
  by_cases hz : cx = k + 1
  · have hz9 : X.l.length = k + 1 := by omega
    have hz8 : cx - (k + 1) = 0 := by omega
    have HZ := hide hz
    have HZ9 := hide hz9
    have HZ8 := hide hz8
    clear hz9 hz8 hz
    have hre := unhide HAP ⟨g, 0, none⟩ (.inr (unhide HZ9)) (cx - (k + 1))
    obtain ⟨v4, w4, hr, how, hg4, hv4⟩ := hre
    have c4 : w4.cell? ⟨b, o + j * 2 + 1, none⟩ = some (.slice (some ⟨g, 0, none⟩) X.l.length cx) := by rw [(grown_turn hg4).cell (p := ⟨b, o + j * 2 + 1, none⟩) hbs (fun e => hgb (by injection e))]; exact c1
    have f4 : w4.frozen? ⟨b, o + j * 2 + 1, none⟩ = false := by rw [(grown_turn hg4).frozen (p := ⟨b, o + j * 2 + 1, none⟩) hbs (fun e => hgb (by injection e))]; exact f1
    have HG4 := hide (And.intro how (And.intro hg4 hv4))
    obtain ⟨a4, k4, rfl⟩ := row_form how
    clear how hg4 hv4 HAP
    refine wp_region_held_drew (S := fun _ => True) (by kernel_rfl) trivial (fun hHeld => ?_)
    refine wpAnyH_take (i := 0) (oi := ?oo1) (v := ?vv1) ?hi1 (by kernel_rfl) (by kernel_rfl) (by kernel_rfl) ?hQ1 ?hy1 (by assumption) ?rest1
    case hi1 => (simp only [List.getElem?_toArray, List.getElem?_cons_zero]; rfl)
    case hQ1 => exact fun _ _ _ h => h
    case hy1 => exact Or.inl ⟨by rfl, by intro wS hSw; (try dsimp only at hSw); go_simp; try first | (with_reducible rfl) | (simp only [*]; done) | omega⟩
    try simp only [Act.put, List.setIfInBounds_toArray, List.set_cons_zero, List.set_cons_succ]
    refine wpAnyH_take (i := 1) (oi := ?oo2) (v := ?vv2) ?hi2 (by kernel_rfl) (by kernel_rfl) (by kernel_rfl) ?hQ2 ?hy2 (by assumption) ?rest2
    case hi2 => (simp only [List.getElem?_toArray, List.getElem?_cons_zero, List.getElem?_cons_succ]; rfl)
    case hQ2 => exact fun _ _ _ h => h
    case hy2 => exact Or.inl ⟨by rfl, by intro wS hSw; (try dsimp only at hSw); go_simp; try first | (with_reducible rfl) | (simp only [*]; done) | omega⟩
    try simp only [Act.put, List.setIfInBounds_toArray, List.set_cons_zero, List.set_cons_succ]
    refine wpAnyH_take (i := 2) (oi := ?oo3) (v := ?vv3) ?hi3 (by kernel_rfl) (by kernel_rfl) (by kernel_rfl) ?hQ3 ?hy3 (by assumption) ?rest3
    case hi3 => (simp only [List.getElem?_toArray, List.getElem?_cons_zero, List.getElem?_cons_succ]; rfl)
    case hQ3 => exact fun _ _ _ h => h
    case hy3 => exact Or.inl ⟨by rfl, by intro wS hSw; (try dsimp only at hSw); go_simp; try first | (with_reducible rfl) | (simp only [*]; done) | omega⟩
    try simp only [Act.put, List.setIfInBounds_toArray, List.set_cons_zero, List.set_cons_succ]
    refine wpAnyH_take (i := 3) (oi := ?oo4) (v := ?vv4) ?hi4 (by kernel_rfl) (by kernel_rfl) (by kernel_rfl) ?hQ4 ?hy4 (by assumption) ?rest4
    case hi4 => (simp only [List.getElem?_toArray, List.getElem?_cons_zero, List.getElem?_cons_succ]; rfl)
    case hQ4 => exact fun _ _ _ h => h
    case hy4 => exact Or.inl ⟨by rfl, by intro wS hSw; (try dsimp only at hSw); go_simp; try first | (with_reducible rfl) | (simp only [*]; done) | omega⟩
    try simp only [Act.put, List.setIfInBounds_toArray, List.set_cons_zero, List.set_cons_succ]
    refine wpAnyH_take (i := 4) (oi := ?oo5) (v := ?vv5) ?hi5 (by kernel_rfl) (by kernel_rfl) (by kernel_rfl) ?hQ5 ?hy5 (by assumption) ?rest5
    case hi5 => (simp only [List.getElem?_toArray, List.getElem?_cons_zero, List.getElem?_cons_succ]; rfl)
    case hQ5 => exact fun _ _ _ h => h
    case hy5 => exact Or.inl ⟨by rfl, by intro wS hSw; (try dsimp only at hSw); go_simp; try first | (with_reducible rfl) | (simp only [*]; done) | omega⟩
    try simp only [Act.put, List.setIfInBounds_toArray, List.set_cons_zero, List.set_cons_succ]
    refine wpAnyH_take (i := 5) (oi := ?oo6) (v := ?vv6) ?hi6 (by kernel_rfl) (by kernel_rfl) (by kernel_rfl) ?hQ6 ?hy6 (by assumption) ?rest6
    case hi6 => (simp only [List.getElem?_toArray, List.getElem?_cons_zero, List.getElem?_cons_succ]; rfl)
    case hQ6 => exact fun _ _ _ h => h
    case hy6 => exact Or.inl ⟨by rfl, by intro wS hSw; (try dsimp only at hSw); go_simp; try first | (with_reducible rfl) | (simp only [*]; done) | omega⟩
    try simp only [Act.put, List.setIfInBounds_toArray, List.set_cons_zero, List.set_cons_succ]
    refine wpAnyH_take (i := 7) (oi := ?oo7) (v := ?vv7) ?hi7 (by kernel_rfl) (by kernel_rfl) (by kernel_rfl) ?hQ7 ?hy7 (by assumption) ?rest7
    case hi7 => (simp only [List.getElem?_toArray, List.getElem?_cons_zero, List.getElem?_cons_succ]; rfl)
    case hQ7 => exact fun _ _ _ h => h
    case hy7 => exact Or.inl ⟨by rfl, by intro wS hSw; (try dsimp only at hSw); go_simp; try first | (with_reducible rfl) | (simp only [*]; done) | omega⟩
    try simp only [Act.put, List.setIfInBounds_toArray, List.set_cons_zero, List.set_cons_succ]
    refine wpAnyH_take (i := 9) (oi := ?oo8) (v := ?vv8) ?hi8 (by kernel_rfl) (by kernel_rfl) (by kernel_rfl) ?hQ8 ?hy8 (by assumption) ?rest8
    case hi8 => (simp only [List.getElem?_toArray, List.getElem?_cons_zero, List.getElem?_cons_succ]; rfl)
    case hQ8 => exact fun _ _ _ h => h
    case hy8 => exact Or.inl ⟨by rfl, by intro wS hSw; (try dsimp only at hSw); go_simp; try first | (with_reducible rfl) | (simp only [*]; done) | omega⟩
    try simp only [Act.put, List.setIfInBounds_toArray, List.set_cons_zero, List.set_cons_succ]
    refine wpAnyH_take (i := 10) (oi := ?oo9) (v := ?vv9) ?hi9 (by kernel_rfl) (by kernel_rfl) (by kernel_rfl) ?hQ9 ?hy9 (by assumption) ?rest9
    case hi9 => (simp only [List.getElem?_toArray, List.getElem?_cons_zero, List.getElem?_cons_succ]; rfl)
    case hQ9 => exact fun _ _ _ h => h
    case hy9 => exact Or.inl ⟨by rfl, by intro wS hSw; (try dsimp only at hSw); go_simp; try first | (with_reducible rfl) | (simp only [*]; done) | omega⟩
    try simp only [Act.put, List.setIfInBounds_toArray, List.set_cons_zero, List.set_cons_succ]
    refine wpAnyH_take (i := 11) (oi := ?oo10) (v := ?vv10) ?hi10 (by kernel_rfl) (by kernel_rfl) (by kernel_rfl) ?hQ10 ?hy10 (by assumption) ?rest10
    case hi10 => (simp only [List.getElem?_toArray, List.getElem?_cons_zero, List.getElem?_cons_succ]; rfl)
    case hQ10 => exact fun _ _ _ h => h
    case hy10 => exact Or.inl ⟨by rfl, by intro wS hSw; (try dsimp only at hSw); go_simp; try first | (with_reducible rfl) | (simp only [*]; done) | omega⟩
    try simp only [Act.put, List.setIfInBounds_toArray, List.set_cons_zero, List.set_cons_succ]
    refine wpAnyH_take (i := 12) (oi := ?oo11) (v := ?vv11) ?hi11 (by kernel_rfl) (by kernel_rfl) (by kernel_rfl) ?hQ11 ?hy11 (by assumption) ?rest11
    case hi11 => (simp only [List.getElem?_toArray, List.getElem?_cons_zero, List.getElem?_cons_succ]; rfl)
    case hQ11 => exact fun _ _ _ h => h
    case hy11 => exact Or.inl ⟨by rfl, by intro wS hSw; (try dsimp only at hSw); go_simp; try first | (with_reducible rfl) | (simp only [*]; done) | omega⟩
    try simp only [Act.put, List.setIfInBounds_toArray, List.set_cons_zero, List.set_cons_succ]
    refine wpAnyH_take (i := 14) (oi := ?oo12) (v := ?vv12) ?hi12 (by kernel_rfl) (by kernel_rfl) (by kernel_rfl) ?hQ12 ?hy12 (by assumption) ?rest12
    case hi12 => (simp only [List.getElem?_toArray, List.getElem?_cons_zero, List.getElem?_cons_succ]; rfl)
    case hQ12 => exact fun _ _ _ h => h
    case hy12 => exact Or.inl ⟨by rfl, by intro wS hSw; (try dsimp only at hSw); go_simp; try first | (with_reducible rfl) | (simp only [*]; done) | omega⟩
    try simp only [Act.put, List.setIfInBounds_toArray, List.set_cons_zero, List.set_cons_succ]
    refine wpAnyH_take (i := 15) (oi := ?oo13) (v := .int .i64 ((k : Int) + 1)) ?hi13 (by kernel_rfl) (by kernel_rfl) (by kernel_rfl) ?hQ13 ?hy13 (by assumption) ?rest13
    case hi13 => (simp only [List.getElem?_toArray, List.getElem?_cons_zero, List.getElem?_cons_succ]; rfl)
    case hQ13 => exact fun _ _ _ h => h
    case hy13 => exact Or.inl ⟨by rfl, by intro wS hSw; (try dsimp only at hSw); go_simp; rw [wrap_succ hkn (by omega)]⟩
    try simp only [Act.put, List.setIfInBounds_toArray, List.set_cons_zero, List.set_cons_succ]
    refine wpAnyH_ready (rs := [6, 13]) (by kernel_rfl) (by simp) ?_
    refine (AllReadyH.cons (o := ?bo14n6) ?bh14n6 (fun K hK => ?br14n6) (AllReadyH.cons (o := ?bo14n13) ?bh14n13 (fun K hK => ?br14n13) AllReadyH.nil))
    case bh14n6 => (simp only [List.getElem?_toArray, List.getElem?_cons_zero, List.getElem?_cons_succ]; rfl)
    case bh14n13 => (simp only [List.getElem?_toArray, List.getElem?_cons_zero, List.getElem?_cons_succ]; rfl)
    case br14n6 =>
      go_simp
      refine hK.out _ _ (trivial) (fun hHeld => ?_)
      clear hK
      refine wpAnyH_take (i := 8) (oi := ?oo15) (v := .slice (some ⟨g, 0, none⟩) k cx) ?hi15 (by kernel_rfl) (by kernel_rfl) (by kernel_rfl) ?hQ15 ?hy15 (by assumption) ?rest15
      case hi15 => (simp only [List.getElem?_toArray, List.getElem?_cons_zero, List.getElem?_cons_succ]; rfl)
      case hQ15 => exact fun _ _ _ h => h
      case hy15 => exact Or.inl ⟨by rfl, by intro wS hSw; (try dsimp only at hSw); go_simp; try first | (with_reducible rfl) | (simp only [*]; done) | omega⟩
      try simp only [Act.put, List.setIfInBounds_toArray, List.set_cons_zero, List.set_cons_succ]
      refine wpAnyH_ready (rs := [13]) (by kernel_rfl) (by simp) ?_
      refine (AllReadyH.cons (o := ?bo16n13) ?bh16n13 (fun K hK => ?br16n13) AllReadyH.nil)
      case bh16n13 => (simp only [List.getElem?_toArray, List.getElem?_cons_zero, List.getElem?_cons_succ]; rfl)
      case br16n13 =>
        go_simp
        refine hK.out _ _ (trivial) (fun hHeld => ?_)
        clear hK
        refine wpAnyH_take (i := 16) (oi := ?oo17) (v := .slice (some ⟨g, 0, none⟩) (X.l.length - (k + 1)) (cx - (k + 1))) ?hi17 (by kernel_rfl) (by kernel_rfl) (by kernel_rfl) ?hQ17 ?hy17 (by assumption) ?rest17
        case hi17 => (simp only [List.getElem?_toArray, List.getElem?_cons_zero, List.getElem?_cons_succ]; rfl)
        case hQ17 => exact fun _ _ _ h => h
        case hy17 => exact Or.inl ⟨by rfl, by intro wS hSw; (try dsimp only at hSw); go_simp; exact unhide HZ⟩
        try simp only [Act.put, List.setIfInBounds_toArray, List.set_cons_zero, List.set_cons_succ]
        refine wpAnyH_ready (rs := [17]) (by kernel_rfl) (by simp) ?_
        refine (AllReadyH.cons (o := ?bo18n17) ?bh18n17 (fun K hK => ?br18n17) AllReadyH.nil)
        case bh18n17 => (simp only [List.getElem?_toArray, List.getElem?_cons_zero, List.getElem?_cons_succ]; rfl)
        case br18n17 =>
          refine wpo_appendK (s := .tmp 35) (x := .tmp 43) (t := 36) (by rfl) (by rfl) (by rfl) hr ?_
          refine hK.out _ _ (trivial) (fun hHeld => ?_)
          clear hK
          refine wpAnyH_take (i := 18) (oi := ?oo19) (v := ?vv19) ?hi19 (by kernel_rfl) (by kernel_rfl) (by kernel_rfl) ?hQ19 ?hy19 (by assumption) ?rest19
          case hi19 => (simp only [List.getElem?_toArray, List.getElem?_cons_zero, List.getElem?_cons_succ]; rfl)
          case hQ19 => exact fun _ _ _ h => h
          case hy19 => exact Or.inl ⟨by rfl, by intro wS hSw; (try dsimp only at hSw); go_simp; try first | (with_reducible rfl) | (simp only [*]; done) | omega⟩
          try simp only [Act.put, List.setIfInBounds_toArray, List.set_cons_zero, List.set_cons_succ]
          refine wpAnyH_take (i := 19) (oi := ?oo20) (v := ?vv20) ?hi20 (by kernel_rfl) (by kernel_rfl) (by kernel_rfl) ?hQ20 ?hy20 (by assumption) ?rest20
          case hi20 => (simp only [List.getElem?_toArray, List.getElem?_cons_zero, List.getElem?_cons_succ]; rfl)
          case hQ20 => exact fun _ _ _ h => h
          case hy20 => exact Or.inl ⟨by rfl, by intro wS hSw; (try dsimp only at hSw); go_simp; try first | (with_reducible rfl) | (simp only [*]; done) | omega⟩
          try simp only [Act.put, List.setIfInBounds_toArray, List.set_cons_zero, List.set_cons_succ]
          refine wpAnyH_ready (rs := [20]) (by kernel_rfl) (by simp) ?_
          refine (AllReadyH.cons (o := ?bo21n20) ?bh21n20 (fun K hK => ?br21n20) AllReadyH.nil)
          case bh21n20 => (simp only [List.getElem?_toArray, List.getElem?_cons_zero, List.getElem?_cons_succ]; rfl)
          case br21n20 =>
            go_simp
            refine hK.out _ _ (trivial) (fun hHeld => ?_)
            clear hK
            refine wpAnyH_done (by kernel_rfl) ?_ _
            go_wp2
            go_ret
            exact drop_fin hj hkl hz1 hz3 hbs HDI2 HX HW HB3 HBd HA1 HA2 HGX HSb HG4 c4
    case br14n13 =>
      go_simp
      refine hK.out _ _ (trivial) (fun hHeld => ?_)
      clear hK
      refine wpAnyH_take (i := 16) (oi := ?oo22) (v := .slice (some ⟨g, 0, none⟩) (X.l.length - (k + 1)) (cx - (k + 1))) ?hi22 (by kernel_rfl) (by kernel_rfl) (by kernel_rfl) ?hQ22 ?hy22 (by assumption) ?rest22
      case hi22 => (simp only [List.getElem?_toArray, List.getElem?_cons_zero, List.getElem?_cons_succ]; rfl)
      case hQ22 => exact fun _ _ _ h => h
      case hy22 => exact Or.inl ⟨by rfl, by intro wS hSw; (try dsimp only at hSw); go_simp; exact unhide HZ⟩
      try simp only [Act.put, List.setIfInBounds_toArray, List.set_cons_zero, List.set_cons_succ]
      refine wpAnyH_ready (rs := [6]) (by kernel_rfl) (by simp) ?_
      refine (AllReadyH.cons (o := ?bo23n6) ?bh23n6 (fun K hK => ?br23n6) AllReadyH.nil)
      case bh23n6 => (simp only [List.getElem?_toArray, List.getElem?_cons_zero, List.getElem?_cons_succ]; rfl)
      case br23n6 =>
        go_simp
        refine hK.out _ _ (trivial) (fun hHeld => ?_)
        clear hK
        refine wpAnyH_take (i := 8) (oi := ?oo24) (v := .slice (some ⟨g, 0, none⟩) k cx) ?hi24 (by kernel_rfl) (by kernel_rfl) (by kernel_rfl) ?hQ24 ?hy24 (by assumption) ?rest24
        case hi24 => (simp only [List.getElem?_toArray, List.getElem?_cons_zero, List.getElem?_cons_succ]; rfl)
        case hQ24 => exact fun _ _ _ h => h
        case hy24 => exact Or.inl ⟨by rfl, by intro wS hSw; (try dsimp only at hSw); go_simp; try first | (with_reducible rfl) | (simp only [*]; done) | omega⟩
        try simp only [Act.put, List.setIfInBounds_toArray, List.set_cons_zero, List.set_cons_succ]
        refine wpAnyH_ready (rs := [17]) (by kernel_rfl) (by simp) ?_
        refine (AllReadyH.cons (o := ?bo25n17) ?bh25n17 (fun K hK => ?br25n17) AllReadyH.nil)
        case bh25n17 => (simp only [List.getElem?_toArray, List.getElem?_cons_zero, List.getElem?_cons_succ]; rfl)
        case br25n17 =>
          refine wpo_appendK (s := .tmp 35) (x := .tmp 43) (t := 36) (by rfl) (by rfl) (by rfl) hr ?_
          refine hK.out _ _ (trivial) (fun hHeld => ?_)
          clear hK
          refine wpAnyH_take (i := 18) (oi := ?oo26) (v := ?vv26) ?hi26 (by kernel_rfl) (by kernel_rfl) (by kernel_rfl) ?hQ26 ?hy26 (by assumption) ?rest26
          case hi26 => (simp only [List.getElem?_toArray, List.getElem?_cons_zero, List.getElem?_cons_succ]; rfl)
          case hQ26 => exact fun _ _ _ h => h
          case hy26 => exact Or.inl ⟨by rfl, by intro wS hSw; (try dsimp only at hSw); go_simp; try first | (with_reducible rfl) | (simp only [*]; done) | omega⟩
          try simp only [Act.put, List.setIfInBounds_toArray, List.set_cons_zero, List.set_cons_succ]
          refine wpAnyH_take (i := 19) (oi := ?oo27) (v := ?vv27) ?hi27 (by kernel_rfl) (by kernel_rfl) (by kernel_rfl) ?hQ27 ?hy27 (by assumption) ?rest27
          case hi27 => (simp only [List.getElem?_toArray, List.getElem?_cons_zero, List.getElem?_cons_succ]; rfl)
          case hQ27 => exact fun _ _ _ h => h
          case hy27 => exact Or.inl ⟨by rfl, by intro wS hSw; (try dsimp only at hSw); go_simp; try first | (with_reducible rfl) | (simp only [*]; done) | omega⟩
          try simp only [Act.put, List.setIfInBounds_toArray, List.set_cons_zero, List.set_cons_succ]
          refine wpAnyH_ready (rs := [20]) (by kernel_rfl) (by simp) ?_
          refine (AllReadyH.cons (o := ?bo28n20) ?bh28n20 (fun K hK => ?br28n20) AllReadyH.nil)
          case bh28n20 => (simp only [List.getElem?_toArray, List.getElem?_cons_zero, List.getElem?_cons_succ]; rfl)
          case br28n20 =>
            go_simp
            refine hK.out _ _ (trivial) (fun hHeld => ?_)
            clear hK
            refine wpAnyH_done (by kernel_rfl) ?_ _
            go_wp2
            go_ret
            exact drop_fin hj hkl hz1 hz3 hbs HDI2 HX HW HB3 HBd HA1 HA2 HGX HSb HG4 c4
  · have hcz : k + 1 < cx := by omega
    have hre := unhide HAP ⟨g, (k + 1) * 4, none⟩ (.inl rfl) (cx - (k + 1))
    obtain ⟨v4, w4, hr, how, hg4, hv4⟩ := hre
    have c4 : w4.cell? ⟨b, o + j * 2 + 1, none⟩ = some (.slice (some ⟨g, 0, none⟩) X.l.length cx) := by rw [(grown_turn hg4).cell (p := ⟨b, o + j * 2 + 1, none⟩) hbs (fun e => hgb (by injection e))]; exact c1
    have f4 : w4.frozen? ⟨b, o + j * 2 + 1, none⟩ = false := by rw [(grown_turn hg4).frozen (p := ⟨b, o + j * 2 + 1, none⟩) hbs (fun e => hgb (by injection e))]; exact f1
    have HG4 := hide (And.intro how (And.intro hg4 hv4))
    obtain ⟨a4, k4, rfl⟩ := row_form how
    clear how hg4 hv4 HAP
    refine wp_region_held_drew (S := fun _ => True) (by kernel_rfl) trivial (fun hHeld => ?_)
    refine wpAnyH_take (i := 0) (oi := ?oo29) (v := ?vv29) ?hi29 (by kernel_rfl) (by kernel_rfl) (by kernel_rfl) ?hQ29 ?hy29 (by assumption) ?rest29
    case hi29 => (simp only [List.getElem?_toArray, List.getElem?_cons_zero]; rfl)
    case hQ29 => exact fun _ _ _ h => h
    case hy29 => exact Or.inl ⟨by rfl, by intro wS hSw; (try dsimp only at hSw); go_simp; try first | (with_reducible rfl) | (simp only [*]; done) | omega⟩
    try simp only [Act.put, List.setIfInBounds_toArray, List.set_cons_zero, List.set_cons_succ]
    refine wpAnyH_take (i := 1) (oi := ?oo30) (v := ?vv30) ?hi30 (by kernel_rfl) (by kernel_rfl) (by kernel_rfl) ?hQ30 ?hy30 (by assumption) ?rest30
    case hi30 => (simp only [List.getElem?_toArray, List.getElem?_cons_zero, List.getElem?_cons_succ]; rfl)
    case hQ30 => exact fun _ _ _ h => h
    case hy30 => exact Or.inl ⟨by rfl, by intro wS hSw; (try dsimp only at hSw); go_simp; try first | (with_reducible rfl) | (simp only [*]; done) | omega⟩
    try simp only [Act.put, List.setIfInBounds_toArray, List.set_cons_zero, List.set_cons_succ]
    refine wpAnyH_take (i := 2) (oi := ?oo31) (v := ?vv31) ?hi31 (by kernel_rfl) (by kernel_rfl) (by kernel_rfl) ?hQ31 ?hy31 (by assumption) ?rest31
    case hi31 => (simp only [List.getElem?_toArray, List.getElem?_cons_zero, List.getElem?_cons_succ]; rfl)
    case hQ31 => exact fun _ _ _ h => h
    case hy31 => exact Or.inl ⟨by rfl, by intro wS hSw; (try dsimp only at hSw); go_simp; try first | (with_reducible rfl) | (simp only [*]; done) | omega⟩
    try simp only [Act.put, List.setIfInBounds_toArray, List.set_cons_zero, List.set_cons_succ]
    refine wpAnyH_take (i := 3) (oi := ?oo32) (v := ?vv32) ?hi32 (by kernel_rfl) (by kernel_rfl) (by kernel_rfl) ?hQ32 ?hy32 (by assumption) ?rest32
    case hi32 => (simp only [List.getElem?_toArray, List.getElem?_cons_zero, List.getElem?_cons_succ]; rfl)
    case hQ32 => exact fun _ _ _ h => h
    case hy32 => exact Or.inl ⟨by rfl, by intro wS hSw; (try dsimp only at hSw); go_simp; try first | (with_reducible rfl) | (simp only [*]; done) | omega⟩
    try simp only [Act.put, List.setIfInBounds_toArray, List.set_cons_zero, List.set_cons_succ]
    refine wpAnyH_take (i := 4) (oi := ?oo33) (v := ?vv33) ?hi33 (by kernel_rfl) (by kernel_rfl) (by kernel_rfl) ?hQ33 ?hy33 (by assumption) ?rest33
    case hi33 => (simp only [List.getElem?_toArray, List.getElem?_cons_zero, List.getElem?_cons_succ]; rfl)
    case hQ33 => exact fun _ _ _ h => h
    case hy33 => exact Or.inl ⟨by rfl, by intro wS hSw; (try dsimp only at hSw); go_simp; try first | (with_reducible rfl) | (simp only [*]; done) | omega⟩
    try simp only [Act.put, List.setIfInBounds_toArray, List.set_cons_zero, List.set_cons_succ]
    refine wpAnyH_take (i := 5) (oi := ?oo34) (v := ?vv34) ?hi34 (by kernel_rfl) (by kernel_rfl) (by kernel_rfl) ?hQ34 ?hy34 (by assumption) ?rest34
    case hi34 => (simp only [List.getElem?_toArray, List.getElem?_cons_zero, List.getElem?_cons_succ]; rfl)
    case hQ34 => exact fun _ _ _ h => h
    case hy34 => exact Or.inl ⟨by rfl, by intro wS hSw; (try dsimp only at hSw); go_simp; try first | (with_reducible rfl) | (simp only [*]; done) | omega⟩
    try simp only [Act.put, List.setIfInBounds_toArray, List.set_cons_zero, List.set_cons_succ]
    refine wpAnyH_take (i := 7) (oi := ?oo35) (v := ?vv35) ?hi35 (by kernel_rfl) (by kernel_rfl) (by kernel_rfl) ?hQ35 ?hy35 (by assumption) ?rest35
    case hi35 => (simp only [List.getElem?_toArray, List.getElem?_cons_zero, List.getElem?_cons_succ]; rfl)
    case hQ35 => exact fun _ _ _ h => h
    case hy35 => exact Or.inl ⟨by rfl, by intro wS hSw; (try dsimp only at hSw); go_simp; try first | (with_reducible rfl) | (simp only [*]; done) | omega⟩
    try simp only [Act.put, List.setIfInBounds_toArray, List.set_cons_zero, List.set_cons_succ]
    refine wpAnyH_take (i := 9) (oi := ?oo36) (v := ?vv36) ?hi36 (by kernel_rfl) (by kernel_rfl) (by kernel_rfl) ?hQ36 ?hy36 (by assumption) ?rest36
    case hi36 => (simp only [List.getElem?_toArray, List.getElem?_cons_zero, List.getElem?_cons_succ]; rfl)
    case hQ36 => exact fun _ _ _ h => h
    case hy36 => exact Or.inl ⟨by rfl, by intro wS hSw; (try dsimp only at hSw); go_simp; try first | (with_reducible rfl) | (simp only [*]; done) | omega⟩
    try simp only [Act.put, List.setIfInBounds_toArray, List.set_cons_zero, List.set_cons_succ]
    refine wpAnyH_take (i := 10) (oi := ?oo37) (v := ?vv37) ?hi37 (by kernel_rfl) (by kernel_rfl) (by kernel_rfl) ?hQ37 ?hy37 (by assumption) ?rest37
    case hi37 => (simp only [List.getElem?_toArray, List.getElem?_cons_zero, List.getElem?_cons_succ]; rfl)
    case hQ37 => exact fun _ _ _ h => h
    case hy37 => exact Or.inl ⟨by rfl, by intro wS hSw; (try dsimp only at hSw); go_simp; try first | (with_reducible rfl) | (simp only [*]; done) | omega⟩
    try simp only [Act.put, List.setIfInBounds_toArray, List.set_cons_zero, List.set_cons_succ]
    refine wpAnyH_take (i := 11) (oi := ?oo38) (v := ?vv38) ?hi38 (by kernel_rfl) (by kernel_rfl) (by kernel_rfl) ?hQ38 ?hy38 (by assumption) ?rest38
    case hi38 => (simp only [List.getElem?_toArray, List.getElem?_cons_zero, List.getElem?_cons_succ]; rfl)
    case hQ38 => exact fun _ _ _ h => h
    case hy38 => exact Or.inl ⟨by rfl, by intro wS hSw; (try dsimp only at hSw); go_simp; try first | (with_reducible rfl) | (simp only [*]; done) | omega⟩
    try simp only [Act.put, List.setIfInBounds_toArray, List.set_cons_zero, List.set_cons_succ]
    refine wpAnyH_take (i := 12) (oi := ?oo39) (v := ?vv39) ?hi39 (by kernel_rfl) (by kernel_rfl) (by kernel_rfl) ?hQ39 ?hy39 (by assumption) ?rest39
    case hi39 => (simp only [List.getElem?_toArray, List.getElem?_cons_zero, List.getElem?_cons_succ]; rfl)
    case hQ39 => exact fun _ _ _ h => h
    case hy39 => exact Or.inl ⟨by rfl, by intro wS hSw; (try dsimp only at hSw); go_simp; try first | (with_reducible rfl) | (simp only [*]; done) | omega⟩
    try simp only [Act.put, List.setIfInBounds_toArray, List.set_cons_zero, List.set_cons_succ]
    refine wpAnyH_take (i := 14) (oi := ?oo40) (v := ?vv40) ?hi40 (by kernel_rfl) (by kernel_rfl) (by kernel_rfl) ?hQ40 ?hy40 (by assumption) ?rest40
    case hi40 => (simp only [List.getElem?_toArray, List.getElem?_cons_zero, List.getElem?_cons_succ]; rfl)
    case hQ40 => exact fun _ _ _ h => h
    case hy40 => exact Or.inl ⟨by rfl, by intro wS hSw; (try dsimp only at hSw); go_simp; try first | (with_reducible rfl) | (simp only [*]; done) | omega⟩
    try simp only [Act.put, List.setIfInBounds_toArray, List.set_cons_zero, List.set_cons_succ]
    refine wpAnyH_take (i := 15) (oi := ?oo41) (v := .int .i64 ((k : Int) + 1)) ?hi41 (by kernel_rfl) (by kernel_rfl) (by kernel_rfl) ?hQ41 ?hy41 (by assumption) ?rest41
    case hi41 => (simp only [List.getElem?_toArray, List.getElem?_cons_zero, List.getElem?_cons_succ]; rfl)
    case hQ41 => exact fun _ _ _ h => h
    case hy41 => exact Or.inl ⟨by rfl, by intro wS hSw; (try dsimp only at hSw); go_simp; rw [wrap_succ hkn (by omega)]⟩
    try simp only [Act.put, List.setIfInBounds_toArray, List.set_cons_zero, List.set_cons_succ]
    refine wpAnyH_ready (rs := [6, 13]) (by kernel_rfl) (by simp) ?_
    refine (AllReadyH.cons (o := ?bo42n6) ?bh42n6 (fun K hK => ?br42n6) (AllReadyH.cons (o := ?bo42n13) ?bh42n13 (fun K hK => ?br42n13) AllReadyH.nil))
    case bh42n6 => (simp only [List.getElem?_toArray, List.getElem?_cons_zero, List.getElem?_cons_succ]; rfl)
    case bh42n13 => (simp only [List.getElem?_toArray, List.getElem?_cons_zero, List.getElem?_cons_succ]; rfl)
    case br42n6 =>
      go_simp
      refine hK.out _ _ (trivial) (fun hHeld => ?_)
      clear hK
      refine wpAnyH_take (i := 8) (oi := ?oo43) (v := .slice (some ⟨g, 0, none⟩) k cx) ?hi43 (by kernel_rfl) (by kernel_rfl) (by kernel_rfl) ?hQ43 ?hy43 (by assumption) ?rest43
      case hi43 => (simp only [List.getElem?_toArray, List.getElem?_cons_zero, List.getElem?_cons_succ]; rfl)
      case hQ43 => exact fun _ _ _ h => h
      case hy43 => exact Or.inl ⟨by rfl, by intro wS hSw; (try dsimp only at hSw); go_simp; try first | (with_reducible rfl) | (simp only [*]; done) | omega⟩
      try simp only [Act.put, List.setIfInBounds_toArray, List.set_cons_zero, List.set_cons_succ]
      refine wpAnyH_ready (rs := [13]) (by kernel_rfl) (by simp) ?_
      refine (AllReadyH.cons (o := ?bo44n13) ?bh44n13 (fun K hK => ?br44n13) AllReadyH.nil)
      case bh44n13 => (simp only [List.getElem?_toArray, List.getElem?_cons_zero, List.getElem?_cons_succ]; rfl)
      case br44n13 =>
        go_simp
        refine hK.out _ _ (trivial) (fun hHeld => ?_)
        clear hK
        refine wpAnyH_take (i := 16) (oi := ?oo45) (v := .slice (some ⟨g, (k + 1) * 4, none⟩) (X.l.length - (k + 1)) (cx - (k + 1))) ?hi45 (by kernel_rfl) (by kernel_rfl) (by kernel_rfl) ?hQ45 ?hy45 (by assumption) ?rest45
        case hi45 => (simp only [List.getElem?_toArray, List.getElem?_cons_zero, List.getElem?_cons_succ]; rfl)
        case hQ45 => exact fun _ _ _ h => h
        case hy45 => exact Or.inl ⟨by rfl, by intro wS hSw; (try dsimp only at hSw); go_simp; done⟩
        try simp only [Act.put, List.setIfInBounds_toArray, List.set_cons_zero, List.set_cons_succ]
        refine wpAnyH_ready (rs := [17]) (by kernel_rfl) (by simp) ?_
        refine (AllReadyH.cons (o := ?bo46n17) ?bh46n17 (fun K hK => ?br46n17) AllReadyH.nil)
        case bh46n17 => (simp only [List.getElem?_toArray, List.getElem?_cons_zero, List.getElem?_cons_succ]; rfl)
        case br46n17 =>
          refine wpo_appendK (s := .tmp 35) (x := .tmp 43) (t := 36) (by rfl) (by rfl) (by rfl) hr ?_
          refine hK.out _ _ (trivial) (fun hHeld => ?_)
          clear hK
          refine wpAnyH_take (i := 18) (oi := ?oo47) (v := ?vv47) ?hi47 (by kernel_rfl) (by kernel_rfl) (by kernel_rfl) ?hQ47 ?hy47 (by assumption) ?rest47
          case hi47 => (simp only [List.getElem?_toArray, List.getElem?_cons_zero, List.getElem?_cons_succ]; rfl)
          case hQ47 => exact fun _ _ _ h => h
          case hy47 => exact Or.inl ⟨by rfl, by intro wS hSw; (try dsimp only at hSw); go_simp; try first | (with_reducible rfl) | (simp only [*]; done) | omega⟩
          try simp only [Act.put, List.setIfInBounds_toArray, List.set_cons_zero, List.set_cons_succ]
          refine wpAnyH_take (i := 19) (oi := ?oo48) (v := ?vv48) ?hi48 (by kernel_rfl) (by kernel_rfl) (by kernel_rfl) ?hQ48 ?hy48 (by assumption) ?rest48
          case hi48 => (simp only [List.getElem?_toArray, List.getElem?_cons_zero, List.getElem?_cons_succ]; rfl)
          case hQ48 => exact fun _ _ _ h => h
          case hy48 => exact Or.inl ⟨by rfl, by intro wS hSw; (try dsimp only at hSw); go_simp; try first | (with_reducible rfl) | (simp only [*]; done) | omega⟩
          try simp only [Act.put, List.setIfInBounds_toArray, List.set_cons_zero, List.set_cons_succ]
          refine wpAnyH_ready (rs := [20]) (by kernel_rfl) (by simp) ?_
          refine (AllReadyH.cons (o := ?bo49n20) ?bh49n20 (fun K hK => ?br49n20) AllReadyH.nil)
          case bh49n20 => (simp only [List.getElem?_toArray, List.getElem?_cons_zero, List.getElem?_cons_succ]; rfl)
          case br49n20 =>
            go_simp
            refine hK.out _ _ (trivial) (fun hHeld => ?_)
            clear hK
            refine wpAnyH_done (by kernel_rfl) ?_ _
            go_wp2
            go_ret
            exact drop_fin hj hkl hz1 hz3 hbs HDI2 HX HW HB3 HBd HA1 HA2 HGX HSb HG4 c4
    case br42n13 =>
      go_simp
      refine hK.out _ _ (trivial) (fun hHeld => ?_)
      clear hK
      refine wpAnyH_take (i := 16) (oi := ?oo50) (v := .slice (some ⟨g, (k + 1) * 4, none⟩) (X.l.length - (k + 1)) (cx - (k + 1))) ?hi50 (by kernel_rfl) (by kernel_rfl) (by kernel_rfl) ?hQ50 ?hy50 (by assumption) ?rest50
      case hi50 => (simp only [List.getElem?_toArray, List.getElem?_cons_zero, List.getElem?_cons_succ]; rfl)
      case hQ50 => exact fun _ _ _ h => h
      case hy50 => exact Or.inl ⟨by rfl, by intro wS hSw; (try dsimp only at hSw); go_simp; done⟩
      try simp only [Act.put, List.setIfInBounds_toArray, List.set_cons_zero, List.set_cons_succ]
      refine wpAnyH_ready (rs := [6]) (by kernel_rfl) (by simp) ?_
      refine (AllReadyH.cons (o := ?bo51n6) ?bh51n6 (fun K hK => ?br51n6) AllReadyH.nil)
      case bh51n6 => (simp only [List.getElem?_toArray, List.getElem?_cons_zero, List.getElem?_cons_succ]; rfl)
      case br51n6 =>
        go_simp
        refine hK.out _ _ (trivial) (fun hHeld => ?_)
        clear hK
        refine wpAnyH_take (i := 8) (oi := ?oo52) (v := .slice (some ⟨g, 0, none⟩) k cx) ?hi52 (by kernel_rfl) (by kernel_rfl) (by kernel_rfl) ?hQ52 ?hy52 (by assumption) ?rest52
        case hi52 => (simp only [List.getElem?_toArray, List.getElem?_cons_zero, List.getElem?_cons_succ]; rfl)
        case hQ52 => exact fun _ _ _ h => h
        case hy52 => exact Or.inl ⟨by rfl, by intro wS hSw; (try dsimp only at hSw); go_simp; try first | (with_reducible rfl) | (simp only [*]; done) | omega⟩
        try simp only [Act.put, List.setIfInBounds_toArray, List.set_cons_zero, List.set_cons_succ]
        refine wpAnyH_ready (rs := [17]) (by kernel_rfl) (by simp) ?_
        refine (AllReadyH.cons (o := ?bo53n17) ?bh53n17 (fun K hK => ?br53n17) AllReadyH.nil)
        case bh53n17 => (simp only [List.getElem?_toArray, List.getElem?_cons_zero, List.getElem?_cons_succ]; rfl)
        case br53n17 =>
          refine wpo_appendK (s := .tmp 35) (x := .tmp 43) (t := 36) (by rfl) (by rfl) (by rfl) hr ?_
          refine hK.out _ _ (trivial) (fun hHeld => ?_)
          clear hK
          refine wpAnyH_take (i := 18) (oi := ?oo54) (v := ?vv54) ?hi54 (by kernel_rfl) (by kernel_rfl) (by kernel_rfl) ?hQ54 ?hy54 (by assumption) ?rest54
          case hi54 => (simp only [List.getElem?_toArray, List.getElem?_cons_zero, List.getElem?_cons_succ]; rfl)
          case hQ54 => exact fun _ _ _ h => h
          case hy54 => exact Or.inl ⟨by rfl, by intro wS hSw; (try dsimp only at hSw); go_simp; try first | (with_reducible rfl) | (simp only [*]; done) | omega⟩
          try simp only [Act.put, List.setIfInBounds_toArray, List.set_cons_zero, List.set_cons_succ]
          refine wpAnyH_take (i := 19) (oi := ?oo55) (v := ?vv55) ?hi55 (by kernel_rfl) (by kernel_rfl) (by kernel_rfl) ?hQ55 ?hy55 (by assumption) ?rest55
          case hi55 => (simp only [List.getElem?_toArray, List.getElem?_cons_zero, List.getElem?_cons_succ]; rfl)
          case hQ55 => exact fun _ _ _ h => h
          case hy55 => exact Or.inl ⟨by rfl, by intro wS hSw; (try dsimp only at hSw); go_simp; try first | (with_reducible rfl) | (simp only [*]; done) | omega⟩
          try simp only [Act.put, List.setIfInBounds_toArray, List.set_cons_zero, List.set_cons_succ]
          refine wpAnyH_ready (rs := [20]) (by kernel_rfl) (by simp) ?_
          refine (AllReadyH.cons (o := ?bo56n20) ?bh56n20 (fun K hK => ?br56n20) AllReadyH.nil)
          case bh56n20 => (simp only [List.getElem?_toArray, List.getElem?_cons_zero, List.getElem?_cons_succ]; rfl)
          case br56n20 =>
            go_simp
            refine hK.out _ _ (trivial) (fun hHeld => ?_)
            clear hK
            refine wpAnyH_done (by kernel_rfl) ?_ _
            go_wp2
            go_ret
            exact drop_fin hj hkl hz1 hz3 hbs HDI2 HX HW HB3 HBd HA1 HA2 HGX HSb HG4 c4
end Go.Proofs.Ytnlacjedamngkaa
