/-
  Copies of stripes, of the program.
-/
import Derived.Test.YtnlacjedamngkaaDrp2
import Derived.Test.YtnlacjedamngkaaAStripe
import Derived.Test.YtnlacjedamngkaaAbs2
import Derived.Deep.RegionHeld3
namespace Go.Proofs.Ytnlacjedamngkaa
open Go.ChangeShapes Go.WideShapes Go.ChangeAt Go.RowKit
set_option linter.unusedVariables false
set_option maxRecDepth 100000

/-- A stripe that is owned, its list with no room behind it. -/
def stripeC (w : World) (S : Nat → Prop) (cs : List Value) (x : StripeD) : Prop := ∃ g, cs = [.int .i64 x.held, .slice (some ⟨g, 0, none⟩) x.l.length x.l.length] ∧ LOw 4 trailO w S (.slice (some ⟨g, 0, none⟩) x.l.length x.l.length) x.l
theorem stripeC_keeps : Keeps stripeC := by
  intro w w' S T cs x ht hd h
  obtain ⟨s0, e, g0⟩ := h
  exact ⟨s0, e, g0.turn trailO_keeps ht hd⟩
theorem stripeC_widens : Widens stripeC := by
  intro w S T cs x hs h
  obtain ⟨s0, e, g0⟩ := h
  exact ⟨s0, e, g0.widens hs⟩
theorem stripeC_own (w : World) (S : Nat → Prop) (cs : List Value) (x : StripeD) (h : stripeC w S cs x) : stripeO w S cs x := by
  obtain ⟨g, e, g0⟩ := h
  exact ⟨_, e, g0⟩
theorem stripeC_read (w : World) (S : Nat → Prop) (cs : List Value) (x : StripeD) (h : stripeC w S cs x) : stripeR w S cs x := stripeO_read _ _ _ _ (stripeC_own _ _ _ _ h)
theorem stripeC_len {w : World} {S : Nat → Prop} {cs : List Value} {x : StripeD} (h : stripeC w S cs x) : cs.length = 2 := by
  obtain ⟨g, e, g0⟩ := h
  rw [e]
  rfl
theorem plainTrailsZ : PlainT Try.prog 36 := fun w a v h => by simp [loadVar, go_sem, h]
theorem wpo_store_at {P : Program} {op : Oper} {a : Act} {w : World} {K : Act → World → Prop} {Q : Exit → Act → World → Prop} (ty : TypeId) (x y : Operand) (ho : op.op = .store ty x y)
    (b o : Nat) (cs : List Value) (hx : a.eval x = .pointer (some ⟨b, o, none⟩)) (hy : a.eval y = .agg cs.toArray) (hw : WrAt w b o cs.length) (h1 : One cs) (hi : RowT P ty cs.length)
    (h : K (a.put op.dst undef) (putL b o cs 0 w)) : Oper.wp P op a w K Q := by
  obtain ⟨d, hu, hd, hi⟩ := hi
  refine wp_store_mid ty x y ho b o cs.toArray hx hy (fun j hj => hw.2 j (by simpa using hj)) (by simpa using hi) (all_oneCell_toArray h1) ?_
  have e : ∀ (vs : List Value) (j : Nat) (w : World), w.setCells b (o + j) vs = putL b o vs j w := by
    intro vs
    induction vs with
    | nil => intro j w; rfl
    | cons v r ih => intro j w; exact ih (j + 1) _
  have e0 := e cs 0 w
  rw [Nat.add_zero] at e0
  simpa [e0] using h
set_option maxHeartbeats 2000000 in
theorem implCopyStripe1 (x : StripeD) (S : Nat → Prop) (c0 : List Value) (w : World) (h0 : stripeR w S c0 x) (b0 : stripeBulk x ≤ 1048576) :
    Calls Try.prog 84 #[.agg c0.toArray] w fun e w' => ∃ cs', e = .returned (.agg cs'.toArray) ∧ stripeC w' (Within w.heap.size w'.heap.size) cs' x ∧ Below w.heap.size w w' := by
  obtain ⟨s0, rfl, g0⟩ := h0
  obtain ⟨a0, k0, rfl⟩ := g0.form
  unfold stripeBulk at b0
  have B1 := bthen (bnew w (.cells #[.int .i64 x.held, .slice a0 x.l.length k0] 68)) (bnew (w.alloc (.cells #[.int .i64 x.held, .slice a0 x.l.length k0] 68)) (.cells #[.int .i64 0, .slice none 0 0] 68))
  have P1 := (Held.new w [.int .i64 x.held, .slice a0 x.l.length k0] 68).keep (bnew (w.alloc (.cells #[.int .i64 x.held, .slice a0 x.l.length k0] 68)) (.cells #[.int .i64 0, .slice none 0 0] 68))
  have R1 : WrAt ((w.alloc (.cells #[.int .i64 x.held, .slice a0 x.l.length k0] 68)).alloc (.cells #[.int .i64 0, .slice none 0 0] 68)) (w.heap.size + 1) 0 2 := by have := WrAt.new (w.alloc (.cells #[.int .i64 x.held, .slice a0 x.l.length k0] 68)) #[.int .i64 0, .slice none 0 0] 68 2 rfl; simpa using this
  have HS1 : Hid (((w.alloc (.cells #[.int .i64 x.held, .slice a0 x.l.length k0] 68)).alloc (.cells #[.int .i64 0, .slice none 0 0] 68)).heap.size = w.heap.size + 2) := hide (by simp)
  have HGL : ∀ w', ((Below w.heap.size w w' ∧ Held w' w.heap.size [.int .i64 x.held, .slice a0 x.l.length k0]) ∧ (WrAt w' (w.heap.size + 1) 0 2 ∧ ((w.alloc (.cells #[.int .i64 x.held, .slice a0 x.l.length k0] 68)).alloc (.cells #[.int .i64 0, .slice none 0 0] 68)).heap.size ≤ w'.heap.size)) → LAt 4 trailR w' S (.slice a0 x.l.length k0) x.l := fun w' h => g0.keep trailR_keeps h.1.1
  clear g0
  go_enter Try.func84, Try.ntmps84
  go_upto_region 1 with fail
  generalize World.alloc (World.alloc w _) _ = w1 at *
  have hz1 : w.heap.size < w1.heap.size := P1.1
  have hz2 : w.heap.size + 1 < w1.heap.size := R1.1
  refine wp_region_held_drew (S := fun w' => (Below w.heap.size w w' ∧ Held w' w.heap.size [.int .i64 x.held, .slice a0 x.l.length k0]) ∧ (WrAt w' (w.heap.size + 1) 0 2 ∧ w1.heap.size ≤ w'.heap.size)) (by kernel_rfl) ⟨⟨B1.drew, P1.keep (Below.drew (Below.refl _ _))⟩, ⟨R1.keep (Below.drew (Below.refl _ _)), Nat.le_refl _⟩⟩ (fun hHeld => ?_)
  refine wpAnyH_take (i := 0) (oi := ?oo1) (v := ?vv1) ?hi1 (by kernel_rfl) (by kernel_rfl) (by kernel_rfl) ?hQ1 ?hy1 (by assumption) ?rest1
  case hi1 => (simp only [List.getElem?_toArray, List.getElem?_cons_zero]; rfl)
  case hQ1 => exact fun _ _ _ h => h
  case hy1 => exact Or.inl ⟨by rfl, by intro wS hSw; (try dsimp only at hSw); go_simp; try first | (with_reducible rfl) | (simp only [*]; done) | omega⟩
  try simp only [Act.put, List.setIfInBounds_toArray, List.set_cons_zero, List.set_cons_succ]
  refine wpAnyH_take (i := 1) (oi := ?oo2) (v := .int .i64 x.held) ?hi2 (by kernel_rfl) (by kernel_rfl) (by kernel_rfl) ?hQ2 ?hy2 (by assumption) ?rest2
  case hi2 => (simp only [List.getElem?_toArray, List.getElem?_cons_zero, List.getElem?_cons_succ]; rfl)
  case hQ2 => exact fun _ _ _ h => h
  case hy2 => exact yld_cell (by rfl) 3 _ rfl w.heap.size 0 rfl _ (fun w' hS => hS.1.2.2 0 _ rfl) plainInt
  try simp only [Act.put, List.setIfInBounds_toArray, List.set_cons_zero, List.set_cons_succ]
  refine wpAnyH_take (i := 2) (oi := ?oo3) (v := ?vv3) ?hi3 (by kernel_rfl) (by kernel_rfl) (by kernel_rfl) ?hQ3 ?hy3 (by assumption) ?rest3
  case hi3 => (simp only [List.getElem?_toArray, List.getElem?_cons_zero, List.getElem?_cons_succ]; rfl)
  case hQ3 => exact fun _ _ _ h => h
  case hy3 => exact Or.inl ⟨by rfl, by intro wS hSw; (try dsimp only at hSw); go_simp; try first | (with_reducible rfl) | (simp only [*]; done) | omega⟩
  try simp only [Act.put, List.setIfInBounds_toArray, List.set_cons_zero, List.set_cons_succ]
  refine wpAnyH_take (i := 3) (oi := ?oo4) (v := .slice a0 x.l.length k0) ?hi4 (by kernel_rfl) (by kernel_rfl) (by kernel_rfl) ?hQ4 ?hy4 (by assumption) ?rest4
  case hi4 => (simp only [List.getElem?_toArray, List.getElem?_cons_zero, List.getElem?_cons_succ]; rfl)
  case hQ4 => exact fun _ _ _ h => h
  case hy4 => exact yld_cell (by rfl) 36 _ rfl w.heap.size 1 rfl _ (fun w' hS => hS.1.2.2 1 _ rfl) plainTrailsZ
  try simp only [Act.put, List.setIfInBounds_toArray, List.set_cons_zero, List.set_cons_succ]
  refine wpAnyH_ready (rs := [4]) (by kernel_rfl) (by simp) ?_
  refine (AllReadyH.cons (o := ?bo5n4) ?bh5n4 (fun K hK => ?br5n4) AllReadyH.nil)
  case bh5n4 => (simp only [List.getElem?_toArray, List.getElem?_cons_zero, List.getElem?_cons_succ]; rfl)
  case br5n4 =>
    go_simp
    refine (implCopyTrails x.l S _ _ (HGL _ hHeld) b0).mono ?_
    rintro e w4 ⟨g4, rfl, y, hb4⟩
    have hH4 := hide (show (fun w' => (Below w.heap.size w w' ∧ Held w' w.heap.size [.int .i64 x.held, .slice a0 x.l.length k0]) ∧ (WrAt w' (w.heap.size + 1) 0 2 ∧ w1.heap.size ≤ w'.heap.size)) w4 from ⟨⟨bthen hHeld.1.1 hb4, hHeld.1.2.keep hb4⟩, ⟨hHeld.2.1.keep hb4, Nat.le_trans hHeld.2.2 hb4.size⟩⟩)
    have HP := hide (And.intro hHeld.2.2 y)
    clear y hb4 hHeld
    go_wp2_with fail
    refine hK.out _ _ ((unhide hH4)) (fun hHeld => ?_)
    clear hK
    refine wpAnyH_take (i := 5) (oi := ?oo6) (v := .agg #[.int .i64 x.held, .slice (some ⟨g4, 0, none⟩) x.l.length x.l.length]) ?hi6 (by kernel_rfl) (by kernel_rfl) (by kernel_rfl) ?hQ6 ?hy6 (by assumption) ?rest6
    case hi6 => (simp only [List.getElem?_toArray, List.getElem?_cons_zero, List.getElem?_cons_succ]; rfl)
    case hQ6 => exact fun _ _ _ h => h
    case hy6 => exact Or.inl ⟨by rfl, by intro wS hSw; (try dsimp only at hSw); go_simp; try first | (with_reducible rfl) | (simp only [*]; done) | omega⟩
    try simp only [Act.put, List.setIfInBounds_toArray, List.set_cons_zero, List.set_cons_succ]
    refine wpAnyH_ready (rs := [6]) (by kernel_rfl) (by simp) ?_
    refine (AllReadyH.cons (o := ?bo7n6) ?bh7n6 (fun K hK => ?br7n6) AllReadyH.nil)
    case bh7n6 => (simp only [List.getElem?_toArray, List.getElem?_cons_zero, List.getElem?_cons_succ]; rfl)
    case br7n6 =>
      refine wpo_store_at 68 _ _ rfl (w.heap.size + 1) 0 [.int .i64 x.held, .slice (some ⟨g4, 0, none⟩) x.l.length x.l.length] rfl rfl hHeld.2.1 (by intro v hv; simp only [List.mem_cons, List.not_mem_nil, or_false] at hv; rcases hv with rfl | rfl <;> rfl) rowIStripe ?_
      have t6 := putL_turn (w.heap.size + 1) 0 [.int .i64 x.held, .slice (some ⟨g4, 0, none⟩) x.l.length x.l.length] 0 w4
      have HT := hide (And.intro (putL_at (b := w.heap.size + 1) (o := 0) [.int .i64 x.held, .slice (some ⟨g4, 0, none⟩) x.l.length x.l.length] 0 hHeld.2.1 (by omega) (by simp)) (And.intro ((unhide HP).2.turn trailO_keeps t6 (fun k hk e => by have := hk.1; have := (unhide HP).1; omega)) (And.intro (hHeld.1.1.trans (t6.belowFrom hHeld.1.1.size (fun k hk => by omega))) t6.size)))
      refine hK.out _ _ (⟨⟨(unhide HT).2.2.1, hHeld.1.2.turn t6 (fun e => by omega)⟩, ⟨putL_wr _ _ hHeld.2.1, Nat.le_trans hHeld.2.2 t6.size⟩⟩) (fun hHeld => ?_)
      clear hK
      refine wpAnyH_done (by kernel_rfl) ?_ _
      obtain ⟨i6, y6, B6, hz6⟩ := unhide HT
      have hq := (unhide HP).1
      have hs1 := unhide HS1
      go_wp2
      refine bodyPost_ret (v := .agg #[.int .i64 x.held, .slice (some ⟨g4, 0, none⟩) x.l.length x.l.length]) (res_row (t := 2) (cs := [.int .i64 x.held, .slice (some ⟨g4, 0, none⟩) x.l.length x.l.length]) rfl rfl i6 rowIStripe) rfl ⟨[.int .i64 x.held, .slice (some ⟨g4, 0, none⟩) x.l.length x.l.length], rfl, ⟨g4, rfl, y6.widens (fun k hk => ⟨by have := hk.1; omega, by have := hk.2; omega⟩)⟩, B6⟩
set_option maxHeartbeats 4000000 in
theorem implEachStripeC (l : List StripeD) (S : Nat → Prop) (v : Value) (w : World) (h0 : LAt 2 stripeR w S v l) (b0 : bulkL stripeBulk l ≤ 1048576) :
    Calls Try.prog 83 #[v, .func (.func 84) #[] #[]] w fun e w' => ∃ g, e = .returned (.slice (some ⟨g, 0, none⟩) l.length l.length) ∧ LOw 2 stripeC w' (Within w.heap.size w'.heap.size) (.slice (some ⟨g, 0, none⟩) l.length l.length) l ∧ Below w.heap.size w w' := by
  obtain ⟨a, cap, rfl⟩ := h0.form
  have hl := bulkL_len stripeBulk l
  have HA := hide h0
  clear h0
  obtain ⟨w0, hmk, hrow, hb0⟩ := mMakeStripe l.length (by omega) w
  go_enter Try.func83, Try.ntmps83
  go_wp2
  go_loopw [13] (fun i wk => ∃ k : Nat, k ≤ l.length ∧ i = .int .i64 k ∧ Below w.heap.size w wk ∧ Hid (Filled 2 stripeC w wk l k)) (fun i _ => l.length - (intOf i).toNat)
  case atStart => exact ⟨0, Nat.zero_le _, rfl, hb0, hide (Filled.start _ _ _ _ _ hrow)⟩
  case round =>
    obtain ⟨k, hk, rfl, hbl, hfl⟩ := hrel
    have hbs := hbl.size
    by_cases hlt : k < l.length
    · have hki : (k : Int) < (l.length : Int) := by omega
      obtain ⟨b, o, cs, rfl, hbk, hSb, hcs, hin⟩ := (unhide HA).at k hlt
      have hcs := stripeR_keeps _ _ S None1 cs _ (Below.turn hbl) none_off hcs
      have hin := hin.turn hbk (Below.turn hbl) (fun e => e)
      have hXb : stripeBulk l[k] ≤ 1048576 := by have := bulkL_mem stripeBulk (List.getElem_mem hlt); omega
      have hrw : RowT Try.prog 68 cs.length := by rw [stripeR_len hcs]; exact rowIStripe
      have HL1 := hide (stripeR_len hcs)
      have on1 := stripeR_one hcs
      generalize hX : l[k] = X at *
      have HX := hide hX
      have hA1 := Held.new wr cs 68
      have hbA := bnew wr (.cells cs.toArray 68)
      have hcs := stripeR_keeps _ _ S None1 cs _ (Below.turn hbA) none_off hcs
      have HBA := hide hbA
      clear hX hmk hrow hbA
      go_upto_region 5 with (first | (refine wpl_load rfl 68 _ rfl _ _ rfl cs hin hrw ?_) | (refine wpl_store_new rfl _ _ _ rfl _ cs rfl rfl ?_ on1 hrw ?_; (rw [unhide HL1]; rfl)))
      generalize hWa : World.alloc wr _ = wa at *
      have hI := hA1.inB
      clear hWa hin on1 hA1
      go_wp2_with (first | (refine wpl_load rfl 68 _ rfl _ 0 rfl cs hI hrw ?_))
      refine (implCopyStripe1 X S cs wa hcs hXb).mono ?_
      rintro e w2 ⟨cs2, rfl, yy, hb2'⟩
      have hb2 := bthen (unhide HBA) hb2'
      have hln := stripeC_len yy
      have on2 := stripeR_one (stripeC_read _ _ _ _ yy)
      have hri : RowT Try.prog 68 cs2.length := by rw [hln]; exact rowIStripe
      have hwr : WrAt w2 w.heap.size (k * 2) cs2.length := by
        have h := ((unhide hfl).1.keep hb2).part (k * 2) 2 (by omega)
        rw [hln]; rwa [Nat.zero_add] at h
      have yy := stripeC_widens _ _ (Within wr.heap.size w2.heap.size) _ _ (fun k hk => ⟨Nat.le_trans (unhide HBA).size hk.1, hk.2⟩) yy
      have HB := hide (And.intro yy (And.intro hb2 hln))
      clear yy hb2 hln hb2' HBA hI hcs
      go_wp2_with (first | (refine wpl_store_at rfl 68 _ _ rfl _ _ cs2 rfl rfl hwr on2 hri ?_))
      go_roundw
      case rel =>
        obtain ⟨yy, hb2, hln⟩ := unhide HB
        have st := Filled.step (cs := cs2) stripeC_keeps (unhide hfl) hlt hb2 (by rw [unhide HX]; exact yy) hln
        exact ⟨k + 1, by omega, by go_num, (bthen hbl hb2).trans ((putL_turn _ _ _ _ _).belowFrom (bthen hbl hb2).size (fun k hk => by omega)), hide st⟩
      case measure => simp [intOf]; omega
    · have hki : ¬ (k : Int) < (l.length : Int) := by omega
      obtain rfl : k = l.length := by omega
      go_wp2
      go_ret
      exact ⟨_, rfl, (unhide hfl).done (by omega), hbl⟩
theorem implCopyStripes (l : List StripeD) (S : Nat → Prop) (v : Value) (w : World) (h0 : LAt 2 stripeR w S v l) (b0 : bulkL stripeBulk l ≤ 1048576) :
    Calls Try.prog 46 #[v] w fun e w' => ∃ g, e = .returned (.slice (some ⟨g, 0, none⟩) l.length l.length) ∧ LOw 2 stripeC w' (Within w.heap.size w'.heap.size) (.slice (some ⟨g, 0, none⟩) l.length l.length) l ∧ Below w.heap.size w w' := by
  have H := hide (implEachStripeC l S v w h0 b0)
  go_enter Try.func46, Try.ntmps46
  go_wp2_with fail
  refine (unhide H).mono ?_
  rintro e w2 ⟨v2, rfl, y, hb⟩
  go_wp2
  go_ret
  exact ⟨_, rfl, y, hb⟩
end Go.Proofs.Ytnlacjedamngkaa
