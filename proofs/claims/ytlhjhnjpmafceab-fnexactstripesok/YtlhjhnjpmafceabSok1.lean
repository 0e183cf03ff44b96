/-
  StripesOk of the program.
-/
import Derived.Test.YtlhjhnjpmafceabSok0
import Derived.Test.YtlhjhnjpmafceabNtw
import Derived.RangeFuncBox
namespace Go.Proofs.Ytlhjhnjpmafceab
open Go.ChangeShapes Go.WideShapes Go.ChangeAt Go.RowKit
set_option linter.unusedVariables false
set_option maxRecDepth 100000

def stampsL (l : List StripeD) : List Int := (l.flatMap StripeD.l).map TrailD.stamp
def stT (l : List StripeD) (i : Nat) : Bool := match l[i]? with
  | none => true
  | some s => inB s.held (-1) 4 && trailsB l.length i s.l
def stripesB (l : List StripeD) : Bool := inB l.length 1 3 && ((List.range l.length).all (stT l) && decide (stampsL l).Nodup)
theorem stT_at {l : List StripeD} {i : Nat} (h : i < l.length) : stT l i = (inB l[i].held (-1) 4 && trailsB l.length i l[i].l) := by
  unfold stT
  rw [List.getElem?_eq_getElem h]
theorem stripes_no {l : List StripeD} {i : Nat} (h : i < l.length) (hi : stT l i = false) : stripesB l = false := by
  have : (List.range l.length).all (stT l) = false := by
    rw [List.all_eq_false]
    exact ⟨i, List.mem_range.2 h, by rw [hi]; simp⟩
  unfold stripesB
  rw [this]
  simp
theorem stripes_yes {l : List StripeD} (hl : inB l.length 1 3 = true) (h : ∀ j, j < l.length → stT l j = true) : stripesB l = decide (stampsL l).Nodup := by
  have : (List.range l.length).all (stT l) = true := by
    rw [List.all_eq_true]
    exact fun j hj => h j (List.mem_range.1 hj)
  unfold stripesB
  rw [this, hl]
  simp
def snocT (s : List TrailD) (t : TrailD) : List TrailD := s ++ [t]
theorem foldl_snoc (l s : List TrailD) : l.foldl snocT s = s ++ l := by
  induction l generalizing s with
  | nil => simp
  | cons x r ih => rw [List.foldl_cons, ih]; simp [snocT]
theorem inB_lo {n lo hi : Int} (h : n < lo) : inB n lo hi = false := by unfold inB; rw [decide_eq_false (show ¬ lo ≤ n by omega)]; rfl
theorem inB_hi {n lo hi : Int} (h : hi < n) : inB n lo hi = false := by unfold inB; rw [decide_eq_false (show ¬ n ≤ hi by omega), Bool.and_false]
theorem flat_sum (l : List StripeD) : (l.flatMap StripeD.l).length ≤ (l.map stripeBulk).sum := by
  induction l with
  | nil => simp
  | cons x r ih =>
    rw [List.flatMap_cons, List.length_append, List.map_cons, List.sum_cons]
    have : x.l.length ≤ stripeBulk x := by unfold stripeBulk; exact bulkL_len trailBulk x.l
    omega
theorem flat_all {l : List StripeD} {N : Nat} (b : bulkL stripeBulk l ≤ N) : (l.flatMap StripeD.l).length ≤ N := by
  have := flat_sum l
  unfold bulkL at b
  omega
theorem flat_le {l : List StripeD} {k N : Nat} (h : k < l.length) (b : bulkL stripeBulk l ≤ N) : ((l.take k).flatMap StripeD.l).length + l[k].l.length ≤ N := by
  have h1 := flat_all b
  have e : l = l.take k ++ l[k] :: l.drop (k + 1) := by rw [List.getElem_cons_drop, List.take_append_drop]
  rw [e, List.flatMap_append, List.length_append, List.flatMap_cons, List.length_append] at h1
  have e2 : (l.take k ++ l[k] :: l.drop (k + 1)).take k = l.take k := by rw [← e]
  omega
theorem wpl_append_run5 {P : Program} {w : World} {ops : Array Oper} {rest : List Oper} {o : Oper} {a : Act} {Q : Exit → Act → World → Prop} (hgd : o.guard = none) (s x : Operand) (t : TypeId)
    (ho : o.op = .call { callee := .builtin .append, args := #[s, x], argTypes := #[t, t] }) (v u : Value) (hs : a.eval s = v) (hx : a.eval x = u) {v' : Value} {w' : World}
    (hr : (Builtin.append_ #[t, t] o.type #[v, u]).run P w = .ok v' w') (h : wpList P ops Q rest (a.put o.dst v') w') : wpList P ops Q (o :: rest) a w := by
  refine wpList_plain hgd fun K hK => ?_
  unfold Oper.wp execOp
  simp only [ho, resolve, invoke, builtin, Sem.run_bind, Sem.run_pure, Result.andThen_ok, List.map_toArray, List.map_cons, List.map_nil, hs, hx, hr]
  exact hK _ _ h
def StM (bp lo : Nat) (w : World) (ts : List TrailD) : Prop := lo ≤ bp ∧ ∃ g cap, Boxed w bp 94 (.slice (some ⟨g, 0, none⟩) ts.length cap) ∧ w.ownsRow lo 3 1 (.slice (some ⟨g, 0, none⟩) ts.length cap) ts.length (cellsI2 (ts.map TrailD.stamp))
theorem StM.keep {bp lo : Nat} {w w' : World} {ts : List TrailD} (h : StM bp lo w ts) (hb : Below w.heap.size w w') : StM bp lo w' ts := by
  obtain ⟨h1, g, cap, h2, h3⟩ := h
  exact ⟨h1, g, cap, (hb.block bp h2.lt).trans h2, owns_below h3 hb⟩
set_option maxHeartbeats 2000000 in
theorem implSt1 (t : TrailD) (S0 : Nat → Prop) (ds : List Value) (bp : Nat) (w0 w : World) (ts : List TrailD) (h0 : trailR w S0 ds t) (hi : StM bp w0.heap.size w ts) (hb : Below w0.heap.size w0 w) (hlen : ts.length + 1 ≤ 1048577) :
    Calls Try.prog 72 #[.agg ds.toArray, .pointer (some ⟨bp, 0, none⟩)] w fun e w' => e = .returned (.tuple #[]) ∧ StM bp w0.heap.size w' (snocT ts t) ∧ Below w0.heap.size w0 w' := by
  have q1 := trailR_c1 h0
  have P0 := Held.new w ds 44
  have b1 := bnew w (.cells ds.toArray 44)
  have hi1 := hi.keep b1
  have hs1 := b1.size
  have hbs := hb.size
  have hmx : (1048577 : Nat) ≤ maxLen := by unfold maxLen; omega
  clear h0 hi
  go_enter Try.func72, Try.ntmps72
  go_upto_region 1 with fail
  generalize w.alloc (.cells ds.toArray 44) = w1 at *
  have p1 := P0.2 1 _ q1
  obtain ⟨hlo, g, cap, hB, hrow⟩ := hi1
  have c0 := hB.cell
  have hrow2 := owns_below hrow (bnew w1 (.cells #[.int .i64 t.stamp] 3))
  obtain ⟨i0, hi, hz0, hz1, hz2⟩ := info_parts infoI2
  obtain ⟨v', w3, hr, how, hg, hv⟩ := run_append2 (P := Try.prog) (w1.alloc (.cells #[.int .i64 t.stamp] 3)) w0.heap.size 94 94 3 i0 _ 1 8 Try.underlying94 hi hz0 hz1 hz2 rfl (by decide) _ _ _ hrow2 ⟨w1.heap.size, 0, none⟩ 1 1 [.int .i64 t.stamp] rfl
    (lit_cells4 w1 [.int .i64 t.stamp] 3) (by intro u hu; simp at hu; subst hu; rfl) (by omega) (by omega) (by have := (bnew w1 (.cells #[.int .i64 t.stamp] 3)).size; omega)
  obtain ⟨g', cap', rfl⟩ := ownsRow_succ how
  obtain ⟨hv1, hv2, hr2, _, hb2⟩ := hB.appended (by decide) hrow (by omega) hlo how hg
  have c3 := hv1.cell
  have f3 := hv1.frozen
  have HF : Hid (StM bp w0.heap.size (w3.setCell ⟨bp, 0, none⟩ (.slice (some ⟨g', 0, none⟩) (ts.length + 1) cap')) (snocT ts t) ∧ Below w0.heap.size w0 (w3.setCell ⟨bp, 0, none⟩ (.slice (some ⟨g', 0, none⟩) (ts.length + 1) cap'))) := by
    unfold snocT
    refine hide ⟨⟨hlo, g', cap', ?_, ?_⟩, (hb.trans (b1.mono hbs)).trans hb2⟩
    · rw [List.length_append]; exact hv2
    · rw [List.length_append, List.map_append, List.map_cons, List.map_nil, cellsI2_snoc]; simpa using hr2
  clear hv1 hv2 hr2 hb2 how hg hv hrow hrow2 hB P0 b1
  go_wp2_with (first | (at_builtin; refine wpl_append_run5 rfl (.tmp 3) (.tmp 6) 94 rfl _ _ rfl rfl hr ?_))
  go_end0
  exact ⟨rfl, unhide HF⟩
set_option maxHeartbeats 4000000 in
theorem implEachSt (l : List StripeD) (S0 : Nat → Prop) (v0 : Value) (w0 w : World) (h0 : LAt 2 stripeR w0 S0 v0 l) (b0 : bulkL stripeBulk l ≤ 1048576) (hb0 : Below w0.heap.size w0 w) (bp : Nat) (s0 : List TrailD) (hs0 : Hid (s0 = [])) (hi : StM bp w0.heap.size w s0) :
    Calls Try.prog 71 #[v0, .func (.func 72) #[] #[.pointer (some ⟨bp, 0, none⟩)]] w fun e w' => e = .returned (.tuple #[]) ∧ StM bp w0.heap.size w' ((l.flatMap StripeD.l).foldl (snocT) s0) ∧ Below w0.heap.size w0 w' := by
  obtain ⟨a, cap, rfl⟩ := h0.form
  have hl := h0.len
  have HA := hide h0
  have HI := hide hi
  clear h0 hi
  go_enter Try.func71, Try.ntmps71
  go_wp2
  go_loopw [10] (fun i wk => ∃ k : Nat, k ≤ l.length ∧ i = .int .i64 k ∧ Hid (StM bp w0.heap.size wk (((l.take k).flatMap StripeD.l).foldl (snocT) s0)) ∧ Below w0.heap.size w0 wk) (fun i _ => l.length - (intOf i).toNat)
  case atStart => exact ⟨0, Nat.zero_le _, rfl, HI, hb0⟩
  case round =>
    obtain ⟨k, hk, rfl, hiv, hbl⟩ := hrel
    clear HI
    by_cases hlt : k < l.length
    · have hki : (k : Int) < (l.length : Int) := by omega
      obtain ⟨b, o, cs, rfl, hbk, hSb, hcs, hin⟩ := (unhide HA).at k hlt
      have hin := hin.turn hbk (Below.turn hbl) (fun e => e)
      have hXb : stripeBulk l[k] ≤ 1048576 := by have := bulkL_mem stripeBulk (List.getElem_mem hlt); omega
      have hrw : RowT Try.prog 113 cs.length := by rw [stripeR_len hcs]; exact rowIStripe
      have HSN := hide (flat_snoc (f := StripeD.l) (g := snocT) (s := s0) hlt)
      have HBD : Hid (((l.take k).flatMap StripeD.l).length + l[k].l.length ≤ 1048576) := hide (flat_le hlt b0)
      generalize hX : l[k] = X at *
      clear hX
      have HL1 := hide (stripeR_len hcs)
      have on1 := stripeR_one hcs
      obtain ⟨a1, k1, z1, g1⟩ := stripeR_c1 hcs
      have HZ1 := hide z1
      have hl1 := g1.len
      have hA1 := Held.new wr cs 113
      have hbA := bnew wr (.cells cs.toArray 113)
      have HI := hide (StM.keep (unhide hiv) hbA)
      have HG := hide g1
      have hbl := Below.trans hbl (hbA.mono hbl.size)
      clear z1 g1 hiv
      go_upto_region 3 with (first | (refine wpl_load rfl 113 _ rfl _ _ rfl cs hin hrw ?_) | (refine wpl_store_new rfl _ _ _ rfl _ cs rfl rfl ?_ on1 hrw ?_; (rw [unhide HL1]; rfl)))
      generalize hWa : World.alloc wr _ = wa at *
      clear hWa hin hrw on1
      have i1 := hA1.2 1 _ (unhide HZ1)
      go_wp2
      go_loopw [17] (fun i wk => ∃ j : Nat, j ≤ X.l.length ∧ i = .int .i64 j ∧ Hid (StM bp w0.heap.size wk ((X.l.take j).foldl (snocT) (((l.take k).flatMap StripeD.l).foldl (snocT) s0))) ∧ Below w0.heap.size w0 wk) (fun i _ => X.l.length - (intOf i).toNat)
      case atStart => exact ⟨0, Nat.zero_le _, rfl, HI, hbl⟩
      case round =>
        obtain ⟨j, hj, rfl, hiv, hbl2⟩ := hrel
        by_cases hlt2 : j < X.l.length
        · have hji : (j : Int) < (X.l.length : Int) := by omega
          obtain ⟨c, q, ds, rfl, hck, hSc, hds, hjn⟩ := ((unhide HG).keep trailR_keeps hbl2).at j hlt2
          have hYb : trailBulk X.l[j] ≤ 1048576 := by have := bulkL_mem trailBulk (List.getElem_mem hlt2); unfold stripeBulk at hXb; omega
          have hrw : RowT Try.prog 44 ds.length := by rw [trailR_len hds]; exact rowITrail
          have HTS := hide (fold_snoc (g := snocT) (s := ((l.take k).flatMap StripeD.l).foldl (snocT) s0) hlt2)
          generalize hY : X.l[j] = Y at *
          clear hY
          have HL2 := hide (trailR_len hds)
          have on2 := trailR_one hds
          have hB1 := Held.new wr ds 44
          have hbB := bnew wr (.cells ds.toArray 44)
          have hiw := StM.keep (unhide hiv) hbB
          have hds := trailR_keeps _ _ S0 None1 ds _ (Below.turn hbB) none_off hds
          have hbl2 := Below.trans hbl2 (hbB.mono hbl2.size)
          clear hiv i1 hA1
          go_upto_region 6 with (first | (refine wpl_load rfl 44 _ rfl _ _ rfl ds hjn hrw ?_) | (refine wpl_store_new rfl _ _ _ rfl _ ds rfl rfl ?_ on2 hrw ?_; (rw [unhide HL2]; rfl)))
          generalize hWb : World.alloc wr _ = wb at *
          clear hWb hjn on2
          have HIW := hide hiw
          clear hiw
          go_wp2_with (first | (refine wpl_load rfl 44 _ rfl _ 0 rfl ds hB1.inB hrw ?_))
          refine (implSt1 Y S0 ds bp w0 _ _ hds (unhide HIW) hbl2 (by rw [unhide hs0, foldl_snoc, foldl_snoc, List.nil_append, List.length_append, List.length_take]; have := unhide HBD; omega)).mono ?_
          rintro e w2 ⟨rfl, hiz, hb2⟩
          have HIZ := hide hiz
          clear hiz HIW
          go_wp2
          go_roundw
          case rel =>
            exact ⟨j + 1, by omega, by go_num, hide (by rw [unhide HTS]; exact unhide HIZ), hb2⟩
          case measure => simp [intOf]; omega
        · have hji : ¬ (j : Int) < (X.l.length : Int) := by omega
          obtain rfl : j = X.l.length := by omega
          have hfin : StM bp w0.heap.size wr (((l.take (k + 1)).flatMap StripeD.l).foldl (snocT) s0) := by rw [unhide HSN]; have h := unhide hiv; rw [List.take_length] at h; exact h
          have HFIN := hide hfin
          clear hfin hiv
          go_wp2
          go_roundw
          case rel => exact ⟨k + 1, by omega, by go_num, HFIN, hbl2⟩
          case measure => simp [intOf]; omega
    · have hki : ¬ (k : Int) < (l.length : Int) := by omega
      obtain rfl : k = l.length := by omega
      have hfin := unhide hiv
      rw [List.take_length] at hfin
      have HFIN := hide hfin
      clear hfin hiv
      go_wp2
      go_end0
      exact ⟨rfl, unhide HFIN, hbl⟩
set_option maxHeartbeats 1000000 in
theorem implStripesOk (l : List StripeD) (S0 : Nat → Prop) (v0 : Value) (w : World) (h0 : LAt 2 stripeR w S0 v0 l) (b0 : bulkL stripeBulk l ≤ 1048576) :
    Calls Try.prog 18 #[v0] w fun e w' => e = .returned (.bool (stripesB l)) ∧ Below w.heap.size w w' := by
  obtain ⟨a, cap, rfl⟩ := h0.form
  have hl := bulkL_len stripeBulk l
  have HA := hide h0
  clear h0
  cases hn : inB l.length 1 3
  · have HV : Hid (stripesB l = false) := hide (by unfold stripesB; rw [hn]; rfl)
    by_cases h1 : (l.length : Int) < 1
    · have hd : decide ((l.length : Int) < 1) = true := decide_eq_true h1
      go_enter Try.func18, Try.ntmps18
      go_wp2
      go_ret
      exact ⟨ret_bool (unhide HV).symm, Below.refl _ _⟩
    · have h3 : (3 : Int) < (l.length : Int) := by
        by_cases h : (l.length : Int) ≤ 3
        · have := (inB_iff (l.length : Int) 1 3).2 ⟨by omega, h⟩
          rw [hn] at this; cases this
        · omega
      have hd : decide ((l.length : Int) < 1) = false := decide_eq_false h1
      have hd3 : decide ((3 : Int) < (l.length : Int)) = true := decide_eq_true h3
      go_enter Try.func18, Try.ntmps18
      go_wp2
      go_ret
      exact ⟨ret_bool (unhide HV).symm, Below.refl _ _⟩
  obtain ⟨h1, h3⟩ := (inB_iff _ _ _).1 hn
  have HN := hide hn
  have hd : decide ((l.length : Int) < 1) = false := decide_eq_false (by omega)
  have hd3 : decide ((3 : Int) < (l.length : Int)) = false := decide_eq_false (by omega)
  have hd1 : ¬ (l.length : Int) < 1 := by omega
  have hd4 : ¬ (3 : Int) < (l.length : Int) := by omega
  clear hn
  go_enter Try.func18, Try.ntmps18
  go_wp2
  clear hd hd3 hd1 hd4
  go_loopw [16] (fun i wk => ∃ k : Nat, k ≤ l.length ∧ i = .int .i64 k ∧ Hid (∀ j, j < k → stT l j = true) ∧ Below w.heap.size w wk) (fun i _ => l.length - (intOf i).toNat)
  case atStart => exact ⟨0, Nat.zero_le _, rfl, hide (fun j hj => absurd hj (Nat.not_lt_zero _)), Below.refl _ _⟩
  case round =>
    obtain ⟨k, hk, rfl, hall, hbl⟩ := hrel
    have hbs := hbl.size
    by_cases hlt : k < l.length
    · have hki : (k : Int) < (l.length : Int) := by omega
      obtain ⟨b, o, cs, rfl, hbk, hSb, hcs, hin⟩ := (unhide HA).at k hlt
      have hin := hin.turn hbk (Below.turn hbl) (fun e => e)
      have hXb : stripeBulk l[k] ≤ 1048576 := by have := bulkL_mem stripeBulk (List.getElem_mem hlt); omega
      have hrw : RowT Try.prog 113 cs.length := by rw [stripeR_len hcs]; exact rowIStripe
      have HT := hide (stT_at hlt)
      generalize hX : l[k] = X at *
      clear hX
      have HL1 := hide (stripeR_len hcs)
      have on1 := stripeR_one hcs
      have q0 := stripeR_c0 hcs
      obtain ⟨a1, k1, z1, g1⟩ := stripeR_c1 hcs
      have HZ1 := hide (And.intro q0 z1)
      have hA1 := Held.new wr cs 113
      have hbA := bnew wr (.cells cs.toArray 113)
      have BL := Below.trans hbl (hbA.mono hbl.size)
      have HG := hide (implTrailsOk X.l S0 _ (k : Int) (l.length : Int) _ (g1.keep trailR_keeps BL) (by unfold stripeBulk at hXb; exact hXb))
      clear z1 g1 q0 hcs
      go_upto_region 6 with (first | (refine wpl_load rfl 113 _ rfl _ _ rfl cs hin hrw ?_) | (refine wpl_store_new rfl _ _ _ rfl _ cs rfl rfl ?_ on1 hrw ?_; (rw [unhide HL1]; rfl)))
      generalize hWa : World.alloc wr _ = wa at *
      clear hWa hin hrw on1 hbA
      have i0 := hA1.2 0 _ (unhide HZ1).1
      have i1 := hA1.2 1 _ (unhide HZ1).2
      clear hA1 HZ1
      by_cases u1 : X.held < -1
      · have HV : Hid (stripesB l = false) := hide (stripes_no hlt (by rw [unhide HT, inB_lo u1]; rfl))
        have du : decide (X.held < -1) = true := decide_eq_true u1
        go_wp2
        go_ret
        exact ⟨ret_bool (unhide HV).symm, BL⟩
      have du : decide (X.held < -1) = false := decide_eq_false u1
      by_cases u2 : (4 : Int) < X.held
      · have HV : Hid (stripesB l = false) := hide (stripes_no hlt (by rw [unhide HT, inB_hi u2]; rfl))
        have du2 : decide ((4 : Int) < X.held) = true := decide_eq_true u2
        go_wp2
        go_ret
        exact ⟨ret_bool (unhide HV).symm, BL⟩
      have du2 : decide ((4 : Int) < X.held) = false := decide_eq_false u2
      have HU : Hid (inB X.held (-1) 4 = true) := hide ((inB_iff _ _ _).2 ⟨by omega, by omega⟩)
      cases ht : trailsB l.length k X.l
      · have HTR := hide ht
        have HV : Hid (stripesB l = false) := hide (stripes_no hlt (by rw [unhide HT, ht, Bool.and_false]))
        clear ht
        go_wp2_with fail
        refine (unhide HG).mono ?_
        rintro e w2 ⟨rfl, hb2⟩
        rw [unhide HTR]
        go_wp2
        go_ret
        exact ⟨ret_bool (unhide HV).symm, BL.trans (hb2.mono BL.size)⟩
      · have HTR := hide ht
        have HV : Hid (stT l k = true) := hide (by rw [unhide HT, ht, unhide HU]; rfl)
        clear ht
        go_wp2_with fail
        refine (unhide HG).mono ?_
        rintro e w2 ⟨rfl, hb2⟩
        rw [unhide HTR]
        clear HG i0 i1 du du2 u1 u2
        go_wp2
        go_roundw
        case rel =>
          refine ⟨k + 1, by omega, by go_num, hide (fun j hj => ?_), BL.trans (hb2.mono BL.size)⟩
          by_cases hjk : j = k
          · subst hjk; exact unhide HV
          · exact unhide hall j (by omega)
        case measure => simp [intOf]; omega
    · have hki : ¬ (k : Int) < (l.length : Int) := by omega
      obtain rfl : k = l.length := by omega
      have HV := hide (stripes_yes (unhide HN) (unhide hall))
      have bA := bnew wr (.cells #[] 3)
      have bB := bnew (wr.alloc (.cells #[] 3)) (.cells #[.slice (some ⟨wr.heap.size, 0, none⟩) 0 0] 94)
      have BAB := bthen bA bB
      have hBx := Boxed.new (wr.alloc (.cells #[] 3)) 94 (.slice (some ⟨wr.heap.size, 0, none⟩) 0 0)
      have how0 := owns_below (World.ownsRow_made (base := wr.heap.size) (e := 3) (size := 1) wr #[] 0 (Nat.le_refl _) (by unfold maxLen; omega) rfl) bB
      have hsz1 : (wr.alloc (.cells #[] 3)).heap.size = wr.heap.size + 1 := by simp
      rw [hsz1] at hBx
      have hM : StM (wr.heap.size + 1) wr.heap.size ((wr.alloc (.cells #[] 3)).alloc (.cells #[.slice (some ⟨wr.heap.size, 0, none⟩) 0 0] 94)) [] := ⟨by omega, wr.heap.size, 0, hBx, how0⟩
      have HE := hide (implEachSt l S0 _ wr _ ((unhide HA).keep stripeR_keeps hbl) b0 BAB (wr.heap.size + 1) [] (hide rfl) hM)
      clear hM hBx how0 bA bB BAB hall hsz1
      go_wp2_with fail
      refine (unhide HE).mono ?_
      rintro e w2 ⟨rfl, hM2, hb2⟩
      rw [foldl_snoc, List.nil_append] at hM2
      obtain ⟨_, g, cap2, hB2, hrow⟩ := hM2
      have hfl := flat_all b0
      have hA2 := ints_done (zs := stampsL l) (v := .slice (some ⟨g, 0, none⟩) (l.flatMap StripeD.l).length cap2) (by unfold stampsL; rw [List.length_map]; exact hrow) (by unfold stampsL; rw [List.length_map]; omega)
      have HNT := hide (implNoneTwice (stampsL l) _ _ w2 (hA2.read intR_widens intO_read) (by unfold stampsL; rw [List.length_map]; exact hfl))
      have c2 := hB2.cell
      clear HE hB2 hrow hA2 hfl
      generalize (l.flatMap StripeD.l).length = NN at *
      go_wp2_with fail
      refine (unhide HNT).mono ?_
      rintro e w3 ⟨rfl, hb3⟩
      have HB := hide (bthen (hbl.trans (hb2.mono hbl.size)) hb3)
      clear hb2 hb3 HNT c2
      go_wp2
      go_ret
      exact ⟨ret_bool (unhide HV).symm, unhide HB⟩
end Go.Proofs.Ytlhjhnjpmafceab
