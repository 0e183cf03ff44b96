/-
  OldestOf of the program: each trail is added to the heap, whose root is copied.
-/
import Derived.Test.YtjhlammjnggghaaOld1
import Derived.Test.YtjhlammjnggghaaHeldB
import Derived.Test.YtjhlammjnggghaaTrl2
namespace Go.Proofs.Ytjhlammjnggghaa
open Go.ChangeShapes Go.WideShapes Go.ChangeAt Go.RowKit Go.Sort
set_option linter.unusedVariables false
set_option maxRecDepth 100000

theorem res_row2O {P : Program} {fn : Func} {tmps : Array Value} {w : World} {t u : Tmp} {ty : TypeId} {b o : Nat} {cs : List Value} {v : Value} (hr : fn.results = #[.cell t ty, .tmp u]) (ht : tmps.getD t undef = .pointer (some ⟨b, o, none⟩)) (hu : tmps.getD u undef = v) (h : InB w b o cs) (hrow : RowT P ty cs.length) :
    (results fn tmps).run P w = .ok (.tuple #[.agg cs.toArray, v]) w := by
  obtain ⟨d, hu', hd, hi⟩ := hrow
  have hl := run_loadVar_mid (P := P) w b o ty cs d h hu' hd hi
  unfold results
  rw [hr]
  have ht' : tmps[t]?.getD undef = .pointer (some ⟨b, o, none⟩) := by simpa using ht
  have hu2 : tmps[u]?.getD undef = v := by simpa using hu
  simp [ht', hu2, asAddr, hl]
theorem foldl_snocO (l s : List TrailD) : l.foldl snocO s = s ++ l := by
  induction l generalizing s with
  | nil => simp
  | cons x r ih => rw [List.foldl_cons, ih]; simp [snocO]
theorem flat_sumO (l : List StripeD) : (l.flatMap StripeD.l).length ≤ (l.map stripeBulk).sum := by
  induction l with
  | nil => simp
  | cons x r ih =>
    rw [List.flatMap_cons, List.length_append, List.map_cons, List.sum_cons]
    have : x.l.length ≤ stripeBulk x := by unfold stripeBulk; exact bulkL_len trailBulk x.l
    omega
theorem flat_leO {l : List StripeD} {k N : Nat} (h : k < l.length) (b : bulkL stripeBulk l ≤ N) : ((l.take k).flatMap StripeD.l).length + l[k].l.length ≤ N := by
  have h1 : (l.flatMap StripeD.l).length ≤ N := by
    have := flat_sumO l
    unfold bulkL at b
    omega
  have e : l = l.take k ++ l[k] :: l.drop (k + 1) := by rw [List.getElem_cons_drop, List.take_append_drop]
  rw [e, List.flatMap_append, List.length_append, List.flatMap_cons, List.length_append] at h1
  have e2 : (l.take k ++ l[k] :: l.drop (k + 1)).take k = l.take k := by rw [← e]
  omega
def oldO (l : List StripeD) : Option TrailD := bestL (l.flatMap StripeD.l)
def oldT (l : List StripeD) : TrailD := (oldO l).getD ⟨0, 0, 0, []⟩
def oldB (l : List StripeD) : Bool := (oldO l).isSome
theorem no_trailO (w : World) (S : Nat → Prop) : trailR w S [.int .i64 0, .int .i64 0, .int .i64 0, .slice none 0 0] ⟨0, 0, 0, []⟩ := ⟨_, rfl, none, 0, rfl, by simp, .inl rfl⟩
theorem implAgesAddR (t : TrailD) (ds : List Value) (S0 : Nat → Prop) (bp : Nat) (w0 w : World) (ts : List TrailD) (h0 : trailR w0 S0 ds t) (b0 : trailBulk t ≤ 1048576) (hi : AgeM bp w0.heap.size S0 w0 w ts) (hb : Below w0.heap.size w0 w) (hlen : ts.length + 1 ≤ 1048577) :
    Calls Try.prog 113 #[.pointer (some ⟨bp, 0, none⟩), .agg ds.toArray] w fun e w' => e = .returned (.tuple #[]) ∧ AgeM bp w0.heap.size S0 w0 w' (snocO ts t) ∧ Below w0.heap.size w0 w' := by
  obtain ⟨s, rfl, g⟩ := h0
  exact implAgesAdd t s S0 bp w0 w ts g b0 hi hb hlen
set_option maxHeartbeats 4000000 in
theorem implEachAge (l : List StripeD) (S0 : Nat → Prop) (v0 : Value) (w0 w : World) (h0 : LAt 2 stripeR w0 S0 v0 l) (b0 : bulkL stripeBulk l ≤ 1048576) (hb0 : Below w0.heap.size w0 w) (bp : Nat) (s0 : List TrailD) (hs0 : Hid (s0 = [])) (hi : AgeM bp w0.heap.size S0 w0 w s0) :
    Calls Try.prog 112 #[v0, .func (.func 113) #[.pointer (some ⟨bp, 0, none⟩)] #[]] w fun e w' => e = .returned (.tuple #[]) ∧ AgeM bp w0.heap.size S0 w0 w' ((l.flatMap StripeD.l).foldl (snocO) s0) ∧ Below w0.heap.size w0 w' := by
  obtain ⟨a, cap, rfl⟩ := h0.form
  have hl := h0.len
  have HA := hide h0
  have HI := hide hi
  clear h0 hi
  go_enter Try.func112, Try.ntmps112
  go_wp2
  go_loopw [10] (fun i wk => ∃ k : Nat, k ≤ l.length ∧ i = .int .i64 k ∧ Hid (AgeM bp w0.heap.size S0 w0 wk (((l.take k).flatMap StripeD.l).foldl (snocO) s0)) ∧ Below w0.heap.size w0 wk) (fun i _ => l.length - (intOf i).toNat)
  case atStart => exact ⟨0, Nat.zero_le _, rfl, HI, hb0⟩
  case round =>
    obtain ⟨k, hk, rfl, hiv, hbl⟩ := hrel
    clear HI
    by_cases hlt : k < l.length
    · have hki : (k : Int) < (l.length : Int) := by omega
      obtain ⟨b, o, cs, rfl, hbk, hSb, hcs, hin⟩ := (unhide HA).at k hlt
      have hin := hin.turn hbk (Below.turn hbl) (fun e => e)
      have hXb : stripeBulk l[k] ≤ 1048576 := by have := bulkL_mem stripeBulk (List.getElem_mem hlt); omega
      have hrw : RowT Try.prog 140 cs.length := by rw [stripeR_len hcs]; exact rowIStripe
      have HSN := hide (flat_snoc (f := StripeD.l) (g := snocO) (s := s0) hlt)
      have HBD : Hid (((l.take k).flatMap StripeD.l).length + l[k].l.length ≤ 1048576) := hide (flat_leO hlt b0)
      generalize hX : l[k] = X at *
      clear hX
      have HL1 := hide (stripeR_len hcs)
      have on1 := stripeR_one hcs
      obtain ⟨a1, k1, z1, g1⟩ := stripeR_c1 hcs
      have HZ1 := hide z1
      have hl1 := g1.len
      have hA1 := Held.new wr cs 140
      have hbA := bnew wr (.cells cs.toArray 140)
      have HI := hide (AgeM.keep (unhide hiv) hbA)
      have HG := hide g1
      have hbl := Below.trans hbl (hbA.mono hbl.size)
      clear z1 g1 hiv
      go_upto_region 3 with (first | (refine wpl_load rfl 140 _ rfl _ _ rfl cs hin hrw ?_) | (refine wpl_store_new rfl _ _ _ rfl _ cs rfl rfl ?_ on1 hrw ?_; (rw [unhide HL1]; rfl)))
      generalize hWa : World.alloc wr _ = wa at *
      clear hWa hin hrw on1
      have i1 := hA1.2 1 _ (unhide HZ1)
      go_wp2
      go_loopw [17] (fun i wk => ∃ j : Nat, j ≤ X.l.length ∧ i = .int .i64 j ∧ Hid (AgeM bp w0.heap.size S0 w0 wk ((X.l.take j).foldl (snocO) (((l.take k).flatMap StripeD.l).foldl (snocO) s0))) ∧ Below w0.heap.size w0 wk) (fun i _ => X.l.length - (intOf i).toNat)
      case atStart => exact ⟨0, Nat.zero_le _, rfl, HI, hbl⟩
      case round =>
        obtain ⟨j, hj, rfl, hiv, hbl2⟩ := hrel
        by_cases hlt2 : j < X.l.length
        · have hji : (j : Int) < (X.l.length : Int) := by omega
          obtain ⟨c, q, ds, rfl, hck, hSc, hds0, hjn0⟩ := (unhide HG).at j hlt2
          have hjn := hjn0.turn hck (Below.turn hbl2) (fun e => e)
          clear hjn0
          have hYb : trailBulk X.l[j] ≤ 1048576 := by have := bulkL_mem trailBulk (List.getElem_mem hlt2); unfold stripeBulk at hXb; omega
          have hrw : RowT Try.prog 44 ds.length := by rw [trailR_len hds0]; exact rowITrail
          have HTS := hide (fold_snoc (g := snocO) (s := ((l.take k).flatMap StripeD.l).foldl (snocO) s0) hlt2)
          generalize hY : X.l[j] = Y at *
          clear hY
          have HL2 := hide (trailR_len hds0)
          have on2 := trailR_one hds0
          have hB1 := Held.new wr ds 44
          have hbB := bnew wr (.cells ds.toArray 44)
          have hiw := AgeM.keep (unhide hiv) hbB
          have HD0 := hide hds0
          clear hds0
          have hbl2 := Below.trans hbl2 (hbB.mono hbl2.size)
          clear hiv i1 hA1
          go_upto_region 6 with (first | (refine wpl_load rfl 44 _ rfl _ _ rfl ds hjn hrw ?_) | (refine wpl_store_new rfl _ _ _ rfl _ ds rfl rfl ?_ on2 hrw ?_; (rw [unhide HL2]; rfl)))
          generalize hWb : World.alloc wr _ = wb at *
          clear hWb hjn on2
          have HIW := hide hiw
          clear hiw
          go_wp2_with (first | (refine wpl_load rfl 44 _ rfl _ 0 rfl ds hB1.inB hrw ?_))
          refine (implAgesAddR Y ds S0 bp w0 _ _ (unhide HD0) hYb (unhide HIW) hbl2 (by rw [unhide hs0, foldl_snocO, foldl_snocO, List.nil_append, List.length_append, List.length_take]; have := unhide HBD; omega)).mono ?_
          rintro e w2 ⟨rfl, hiz, hb2⟩
          have HIZ := hide hiz
          clear hiz HIW
          go_wp2
          go_roundw
          case rel =>
            exact ⟨j + 1, by omega, by go_num, hide (by rw [unhide HTS]; exact unhide HIZ), hb2⟩
          case measure => simp [intOf]; omega
        · have hji : ¬ (j : Int) < (X.l.length : Int) := by omega
          obtain rfl : j = X.l.length := by omega
          have hfin : AgeM bp w0.heap.size S0 w0 wr (((l.take (k + 1)).flatMap StripeD.l).foldl (snocO) s0) := by rw [unhide HSN]; have h := unhide hiv; rw [List.take_length] at h; exact h
          have HFIN := hide hfin
          clear hfin hiv
          go_wp2
          go_roundw
          case rel => exact ⟨k + 1, by omega, by go_num, HFIN, hbl2⟩
          case measure => simp [intOf]; omega
    · have hki : ¬ (k : Int) < (l.length : Int) := by omega
      obtain rfl : k = l.length := by omega
      have hfin := unhide hiv
      rw [List.take_length] at hfin
      have HFIN := hide hfin
      clear hfin hiv
      go_wp2
      go_end0
      exact ⟨rfl, unhide HFIN, hbl⟩
set_option maxHeartbeats 2000000 in
theorem implOldest (S0 : Nat → Prop) (bp : Nat) (w0 w : World) (ts : List TrailD) (hi : AgeM bp w0.heap.size S0 w0 w ts) (hb : Below w0.heap.size w0 w) (hlen : ts.length ≤ 1048577) :
    Calls Try.prog 114 #[.pointer (some ⟨bp, 0, none⟩)] w fun e w' => ∃ cs, e = .returned (.tuple #[.agg cs.toArray, .bool (bestL ts).isSome]) ∧ trailR w0 S0 cs ((bestL ts).getD ⟨0, 0, 0, []⟩) ∧ trailBulk ((bestL ts).getD ⟨0, 0, 0, []⟩) ≤ 1048576 ∧ Below w.heap.size w w' := by
  have B1 := bnew w (.cells #[.int .i64 0, .int .i64 0, .int .i64 0, .slice none 0 0] 44)
  have R1 := WrAt.new w #[.int .i64 0, .int .i64 0, .int .i64 0, .slice none 0 0] 44 4 rfl
  have hs1 : w.heap.size < (w.alloc (.cells #[.int .i64 0, .int .i64 0, .int .i64 0, .slice none 0 0] 44)).heap.size := by simp
  have hi1 := hi.keep B1
  clear hi
  go_enter Try.func114, Try.ntmps114
  go_upto_region 1 with fail
  generalize World.alloc w _ = w1 at *
  obtain ⟨hlo, v, ps, hB, hrow, hpl, hkn, hroot⟩ := hi1
  obtain ⟨av, kv, rfl⟩ := owns_formO hrow
  have c0 := hB.cell
  rcases hroot with ⟨rfl, hr⟩ | ⟨r, hr0, hr, _⟩
  · obtain rfl : ts = [] := List.eq_nil_of_length_eq_zero hpl.symm
    have HR := hide hr
    clear hB hrow hkn hr hpl
    go_wp2_with (first | (refine wpl_store_at rfl 44 _ _ rfl _ 0 [.int .i64 0, .int .i64 0, .int .i64 0, .slice none 0 0] rfl rfl R1 (by intro v hv; simp only [List.mem_cons, List.not_mem_nil, or_false] at hv; rcases hv with rfl | rfl | rfl | rfl <;> rfl) rowITrail ?_))
    refine bodyPost_ret (v := .tuple #[.agg #[.int .i64 0, .int .i64 0, .int .i64 0, .slice none 0 0], .bool false]) (res_row2O (t := 2) (u := 3) (cs := [.int .i64 0, .int .i64 0, .int .i64 0, .slice none 0 0]) rfl rfl rfl (putL_at (b := w.heap.size) (o := 0) [.int .i64 0, .int .i64 0, .int .i64 0, .slice none 0 0] 0 R1 (by omega) (by simp)) rowITrail) rfl ⟨[.int .i64 0, .int .i64 0, .int .i64 0, .slice none 0 0], by rw [unhide HR]; rfl, by rw [unhide HR]; exact no_trailO _ _, by rw [unhide HR]; simp [trailBulk, bulkL], ?_⟩
    exact B1.trans ((putL_turn _ _ _ _ _).belowFrom B1.size (fun k hk => by have e : k = w.heap.size := hk; omega))
  · have HR := hide hr
    have hpos : 0 < ps.length := by
      rcases Nat.eq_zero_or_pos ps.length with e | e
      · rw [List.getElem?_eq_none (by omega)] at hr0; cases hr0
      · exact e
    have hts : 0 < ts.length := by omega
    rcases hrow.2 with ⟨_, h0⟩ | ⟨g, cap, cur, hv, hgb, _⟩
    · omega
    injection hv with hv1 hv2 hv3
    subst hv1
    subst hv3
    have hin := owns_in hrow hr0
    have hkr := hkn.rd hr0 (Below.refl _ _)
    rw [Nat.zero_mul] at hin
    have q1 : ((ts.length : Int) == 0) = false := beq_eq_false_iff_ne.2 (by omega)
    have q2 : (0 : Int) < (ts.length : Int) := by omega
    obtain ⟨x, sx⟩ := r
    have hon : One (tc (x, sx)) := trailR_one hkr.1
    have HK := hide hkr
    have R2 : WrAt w1 w.heap.size 0 (tc (x, sx)).length := R1
    have tt := putL_turn w.heap.size 0 (tc (x, sx)) 0 w1
    have B2 := B1.trans (tt.belowFrom B1.size (fun k hk => by have e : k = w.heap.size := hk; omega))
    have i6 := putL_at (b := w.heap.size) (o := 0) (tc (x, sx)) 0 R2 (by omega) (by omega)
    have HF := hide (And.intro B2 i6)
    clear hB hrow hkn hr hpl hkr hr0 tt B2 i6 R1
    go_wp2_with (first | (refine wpl_load rfl 44 _ rfl g 0 rfl (tc (x, sx)) hin rowITrail ?_) | (refine wpl_store_at rfl 44 _ _ rfl _ 0 (tc (x, sx)) rfl rfl R2 hon rowITrail ?_))
    exact bodyPost_ret (v := .tuple #[.agg (tc (x, sx)).toArray, .bool true]) (res_row2O (t := 2) (u := 3) (cs := tc (x, sx)) rfl rfl rfl (unhide HF).2 rowITrail) rfl ⟨tc (x, sx), by rw [unhide HR]; rfl, by rw [unhide HR]; exact (unhide HK).1, by rw [unhide HR]; exact (unhide HK).2, (unhide HF).1⟩
set_option maxHeartbeats 2000000 in
theorem implOldestOf (l : List StripeD) (S : Nat → Prop) (v : Value) (w : World) (h0 : LAt 2 stripeR w S v l) (b0 : bulkL stripeBulk l ≤ 1048576) :
    Calls Try.prog 25 #[v] w fun e w' => ∃ cs', e = .returned (.tuple #[.agg cs'.toArray, .bool (oldB l)]) ∧ trailO w' (Within w.heap.size w'.heap.size) cs' (oldT l) ∧ Below w.heap.size w w' := by
  obtain ⟨a, cap, rfl⟩ := h0.form
  have B1 := bnew w (.cells #[.int .i64 0, .int .i64 0, .int .i64 0, .slice none 0 0] 44)
  have R1 := WrAt.new w #[.int .i64 0, .int .i64 0, .int .i64 0, .slice none 0 0] 44 4 rfl
  have hs1 : (w.alloc (.cells #[.int .i64 0, .int .i64 0, .int .i64 0, .slice none 0 0] 44)).heap.size = w.heap.size + 1 := by simp
  have HA := hide (h0.keep stripeR_keeps B1)
  clear h0
  go_enter Try.func25, Try.ntmps25
  go_upto_region 1 with fail
  generalize World.alloc w _ = w1 at *
  have b2 := bnew w1 (.cells #[.slice none 0 0] 145)
  have hx : Boxed (w1.alloc (.cells #[.slice none 0 0] 145)) w1.heap.size 145 (.slice none 0 0) := Boxed.new _ _ _
  have hag : AgeM w1.heap.size w1.heap.size S w1 (w1.alloc (.cells #[.slice none 0 0] 145)) [] :=
    ⟨by omega, _, [], hx, World.ownsRow_nil _ _ _ _, rfl, (fun p hp => by simp at hp), .inl ⟨rfl, rfl⟩⟩
  have HAG := hide hag
  clear hx hag
  go_upto_region 2 with fail
  generalize World.alloc w1 _ = w2 at *
  obtain ⟨bp, hbp⟩ : ∃ bp, bp = w.heap.size + 1 := ⟨_, rfl⟩
  have HAG2 : Hid (AgeM bp w1.heap.size S w1 w2 []) := hide (by rw [show bp = w1.heap.size by omega]; exact unhide HAG)
  rw [← hbp]
  clear HAG hbp hs1
  go_wp2_with fail
  refine (implEachAge l S _ w1 w2 (unhide HA) b0 b2 bp [] (hide rfl) (unhide HAG2)).mono ?_
  rintro e w3 ⟨rfl, hag, hb3⟩
  rw [foldl_snocO, List.nil_append] at hag
  have HLN : Hid ((l.flatMap StripeD.l).length ≤ 1048577) := hide (by have := flat_sumO l; have e : bulkL stripeBulk l = l.length + (l.map stripeBulk).sum := rfl; omega)
  have HAG := hide hag
  have HB3 := hide hb3
  have R3 := R1.keep hb3
  have B3 := bthen B1 hb3
  clear hag HAG2 b2 R1 B1 HA hb3
  go_wp2_with fail
  refine (implOldest S bp w1 w3 _ (unhide HAG) (unhide HB3) (unhide HLN)).mono ?_
  rintro e w4 ⟨cs, rfl, hcs, hcb, hb4⟩
  rw [show bestL (l.flatMap StripeD.l) = oldO l from rfl] at hcs hcb ⊢
  have hc4 := trailR_keeps _ _ S None1 cs _ (Below.turn ((unhide HB3).trans (hb4.mono (unhide HB3).size))) none_off hcs
  have R4 := R3.keep hb4
  have B4 := bthen B3 hb4
  clear HAG HB3 HLN R3 B3 hb4 hcs
  have hone := trailR_one hc4
  obtain ⟨sv, rfl, g4⟩ := hc4
  obtain ⟨p4, k4, rfl⟩ := g4.form
  generalize hX : (oldO l).getD ⟨0, 0, 0, []⟩ = X at *
  have HX := hide hX
  clear hX
  have b5 := bnew w4 (.cells ([.int .i64 X.id, .int .i64 X.stamp, .int .i64 X.first, .slice p4 X.spans.length k4]).toArray 44)
  have P5 := Held.new w4 ([.int .i64 X.id, .int .i64 X.stamp, .int .i64 X.first, .slice p4 X.spans.length k4]) 44
  have g5 := g4.keep spanR_keeps b5
  have R5 := R4.keep b5
  have B5 := bthen B4 b5
  clear g4 R4 B4 b5
  go_upto_region 4 with (first | (refine wpl_store_new rfl _ _ _ rfl _ ([.int .i64 X.id, .int .i64 X.stamp, .int .i64 X.first, .slice p4 X.spans.length k4]) rfl rfl ?_ hone rowITrail ?_; rfl))
  generalize w4.heap.size = s5 at *
  generalize World.alloc w4 _ = w5 at *
  have HG := hide g5
  clear g5
  go_wp2_with (first | (refine wpl_load rfl 44 _ rfl _ 0 rfl ([.int .i64 X.id, .int .i64 X.stamp, .int .i64 X.first, .slice p4 X.spans.length k4]) P5.inB rowITrail ?_))
  refine (implCopyTrail X S ([.int .i64 X.id, .int .i64 X.stamp, .int .i64 X.first, .slice p4 X.spans.length k4]) w5 ⟨_, rfl, unhide HG⟩ hcb).mono ?_
  rintro e w6 ⟨cs4, rfl, yy, hb6⟩
  have R6 := R5.keep hb6
  have B6 := bthen B5 hb6
  have hs5 := B5.size
  have hlt5 := R5.1
  clear P5 HG R5 B5 hb6
  have hln := trailO_len yy
  have on4 := trailR_one (trailO_read _ _ _ _ yy)
  have hri : RowT Try.prog 44 cs4.length := by rw [hln]; exact rowITrail
  have R7 : WrAt w6 w.heap.size 0 cs4.length := by rw [hln]; exact R6
  have tt := putL_turn w.heap.size 0 cs4 0 w6
  have y6 := trailO_keeps _ _ _ _ _ _ tt (fun k hk e => by have := hk.1; have e2 : k = w.heap.size := e; omega) yy
  have i6 := putL_at (b := w.heap.size) (o := 0) cs4 0 R7 (by omega) (by omega)
  have B7 := B6.trans (tt.belowFrom B6.size (fun k hk => by have e2 : k = w.heap.size := hk; omega))
  have hz6 := tt.size
  have HF := hide (And.intro y6 (And.intro i6 B7))
  have hs6 := hide hs5
  clear yy tt y6 i6 B7 hln R6
  go_wp2_with (first | (refine wpl_store_at rfl 44 _ _ rfl _ 0 cs4 rfl rfl R7 on4 hri ?_))
  obtain ⟨y6, i6, B7⟩ := unhide HF
  refine bodyPost_ret (v := .tuple #[.agg cs4.toArray, .bool (oldO l).isSome]) (res_row2O (t := 2) (u := 3) (cs := cs4) rfl rfl rfl i6 hri) rfl ⟨cs4, rfl, ?_, B7⟩
  rw [show oldT l = X from unhide HX]
  exact trailO_widens _ _ _ _ _ (fun k hk => ⟨by have := hk.1; omega, by have := hk.2; omega⟩) y6
end Go.Proofs.Ytjhlammjnggghaa
