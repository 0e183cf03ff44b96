/-
  What draws things for a law, in cells of its own.
-/
import Derived.Test.YtchinpgjaddnkaaDoorDrF
import Derived.Test.YtchinpgjaddnkaaDoorCopy1
import Derived.Test.YtchinpgjaddnkaaDoorQLoad
namespace Go.Proofs.YtchinpgjaddnkaaDoor
open Go.ChangeShapes Go.WideShapes Go.ChangeAt Go.RowKit
set_option linter.unusedVariables false
set_option maxRecDepth 100000

set_option maxHeartbeats 1000000 in
theorem DrawTotalOf_any (a : Option Addr) (len cap : Nat) (w : World) (hl : len ≤ 1048576) (hy : Bytes w a len) :
    Calls Tryd.prog 7 #[.slice a len cap] w fun e w' => (∃ v l, e = .returned v ∧ 0 < l.length ∧ l.length ≤ 5 ∧ AllS l ∧ Cutty w' v l) ∧ Below w.heap.size w w' := by
  obtain ⟨i0, hi, hz0, hz1, hz2⟩ := info_parts infoSpanZ
  go_enter Tryd.func7, Tryd.ntmps7
  go_wp2_with fail
  refine (l1New_any a len cap w hl hy).mono ?_
  rintro e w1 ⟨b, rfl, hb, hc1, hw1⟩
  have hs1 := hw1.size
  have hlt1 := hc1.lt
  go_wp2_with fail
  refine (l3List_any b w1 hc1).mono ?_
  rintro e w2 ⟨⟨v, l, rfl, hll, ha, hg, gO, cO, hs⟩, hc2, ht2⟩
  have hs2 := ht2.size
  have hlt2 := hc2.lt
  subst hs
  have HG := hide hg
  have HA := hide ha
  clear hg ha hc1
  go_wp2_with fail
  refine (l3Any_any b w2 hc2).mono ?_
  rintro e w3 ⟨⟨cs, x, rfl, hso, hts⟩, hc3, ht3⟩
  have hs3 := ht3.size
  obtain ⟨sv, rfl, lo⟩ := hso
  obtain ⟨a0, c0, hsv⟩ := lo.form
  subst hsv
  have hso : spanO w3 (Within w2.heap.size w3.heap.size) [.int .i64 x.1, .int .i64 x.2.1, .int .i64 x.2.2.1, .int .i64 x.2.2.2.1, .bool x.2.2.2.2.1, .slice a0 x.2.2.2.2.2.length c0] x := ⟨_, rfl, lo⟩
  obtain ⟨v', w', hr, hg', hgr, hob, hob', a', c', rfl⟩ := GrowL.app1 (ty := 30) (tl := 30) spanO_keeps Tryd.underlying30 hi hz0 hz1 hz2 rfl (by decide) (unhide HG) hs2 ht3.turn (fun k e => by omega) hso (fun k h => h) rfl one_span (by omega) (by unfold maxLen; omega)
  have ta := (Turns.allocs (b := b) (w := w3) (.cells [.int .i64 x.1, .int .i64 x.2.1, .int .i64 x.2.2.1, .int .i64 x.2.2.2.1, .bool x.2.2.2.2.1, .slice a0 x.2.2.2.2.2.length c0].toArray 26))
  have t4 := ((ht2.trans ht3).trans ta).new (grown_turn hgr) (fun q e => (hob q e).1)
  have hfin : Cutty w' (.slice a' (l.length + 1) c') (l ++ [x]) := by
    obtain ⟨ga, rfl⟩ := grow_some hg'
    exact cutty_of hg' (by simp; omega) ⟨ga, c', by rw [List.length_append]; rfl⟩
  have hpos : 0 < (l ++ [x]).length := by simp
  have HB := hide (hw1.trans (t4.below hb hs1))
  have HF := hide (And.intro (allS_snoc (unhide HA) hts) hfin)
  have hln : (l ++ [x]).length ≤ 5 := by simp; omega
  clear hso lo hc2 hc3 ht2 ht3 hg' hgr hob hob' ta t4 hfin HG HA hts hw1
  generalize l ++ [x] = L at *
  go_wp2_with (first | (at_builtin; refine wpl_app rfl rfl rfl rfl hr ?_))
  go_ret
  exact ⟨⟨_, L, rfl, hpos, by omega, (unhide HF).1, (unhide HF).2⟩, unhide HB⟩
set_option maxHeartbeats 1000000 in
theorem DrawSpanOk_any (p : Option Addr) (len cap : Nat) (w : World) (hl : len ≤ 1048576) (hy : Bytes w p len) :
    Calls Tryd.prog 5 #[.slice p len cap] w fun e w' => (∃ cs x, e = .returned (.agg cs.toArray) ∧ spanO w' (Within w.heap.size w'.heap.size) cs x ∧ TinyS x) ∧ Below w.heap.size w w' := by
  have bz := bnew w (.cells #[.int .i64 0, .int .i64 0, .int .i64 0, .int .i64 0, .bool false, .slice none 0 0] 26)
  have R0 := WrAt.new w #[.int .i64 0, .int .i64 0, .int .i64 0, .int .i64 0, .bool false, .slice none 0 0] 26 6 rfl
  have hyz := hy.keep bz
  have hz0 : (w.alloc (.cells #[.int .i64 0, .int .i64 0, .int .i64 0, .int .i64 0, .bool false, .slice none 0 0] 26)).heap.size = w.heap.size + 1 := by simp
  go_enter Tryd.func5, Tryd.ntmps5
  go_upto_region 1 with fail
  generalize World.alloc w _ = w0 at *
  go_wp2_with fail
  refine (l1New_any p len cap w0 hl hyz).mono ?_
  rintro e w1 ⟨b, rfl, hb, hc1, hw1⟩
  have Z1 := bthen bz hw1
  have R1 := R0.keep hw1
  have hlt1 := hc1.lt
  have hs1 := hw1.size
  clear hyz bz R0 hw1
  go_wp2_with fail
  refine (l3Any_any b w1 hc1).mono ?_
  rintro e w2 ⟨⟨cs, x, rfl, hso, hts⟩, hc2, ht2⟩
  obtain ⟨sv, rfl, lo⟩ := hso
  obtain ⟨a0, c0, hsv⟩ := lo.form
  subst hsv
  have Z2 := Z1.trans (ht2.below (by omega) (by omega))
  have R2 := R1.turn ht2.turn (by omega)
  have tt9 := putL_turn w.heap.size 0 [.int .i64 x.1, .int .i64 x.2.1, .int .i64 x.2.2.1, .int .i64 x.2.2.2.1, .bool x.2.2.2.2.1, .slice a0 x.2.2.2.2.2.length c0] 0 w2
  have i3 := putL_at (b := w.heap.size) (o := 0) [.int .i64 x.1, .int .i64 x.2.1, .int .i64 x.2.2.1, .int .i64 x.2.2.2.1, .bool x.2.2.2.2.1, .slice a0 x.2.2.2.2.2.length c0] 0 R2 (by omega) (by simp)
  have hz9 := tt9.size
  have lo9 := (lo.turn attrO_keeps tt9 (fun k hk e => by have h1 := hk.1; have e2 : k = w.heap.size := e; omega)).widens (T := Within w.heap.size (putL w.heap.size 0 [.int .i64 x.1, .int .i64 x.2.1, .int .i64 x.2.2.1, .int .i64 x.2.2.2.1, .bool x.2.2.2.2.1, .slice a0 x.2.2.2.2.2.length c0] 0 w2).heap.size) (fun k hk => ⟨by have := hk.1; omega, by have := hk.2; omega⟩)
  have HF := hide (And.intro (Z2.trans (tt9.belowFrom Z2.size (fun q e => by omega))) (And.intro i3 (And.intro lo9 hts)))
  clear hc1 ht2 Z1 R1 hc2 Z2 tt9 i3 lo lo9 hts
  go_wp2_with (first | (refine wpl_store_at rfl 26 _ _ rfl _ 0 [.int .i64 x.1, .int .i64 x.2.1, .int .i64 x.2.2.1, .int .i64 x.2.2.2.1, .bool x.2.2.2.2.1, .slice a0 x.2.2.2.2.2.length c0] rfl rfl R2 one_span rowISpan ?_))
  exact bodyPost_ret (v := .agg #[.int .i64 x.1, .int .i64 x.2.1, .int .i64 x.2.2.1, .int .i64 x.2.2.2.1, .bool x.2.2.2.2.1, .slice a0 x.2.2.2.2.2.length c0]) (res_row (t := 2) (cs := [.int .i64 x.1, .int .i64 x.2.1, .int .i64 x.2.2.1, .int .i64 x.2.2.2.1, .bool x.2.2.2.2.1, .slice a0 x.2.2.2.2.2.length c0]) rfl rfl (unhide HF).2.1 rowISpan) rfl ⟨⟨_, x, rfl, ⟨_, rfl, (unhide HF).2.2.1⟩, (unhide HF).2.2.2⟩, (unhide HF).1⟩
theorem res_cells2 {P : Program} {fn : Func} {tmps : Array Value} {w : World} {t u : Tmp} {ty tz : TypeId} {b o b2 o2 : Nat} {cs ds : List Value} (hr : fn.results = #[.cell t ty, .cell u tz]) (ht : tmps.getD t undef = .pointer (some ⟨b, o, none⟩)) (hu : tmps.getD u undef = .pointer (some ⟨b2, o2, none⟩)) (h : InB w b o cs) (h2 : InB w b2 o2 ds) (hrow : RowT P ty cs.length) (hrow2 : RowT P tz ds.length) :
    (results fn tmps).run P w = .ok (.tuple #[.agg cs.toArray, .agg ds.toArray]) w := by
  obtain ⟨d, hu', hd, hi⟩ := hrow
  obtain ⟨d2, hu2, hd2, hi2⟩ := hrow2
  have hl := run_loadVar_mid (P := P) w b o ty cs d h hu' hd hi
  have hl2 := run_loadVar_mid (P := P) w b2 o2 tz ds d2 h2 hu2 hd2 hi2
  unfold results
  rw [hr]
  have ht' : tmps[t]?.getD undef = .pointer (some ⟨b, o, none⟩) := by simpa using ht
  have hu2 : tmps[u]?.getD undef = .pointer (some ⟨b2, o2, none⟩) := by simpa using hu
  simp [ht', hu2, asAddr, hl, hl2]
theorem wpo_store_atS {P : Program} {op : Oper} {a : Act} {w : World} {K : Act → World → Prop} {Q : Exit → Act → World → Prop} (ty : TypeId) (x y : Operand) (ho : op.op = .store ty x y)
    (b o : Nat) (cs : List Value) (hx : a.eval x = .pointer (some ⟨b, o, none⟩)) (hy : a.eval y = .agg cs.toArray) (hw : WrAt w b o cs.length) (h1 : One cs) (hi : RowT P ty cs.length)
    (h : K (a.put op.dst undef) (putL b o cs 0 w)) : Oper.wp P op a w K Q := by
  obtain ⟨d, hu, hd, hi⟩ := hi
  refine wp_store_mid ty x y ho b o cs.toArray hx hy (fun j hj => hw.2 j (by simpa using hj)) (by simpa using hi) (all_oneCell_toArray h1) ?_
  have e : ∀ (vs : List Value) (j : Nat) (w : World), w.setCells b (o + j) vs = putL b o vs j w := by
    intro vs
    induction vs with
    | nil => intro j w; rfl
    | cons v r ih => intro j w; exact ih (j + 1) _
  have e0 := e cs 0 w
  rw [Nat.add_zero] at e0
  simpa [e0] using h
set_option maxHeartbeats 2000000 in
theorem DrawSameSpan_any (p : Option Addr) (len cap : Nat) (w : World) (hl : len ≤ 1048576) (hy : Bytes w p len) :
    Calls Tryd.prog 6 #[.slice p len cap] w fun e w' => (∃ cs x cs2 x2, e = .returned (.tuple #[.agg cs.toArray, .agg cs2.toArray]) ∧ spanR w' (Within w.heap.size w'.heap.size) cs x ∧ TinyS x ∧ spanR w' (Within w.heap.size w'.heap.size) cs2 x2 ∧ TinyS x2) ∧ Below w.heap.size w w' := by
  have ba := bnew w (.cells #[.int .i64 0, .int .i64 0, .int .i64 0, .int .i64 0, .bool false, .slice none 0 0] 26)
  have bb := bnew (w.alloc (.cells #[.int .i64 0, .int .i64 0, .int .i64 0, .int .i64 0, .bool false, .slice none 0 0] 26)) (.cells #[.int .i64 0, .int .i64 0, .int .i64 0, .int .i64 0, .bool false, .slice none 0 0] 26)
  have bz := bthen ba bb
  have RA0 := (WrAt.new w #[.int .i64 0, .int .i64 0, .int .i64 0, .int .i64 0, .bool false, .slice none 0 0] 26 6 rfl).keep bb
  have RB0 := WrAt.new (w.alloc (.cells #[.int .i64 0, .int .i64 0, .int .i64 0, .int .i64 0, .bool false, .slice none 0 0] 26)) #[.int .i64 0, .int .i64 0, .int .i64 0, .int .i64 0, .bool false, .slice none 0 0] 26 6 rfl
  have hr2 : (w.alloc (.cells #[.int .i64 0, .int .i64 0, .int .i64 0, .int .i64 0, .bool false, .slice none 0 0] 26)).heap.size = w.heap.size + 1 := by simp
  have hz0 : ((w.alloc (.cells #[.int .i64 0, .int .i64 0, .int .i64 0, .int .i64 0, .bool false, .slice none 0 0] 26)).alloc (.cells #[.int .i64 0, .int .i64 0, .int .i64 0, .int .i64 0, .bool false, .slice none 0 0] 26)).heap.size = w.heap.size + 2 := by simp
  have hyz := hy.keep bz
  rw [hr2] at RB0
  clear ba bb hr2
  go_enter Tryd.func6, Tryd.ntmps6
  go_upto_region 1 with fail
  generalize World.alloc (World.alloc w _) _ = w0 at *
  obtain ⟨r2, hr2⟩ : ∃ r2, r2 = w.heap.size + 1 := ⟨_, rfl⟩
  rw [← hr2] at RB0 ⊢
  go_wp2_with fail
  refine (l1New_any p len cap w0 hl hyz).mono ?_
  rintro e w1 ⟨b, rfl, hb, hc1, hw1⟩
  have Z1 := bthen bz hw1
  have RA1 := RA0.keep hw1
  have RB1 := RB0.keep hw1
  have hlt1 := hc1.lt
  have hs1 := hw1.size
  clear hyz bz RA0 RB0 hw1
  go_wp2_with fail
  refine (l3Any_any b w1 hc1).mono ?_
  rintro e w2 ⟨⟨cs, x, rfl, hso, hts⟩, hc2, ht2⟩
  obtain ⟨sv, rfl, lo⟩ := hso
  obtain ⟨a0, c0, hsv⟩ := lo.form
  subst hsv
  have bn := bnew w2 (.cells #[.int .i64 x.1, .int .i64 x.2.1, .int .i64 x.2.2.1, .int .i64 x.2.2.2.1, .bool x.2.2.2.2.1, .slice a0 x.2.2.2.2.2.length c0] 26)
  have Z3 := bthen (Z1.trans (ht2.below (by omega) (by omega))) bn
  have RA3 := (RA1.turn ht2.turn (by omega)).keep bn
  have RB3 := (RB1.turn ht2.turn (by omega)).keep bn
  have P3 := Held.new w2 [.int .i64 x.1, .int .i64 x.2.1, .int .i64 x.2.2.1, .int .i64 x.2.2.2.1, .bool x.2.2.2.2.1, .slice a0 x.2.2.2.2.2.length c0] 26
  have hc3 := hc2.keep bn
  have lo3 := lo.keep attrO_keeps bn
  have hsb := hc2.lt
  have hs2 := ht2.size
  clear hc1 ht2 Z1 RA1 RB1 hc2 lo bn
  go_upto_region 3 with (first | (refine wpl_store_new rfl _ _ _ rfl _ [.int .i64 x.1, .int .i64 x.2.1, .int .i64 x.2.2.1, .int .i64 x.2.2.2.1, .bool x.2.2.2.2.1, .slice a0 x.2.2.2.2.2.length c0] rfl rfl ?_ one_span rowISpan ?_; rfl))
  generalize w2.heap.size = s at *
  generalize World.alloc w2 _ = w3 at *
  have hlt3 := hc3.lt
  have hs3 := P3.1
  go_wp2_with fail
  refine (l1Once_any b 2 (by omega) w3 hc3).mono ?_
  rintro e w4 ⟨⟨y, rfl⟩, hc4, ht4⟩
  have Z4 := Z3.trans (ht4.below (by omega) (by omega))
  have P4 := P3.turn ht4.turn (by omega)
  have RA4 := RA3.turn ht4.turn (by omega)
  have RB4 := RB3.turn ht4.turn (by omega)
  have lo4 := lo3.turn attrO_keeps ht4.turn (fun k hk e => by have h1 := hk.1; have e2 : k = b := e; omega)
  have hs4 := ht4.size
  have bd : Below w4.heap.size w4 w4.drew := Below.drew (Below.refl _ _)
  have hdz := bd.size
  have S0 : (fun w' => Below w.heap.size w w' ∧ Held w' s [.int .i64 x.1, .int .i64 x.2.1, .int .i64 x.2.2.1, .int .i64 x.2.2.2.1, .bool x.2.2.2.2.1, .slice a0 x.2.2.2.2.2.length c0] ∧ WrAt w' w.heap.size 0 6 ∧ WrAt w' r2 0 6) w4.drew := ⟨bthen Z4 bd, P4.keep bd, RA4.keep bd, RB4.keep bd⟩
  have hcS := hc4.keep bd
  clear hc3 ht4 Z3 P3 RA3 RB3 lo3 hc4 Z4 P4 RA4 RB4
  cases y with
  | true =>
    go_upto_region 4 with fail
    refine wp_region_held_drew (S := fun w' => Below w.heap.size w w' ∧ Held w' s [.int .i64 x.1, .int .i64 x.2.1, .int .i64 x.2.2.1, .int .i64 x.2.2.2.1, .bool x.2.2.2.2.1, .slice a0 x.2.2.2.2.2.length c0] ∧ WrAt w' w.heap.size 0 6 ∧ WrAt w' r2 0 6) (by kernel_rfl) S0 (fun hHeld => ?_)
    refine wpAnyH_take (i := 0) (oi := ?oo1) (v := .agg #[.int .i64 x.1, .int .i64 x.2.1, .int .i64 x.2.2.1, .int .i64 x.2.2.2.1, .bool x.2.2.2.2.1, .slice a0 x.2.2.2.2.2.length c0]) ?hi1 (by kernel_rfl) (by kernel_rfl) (by kernel_rfl) ?hQ1 ?hy1 (by assumption) ?rest1
    case hi1 => (simp only [List.getElem?_toArray, List.getElem?_cons_zero]; rfl)
    case hQ1 => exact fun _ _ _ h => h
    case hy1 => exact yld_load (by rfl) 26 _ rfl s 0 rfl [.int .i64 x.1, .int .i64 x.2.1, .int .i64 x.2.2.1, .int .i64 x.2.2.2.1, .bool x.2.2.2.2.1, .slice a0 x.2.2.2.2.2.length c0] (fun w' hS => hS.2.1.inB) rowISpan
    try simp only [Act.put, List.setIfInBounds_toArray, List.set_cons_zero, List.set_cons_succ]
    refine wpAnyH_take (i := 1) (oi := ?oo2) (v := .agg #[.int .i64 x.1, .int .i64 x.2.1, .int .i64 x.2.2.1, .int .i64 x.2.2.2.1, .bool x.2.2.2.2.1, .slice a0 x.2.2.2.2.2.length c0]) ?hi2 (by kernel_rfl) (by kernel_rfl) (by kernel_rfl) ?hQ2 ?hy2 (by assumption) ?rest2
    case hi2 => (simp only [List.getElem?_toArray, List.getElem?_cons_zero, List.getElem?_cons_succ]; rfl)
    case hQ2 => exact fun _ _ _ h => h
    case hy2 => exact yld_load (by rfl) 26 _ rfl s 0 rfl [.int .i64 x.1, .int .i64 x.2.1, .int .i64 x.2.2.1, .int .i64 x.2.2.2.1, .bool x.2.2.2.2.1, .slice a0 x.2.2.2.2.2.length c0] (fun w' hS => hS.2.1.inB) rowISpan
    try simp only [Act.put, List.setIfInBounds_toArray, List.set_cons_zero, List.set_cons_succ]
    refine wpAnyH_ready (rs := [2]) (by kernel_rfl) (by simp) ?_
    refine (AllReadyH.cons (o := ?bo3n2) ?bh3n2 (fun K hK => ?br3n2) AllReadyH.nil)
    case bh3n2 => (simp only [List.getElem?_toArray, List.getElem?_cons_zero, List.getElem?_cons_succ]; rfl)
    case br3n2 =>
      go_simp
      refine (specL3Copy x _ _ w4.drew ⟨_, rfl, (lo4.keep attrO_keeps bd).read attrR_widens (fun _ _ _ _ h => h)⟩ (by have := tiny_span hts; omega)).mono ?_
      rintro e w9 ⟨cs2, rfl, hso2, hb9⟩
      have hx2 : TinyS x := hts
      have ZZ : Below w4.drew.heap.size w4.drew w9 := hb9
      have S9 : (fun w' => Below w.heap.size w w' ∧ Held w' s [.int .i64 x.1, .int .i64 x.2.1, .int .i64 x.2.2.1, .int .i64 x.2.2.2.1, .bool x.2.2.2.2.1, .slice a0 x.2.2.2.2.2.length c0] ∧ WrAt w' w.heap.size 0 6 ∧ WrAt w' r2 0 6) w9 := ⟨S0.1.trans ⟨hb9.os, hb9.tape, hb9.output, hb9.size, fun k hk => hb9.block k (Nat.lt_of_lt_of_le hk S0.1.size)⟩, S0.2.1.keep hb9, S0.2.2.1.keep hb9, S0.2.2.2.keep hb9⟩
      have lo9 := (lo4.keep attrO_keeps bd).keep attrO_keeps hb9
      obtain ⟨sv2, rfl, lo2⟩ := hso2
      obtain ⟨a2, c2, hsv2⟩ := lo2.form
      subst hsv2
      have hz9 : w4.drew.heap.size ≤ w9.heap.size := ZZ.size
      have t1 := putL_turn w.heap.size 0 [.int .i64 x.1, .int .i64 x.2.1, .int .i64 x.2.2.1, .int .i64 x.2.2.2.1, .bool x.2.2.2.2.1, .slice a0 x.2.2.2.2.2.length c0] 0 w9
      have S10 : (fun w' => Below w.heap.size w w' ∧ Held w' s [.int .i64 x.1, .int .i64 x.2.1, .int .i64 x.2.2.1, .int .i64 x.2.2.2.1, .bool x.2.2.2.2.1, .slice a0 x.2.2.2.2.2.length c0] ∧ WrAt w' w.heap.size 0 6 ∧ WrAt w' r2 0 6) (putL w.heap.size 0 [.int .i64 x.1, .int .i64 x.2.1, .int .i64 x.2.2.1, .int .i64 x.2.2.2.1, .bool x.2.2.2.2.1, .slice a0 x.2.2.2.2.2.length c0] 0 w9) := ⟨S9.1.trans (t1.belowFrom S9.1.size (fun q e => by omega)), S9.2.1.turn t1 (by omega), putL_wr _ _ S9.2.2.1, putL_wr _ _ S9.2.2.2⟩
      have i1 := putL_at (b := w.heap.size) (o := 0) [.int .i64 x.1, .int .i64 x.2.1, .int .i64 x.2.2.1, .int .i64 x.2.2.2.1, .bool x.2.2.2.2.1, .slice a0 x.2.2.2.2.2.length c0] 0 S9.2.2.1 (by omega) (by simp)
      have hz10 := t1.size
      have lo10 := lo9.turn attrO_keeps t1 (fun k hk e => by have h1 := hk.1; have e2 : k = w.heap.size := e; omega)
      have lo11 := lo2.turn attrO_keeps t1 (fun k hk e => by have h1 := hk.1; have e2 : k = w.heap.size := e; omega)
      generalize hW10 : putL w.heap.size 0 [.int .i64 x.1, .int .i64 x.2.1, .int .i64 x.2.2.1, .int .i64 x.2.2.2.1, .bool x.2.2.2.2.1, .slice a0 x.2.2.2.2.2.length c0] 0 w9 = w10 at *
      have t2 := putL_turn r2 0 [.int .i64 x.1, .int .i64 x.2.1, .int .i64 x.2.2.1, .int .i64 x.2.2.2.1, .bool x.2.2.2.2.1, .slice a2 x.2.2.2.2.2.length c2] 0 w10
      have S11 : (fun w' => Below w.heap.size w w' ∧ Held w' s [.int .i64 x.1, .int .i64 x.2.1, .int .i64 x.2.2.1, .int .i64 x.2.2.2.1, .bool x.2.2.2.2.1, .slice a0 x.2.2.2.2.2.length c0] ∧ WrAt w' w.heap.size 0 6 ∧ WrAt w' r2 0 6) (putL r2 0 [.int .i64 x.1, .int .i64 x.2.1, .int .i64 x.2.2.1, .int .i64 x.2.2.2.1, .bool x.2.2.2.2.1, .slice a2 x.2.2.2.2.2.length c2] 0 w10) := ⟨S10.1.trans (t2.belowFrom S10.1.size (fun q e => by omega)), S10.2.1.turn t2 (by omega), putL_wr _ _ S10.2.2.1, putL_wr _ _ S10.2.2.2⟩
      have i2 := putL_at (b := r2) (o := 0) [.int .i64 x.1, .int .i64 x.2.1, .int .i64 x.2.2.1, .int .i64 x.2.2.2.1, .bool x.2.2.2.2.1, .slice a2 x.2.2.2.2.2.length c2] 0 S10.2.2.2 (by omega) (by simp)
      have i1b := i1.turn (by omega) t2 (by omega)
      have hz11 := t2.size
      have lo12 := lo10.turn attrO_keeps t2 (fun k hk e => by have h1 := hk.1; have e2 : k = r2 := e; omega)
      have lo13 := lo11.turn attrO_keeps t2 (fun k hk e => by have h1 := hk.1; have e2 : k = r2 := e; omega)
      have HI := hide (And.intro i1b (And.intro i2 (And.intro lo12 lo13)))
      clear i1 i2 i1b t1 t2 lo9 lo10 lo11 lo12 lo13 lo2
      go_wp2_with fail
      refine hK.out _ _ (S9) (fun hHeld => ?_)
      clear hK
      refine wpAnyH_ready (rs := [3]) (by kernel_rfl) (by simp) ?_
      refine (AllReadyH.cons (o := ?bo4n3) ?bh4n3 (fun K hK => ?br4n3) AllReadyH.nil)
      case bh4n3 => (simp only [List.getElem?_toArray, List.getElem?_cons_zero, List.getElem?_cons_succ]; rfl)
      case br4n3 =>
        refine wpo_store_atS 26 _ _ rfl w.heap.size 0 [.int .i64 x.1, .int .i64 x.2.1, .int .i64 x.2.2.1, .int .i64 x.2.2.2.1, .bool x.2.2.2.2.1, .slice a0 x.2.2.2.2.2.length c0] rfl rfl S9.2.2.1 one_span rowISpan ?_
        rw [hW10]
        refine hK.out _ _ (S10) (fun hHeld => ?_)
        clear hK
        refine wpAnyH_ready (rs := [4]) (by kernel_rfl) (by simp) ?_
        refine (AllReadyH.cons (o := ?bo5n4) ?bh5n4 (fun K hK => ?br5n4) AllReadyH.nil)
        case bh5n4 => (simp only [List.getElem?_toArray, List.getElem?_cons_zero, List.getElem?_cons_succ]; rfl)
        case br5n4 =>
          refine wpo_store_atS 26 _ _ rfl r2 0 [.int .i64 x.1, .int .i64 x.2.1, .int .i64 x.2.2.1, .int .i64 x.2.2.2.1, .bool x.2.2.2.2.1, .slice a2 x.2.2.2.2.2.length c2] (by rw [hr2]; rfl) rfl S10.2.2.2 one_span rowISpan ?_
          refine hK.out _ _ (S11) (fun hHeld => ?_)
          clear hK
          refine wpAnyH_done (by kernel_rfl) ?_ _
          have HF := hide (And.intro hHeld.1 HI)
          have hz12 := hHeld.1.size
          clear hHeld S0 S9 S10 S11 HI
          go_wp2
          obtain ⟨hB, i1, i2, l1, l2⟩ := unhide HF
          exact bodyPost_ret (v := .tuple #[.agg #[.int .i64 x.1, .int .i64 x.2.1, .int .i64 x.2.2.1, .int .i64 x.2.2.2.1, .bool x.2.2.2.2.1, .slice a0 x.2.2.2.2.2.length c0], .agg #[.int .i64 x.1, .int .i64 x.2.1, .int .i64 x.2.2.1, .int .i64 x.2.2.2.1, .bool x.2.2.2.2.1, .slice a2 x.2.2.2.2.2.length c2]]) (res_cells2 (t := 2) (u := 3) (cs := [.int .i64 x.1, .int .i64 x.2.1, .int .i64 x.2.2.1, .int .i64 x.2.2.2.1, .bool x.2.2.2.2.1, .slice a0 x.2.2.2.2.2.length c0]) (ds := [.int .i64 x.1, .int .i64 x.2.1, .int .i64 x.2.2.1, .int .i64 x.2.2.2.1, .bool x.2.2.2.2.1, .slice a2 x.2.2.2.2.2.length c2]) rfl rfl (by rw [hr2]; rfl) i1 i2 rowISpan rowISpan) rfl ⟨⟨_, x, _, x, rfl, ⟨_, rfl, (l1.read attrR_widens (fun _ _ _ _ h => h)).widens attrR_widens (fun k hk => ⟨by have := hk.1; omega, by have := hk.2; omega⟩)⟩, hts, ⟨_, rfl, (l2.read attrR_widens (fun _ _ _ _ h => h)).widens attrR_widens (fun k hk => ⟨by have := hk.1; omega, by have := hk.2; omega⟩)⟩, hx2⟩, hB⟩
  | false =>
    go_upto_region 5 with fail
    refine wp_region_held_drew (S := fun w' => Below w.heap.size w w' ∧ Held w' s [.int .i64 x.1, .int .i64 x.2.1, .int .i64 x.2.2.1, .int .i64 x.2.2.2.1, .bool x.2.2.2.2.1, .slice a0 x.2.2.2.2.2.length c0] ∧ WrAt w' w.heap.size 0 6 ∧ WrAt w' r2 0 6) (by kernel_rfl) S0 (fun hHeld => ?_)
    refine wpAnyH_take (i := 0) (oi := ?oo6) (v := .agg #[.int .i64 x.1, .int .i64 x.2.1, .int .i64 x.2.2.1, .int .i64 x.2.2.2.1, .bool x.2.2.2.2.1, .slice a0 x.2.2.2.2.2.length c0]) ?hi6 (by kernel_rfl) (by kernel_rfl) (by kernel_rfl) ?hQ6 ?hy6 (by assumption) ?rest6
    case hi6 => (simp only [List.getElem?_toArray, List.getElem?_cons_zero]; rfl)
    case hQ6 => exact fun _ _ _ h => h
    case hy6 => exact yld_load (by rfl) 26 _ rfl s 0 rfl [.int .i64 x.1, .int .i64 x.2.1, .int .i64 x.2.2.1, .int .i64 x.2.2.2.1, .bool x.2.2.2.2.1, .slice a0 x.2.2.2.2.2.length c0] (fun w' hS => hS.2.1.inB) rowISpan
    try simp only [Act.put, List.setIfInBounds_toArray, List.set_cons_zero, List.set_cons_succ]
    refine wpAnyH_take (i := 1) (oi := ?oo7) (v := ?vv7) ?hi7 (by kernel_rfl) (by kernel_rfl) (by kernel_rfl) ?hQ7 ?hy7 (by assumption) ?rest7
    case hi7 => (simp only [List.getElem?_toArray, List.getElem?_cons_zero, List.getElem?_cons_succ]; rfl)
    case hQ7 => exact fun _ _ _ h => h
    case hy7 => exact Or.inl ⟨by rfl, by intro wS hSw; (try dsimp only at hSw); go_simp; try first | (with_reducible rfl) | (simp only [*]; done) | omega⟩
    try simp only [Act.put, List.setIfInBounds_toArray, List.set_cons_zero, List.set_cons_succ]
    refine wpAnyH_ready (rs := [2]) (by kernel_rfl) (by simp) ?_
    refine (AllReadyH.cons (o := ?bo8n2) ?bh8n2 (fun K hK => ?br8n2) AllReadyH.nil)
    case bh8n2 => (simp only [List.getElem?_toArray, List.getElem?_cons_zero, List.getElem?_cons_succ]; rfl)
    case br8n2 =>
      go_simp
      refine (l3Any_any b w4.drew hcS).mono ?_
      rintro e w9 ⟨⟨cs2, x2, rfl, hso2, hx2⟩, hc9, ht9⟩
      have S9 : (fun w' => Below w.heap.size w w' ∧ Held w' s [.int .i64 x.1, .int .i64 x.2.1, .int .i64 x.2.2.1, .int .i64 x.2.2.2.1, .bool x.2.2.2.2.1, .slice a0 x.2.2.2.2.2.length c0] ∧ WrAt w' w.heap.size 0 6 ∧ WrAt w' r2 0 6) w9 := ⟨S0.1.trans (ht9.below (by omega) S0.1.size), S0.2.1.turn ht9.turn (by omega), S0.2.2.1.turn ht9.turn (by omega), S0.2.2.2.turn ht9.turn (by omega)⟩
      have lo9 := (lo4.keep attrO_keeps bd).turn attrO_keeps ht9.turn (fun k hk e => by have h1 := hk.1; have e2 : k = b := e; omega)
      clear hc9
      obtain ⟨sv2, rfl, lo2⟩ := hso2
      obtain ⟨a2, c2, hsv2⟩ := lo2.form
      subst hsv2
      have hz9 : w4.drew.heap.size ≤ w9.heap.size := ht9.size
      have t1 := putL_turn w.heap.size 0 [.int .i64 x.1, .int .i64 x.2.1, .int .i64 x.2.2.1, .int .i64 x.2.2.2.1, .bool x.2.2.2.2.1, .slice a0 x.2.2.2.2.2.length c0] 0 w9
      have S10 : (fun w' => Below w.heap.size w w' ∧ Held w' s [.int .i64 x.1, .int .i64 x.2.1, .int .i64 x.2.2.1, .int .i64 x.2.2.2.1, .bool x.2.2.2.2.1, .slice a0 x.2.2.2.2.2.length c0] ∧ WrAt w' w.heap.size 0 6 ∧ WrAt w' r2 0 6) (putL w.heap.size 0 [.int .i64 x.1, .int .i64 x.2.1, .int .i64 x.2.2.1, .int .i64 x.2.2.2.1, .bool x.2.2.2.2.1, .slice a0 x.2.2.2.2.2.length c0] 0 w9) := ⟨S9.1.trans (t1.belowFrom S9.1.size (fun q e => by omega)), S9.2.1.turn t1 (by omega), putL_wr _ _ S9.2.2.1, putL_wr _ _ S9.2.2.2⟩
      have i1 := putL_at (b := w.heap.size) (o := 0) [.int .i64 x.1, .int .i64 x.2.1, .int .i64 x.2.2.1, .int .i64 x.2.2.2.1, .bool x.2.2.2.2.1, .slice a0 x.2.2.2.2.2.length c0] 0 S9.2.2.1 (by omega) (by simp)
      have hz10 := t1.size
      have lo10 := lo9.turn attrO_keeps t1 (fun k hk e => by have h1 := hk.1; have e2 : k = w.heap.size := e; omega)
      have lo11 := lo2.turn attrO_keeps t1 (fun k hk e => by have h1 := hk.1; have e2 : k = w.heap.size := e; omega)
      generalize hW10 : putL w.heap.size 0 [.int .i64 x.1, .int .i64 x.2.1, .int .i64 x.2.2.1, .int .i64 x.2.2.2.1, .bool x.2.2.2.2.1, .slice a0 x.2.2.2.2.2.length c0] 0 w9 = w10 at *
      have t2 := putL_turn r2 0 [.int .i64 x2.1, .int .i64 x2.2.1, .int .i64 x2.2.2.1, .int .i64 x2.2.2.2.1, .bool x2.2.2.2.2.1, .slice a2 x2.2.2.2.2.2.length c2] 0 w10
      have S11 : (fun w' => Below w.heap.size w w' ∧ Held w' s [.int .i64 x.1, .int .i64 x.2.1, .int .i64 x.2.2.1, .int .i64 x.2.2.2.1, .bool x.2.2.2.2.1, .slice a0 x.2.2.2.2.2.length c0] ∧ WrAt w' w.heap.size 0 6 ∧ WrAt w' r2 0 6) (putL r2 0 [.int .i64 x2.1, .int .i64 x2.2.1, .int .i64 x2.2.2.1, .int .i64 x2.2.2.2.1, .bool x2.2.2.2.2.1, .slice a2 x2.2.2.2.2.2.length c2] 0 w10) := ⟨S10.1.trans (t2.belowFrom S10.1.size (fun q e => by omega)), S10.2.1.turn t2 (by omega), putL_wr _ _ S10.2.2.1, putL_wr _ _ S10.2.2.2⟩
      have i2 := putL_at (b := r2) (o := 0) [.int .i64 x2.1, .int .i64 x2.2.1, .int .i64 x2.2.2.1, .int .i64 x2.2.2.2.1, .bool x2.2.2.2.2.1, .slice a2 x2.2.2.2.2.2.length c2] 0 S10.2.2.2 (by omega) (by simp)
      have i1b := i1.turn (by omega) t2 (by omega)
      have hz11 := t2.size
      have lo12 := lo10.turn attrO_keeps t2 (fun k hk e => by have h1 := hk.1; have e2 : k = r2 := e; omega)
      have lo13 := lo11.turn attrO_keeps t2 (fun k hk e => by have h1 := hk.1; have e2 : k = r2 := e; omega)
      have HI := hide (And.intro i1b (And.intro i2 (And.intro lo12 lo13)))
      clear i1 i2 i1b t1 t2 lo9 lo10 lo11 lo12 lo13 lo2
      go_wp2_with fail
      refine hK.out _ _ (S9) (fun hHeld => ?_)
      clear hK
      refine wpAnyH_ready (rs := [3]) (by kernel_rfl) (by simp) ?_
      refine (AllReadyH.cons (o := ?bo9n3) ?bh9n3 (fun K hK => ?br9n3) AllReadyH.nil)
      case bh9n3 => (simp only [List.getElem?_toArray, List.getElem?_cons_zero, List.getElem?_cons_succ]; rfl)
      case br9n3 =>
        refine wpo_store_atS 26 _ _ rfl w.heap.size 0 [.int .i64 x.1, .int .i64 x.2.1, .int .i64 x.2.2.1, .int .i64 x.2.2.2.1, .bool x.2.2.2.2.1, .slice a0 x.2.2.2.2.2.length c0] rfl rfl S9.2.2.1 one_span rowISpan ?_
        rw [hW10]
        refine hK.out _ _ (S10) (fun hHeld => ?_)
        clear hK
        refine wpAnyH_ready (rs := [4]) (by kernel_rfl) (by simp) ?_
        refine (AllReadyH.cons (o := ?bo10n4) ?bh10n4 (fun K hK => ?br10n4) AllReadyH.nil)
        case bh10n4 => (simp only [List.getElem?_toArray, List.getElem?_cons_zero, List.getElem?_cons_succ]; rfl)
        case br10n4 =>
          refine wpo_store_atS 26 _ _ rfl r2 0 [.int .i64 x2.1, .int .i64 x2.2.1, .int .i64 x2.2.2.1, .int .i64 x2.2.2.2.1, .bool x2.2.2.2.2.1, .slice a2 x2.2.2.2.2.2.length c2] (by rw [hr2]; rfl) rfl S10.2.2.2 one_span rowISpan ?_
          refine hK.out _ _ (S11) (fun hHeld => ?_)
          clear hK
          refine wpAnyH_done (by kernel_rfl) ?_ _
          have HF := hide (And.intro hHeld.1 HI)
          have hz12 := hHeld.1.size
          clear hHeld S0 S9 S10 S11 HI
          go_wp2
          obtain ⟨hB, i1, i2, l1, l2⟩ := unhide HF
          exact bodyPost_ret (v := .tuple #[.agg #[.int .i64 x.1, .int .i64 x.2.1, .int .i64 x.2.2.1, .int .i64 x.2.2.2.1, .bool x.2.2.2.2.1, .slice a0 x.2.2.2.2.2.length c0], .agg #[.int .i64 x2.1, .int .i64 x2.2.1, .int .i64 x2.2.2.1, .int .i64 x2.2.2.2.1, .bool x2.2.2.2.2.1, .slice a2 x2.2.2.2.2.2.length c2]]) (res_cells2 (t := 2) (u := 3) (cs := [.int .i64 x.1, .int .i64 x.2.1, .int .i64 x.2.2.1, .int .i64 x.2.2.2.1, .bool x.2.2.2.2.1, .slice a0 x.2.2.2.2.2.length c0]) (ds := [.int .i64 x2.1, .int .i64 x2.2.1, .int .i64 x2.2.2.1, .int .i64 x2.2.2.2.1, .bool x2.2.2.2.2.1, .slice a2 x2.2.2.2.2.2.length c2]) rfl rfl (by rw [hr2]; rfl) i1 i2 rowISpan rowISpan) rfl ⟨⟨_, x, _, x2, rfl, ⟨_, rfl, (l1.read attrR_widens (fun _ _ _ _ h => h)).widens attrR_widens (fun k hk => ⟨by have := hk.1; omega, by have := hk.2; omega⟩)⟩, hts, ⟨_, rfl, (l2.read attrR_widens (fun _ _ _ _ h => h)).widens attrR_widens (fun k hk => ⟨by have := hk.1; omega, by have := hk.2; omega⟩)⟩, hx2⟩, hB⟩
end Go.Proofs.YtchinpgjaddnkaaDoor
