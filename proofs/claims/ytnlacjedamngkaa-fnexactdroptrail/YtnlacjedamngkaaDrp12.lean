/-
  DropTrail of the specification.
-/
import Derived.Test.YtnlacjedamngkaaDrp9
import Derived.Test.YtnlacjedamngkaaDrp10
import Derived.Test.YtnlacjedamngkaaDrp11
namespace Go.Proofs.Ytnlacjedamngkaa
open Go.ChangeShapes Go.WideShapes Go.ChangeAt Go.RowKit
set_option linter.unusedVariables false
set_option maxRecDepth 100000

theorem stripeK_own (w : World) (S : Nat → Prop) (cs : List Value) (x : StripeD) (h : stripeK w S cs x) : stripeO w S cs x := by
  obtain ⟨v, css, T, e, g, h1, h2⟩ := h
  exact ⟨v, e, g.doneS h1 h2⟩
theorem row_form {w : World} {base : Nat} {e : TypeId} {N n : Nat} {v : Value} {xs : List Value} (h : w.ownsRow base e N v n xs) : ∃ a c, v = .slice a n c := by
  rcases h.2 with ⟨rfl, h0⟩ | ⟨g, cap, cur, rfl, _⟩
  · exact ⟨none, 0, by rw [h0]⟩
  · exact ⟨_, cap, rfl⟩
theorem wrap_succ {k n : Nat} (h : (k : Int) < (n : Int)) (hn : n ≤ 1048576) : IntKind.i64.wrap ((k : Int) + 1) = (k : Int) + 1 := by rw [IntKind.wrap_i64]; omega
/-- What stands behind the store: the stripe's list is the one without the trail, and all else is as it was. -/
theorem drop_fin {l : List StripeD} {id : Int} {w w1 w3 w4 : World} {a1 a4 : Option Addr} {k1 k4 j k b o g cx : Nat} {T : Nat → Prop} {X : StripeD} {css : List (List Value)} {T2 : Nat → Nat → Prop} (hj : j < l.length) (hkl : k < X.l.length) (hz1 : w.heap.size ≤ w1.heap.size) (hz3 : w1.heap.size ≤ w3.heap.size) (hbs : b < w3.drew.heap.size)
    (HDI : Hid (dropL l id = l.set j (dropS X k))) (HX : Hid (l[j] = X)) (HW : Hid (LOw 2 stripeK w1 (Within w.heap.size w1.heap.size) (.slice a1 l.length k1) l ∧ Below w.heap.size w w1)) (HB3 : Hid (Below w1.heap.size w1 w3)) (HBd : Hid (Below w3.heap.size w3 w3.drew))
    (HA1 : Hid (InB w3.drew b (o + j * 2) [.int .i64 X.held, .slice (some ⟨g, 0, none⟩) X.l.length cx] ∧ WrAt w3.drew b o (l.length * 2) ∧ (∀ q, T q → Within w.heap.size w1.heap.size q ∧ q ≠ b) ∧
      ∀ (w' : World) (U : Nat → Prop) (cs' : List Value) (x' : StripeD), Turn (fun k => k = b ∨ T k) w3.drew w' → (∀ k, U k → T k ∨ (w3.drew.heap.size ≤ k ∧ k < w'.heap.size)) → stripeK w' U cs' x' → InB w' b (o + j * 2) cs' →
        (∀ q, q < o + j * 2 ∨ o + j * 2 + 2 ≤ q → w'.cell? ⟨b, q, none⟩ = w3.drew.cell? ⟨b, q, none⟩) → WrAt w' b o (l.length * 2) →
        LOw 2 stripeK w' (fun k => Within w.heap.size w1.heap.size k ∨ (w3.drew.heap.size ≤ k ∧ k < w'.heap.size)) (.slice (some ⟨b, o, none⟩) l.length k1) (l.set j x')))
    (HA2 : Hid ((∀ i q, T2 i q → T q) ∧ (∀ q, (Value.slice (some ⟨g, 0, none⟩) X.l.length cx).ownBlock = some q → T q) ∧ (css.take k).flatten ++ (css.drop (k + 1)).flatten = (css.eraseIdx k).flatten))
    (HGX : Hid (GrowX 4 trailO 50 0 w3.drew (.slice (some ⟨g, 0, none⟩) X.l.length cx) X.l css T2)) (HSb : Hid (Within w.heap.size w1.heap.size b))
    (HG4 : Hid (w4.ownsRow 0 50 4 (.slice a4 (X.l.length - 1) k4) (X.l.length - 1) ((css.eraseIdx k).flatten) ∧ w3.drew.grownBy w4 (some g) ∧ ((Value.slice a4 (X.l.length - 1) k4).ownBlock = some g ∨ (Value.slice a4 (X.l.length - 1) k4).ownBlock = some w3.drew.heap.size)))
    (c4 : w4.cell? ⟨b, o + j * 2 + 1, none⟩ = some (.slice (some ⟨g, 0, none⟩) X.l.length cx)) :
    ∃ v', Ending.returned (.slice (some ⟨b, o, none⟩) l.length k1) = Ending.returned v' ∧ LOw 2 stripeO (w4.setCell ⟨b, o + j * 2 + 1, none⟩ (.slice a4 (X.l.length - 1) k4)) (Within w.heap.size (w4.setCell ⟨b, o + j * 2 + 1, none⟩ (.slice a4 (X.l.length - 1) k4)).heap.size) v' (dropL l id) ∧ Below w.heap.size w (w4.setCell ⟨b, o + j * 2 + 1, none⟩ (.slice a4 (X.l.length - 1) k4)) := by
  obtain ⟨hin, hwr, hT, hend⟩ := unhide HA1
  obtain ⟨hT2, hob, _⟩ := unhide HA2
  obtain ⟨how, hg4, hv4⟩ := unhide HG4
  have hdz := (unhide HBd).size
  have gx := unhide HGX
  have ht4 := grown_turn hg4
  have hz4 := ht4.size
  have hTg : T g := hob g rfl
  have hgb : g ≠ b := (hT g hTg).2
  have he := gx.erase trailO_keeps hkl how hg4 (by rcases hv4 with h | h; exact .inl h; exact .inr h)
  have tt := Turn.set w4 ⟨b, o + j * 2 + 1, none⟩ (.slice a4 (X.l.length - 1) k4)
  have hsz : (w4.setCell ⟨b, o + j * 2 + 1, none⟩ (.slice a4 (X.l.length - 1) k4)).heap.size = w4.heap.size := by simp [World.setCell]
  generalize hvv : Value.slice a4 (X.l.length - 1) k4 = vv at *
  have he5 := he.keepU trailO_keeps tt (fun i q hq e => (hT q (hT2 _ q hq)).2 e) (fun q hq e => by
    have e2 : q = b := e
    rcases hv4 with h | h
    · rw [h, Option.some.injEq] at hq; omega
    · rw [h, Option.some.injEq] at hq; omega)
  have t5 : Turn (fun q => q = b ∨ T q) w3.drew (w4.setCell ⟨b, o + j * 2 + 1, none⟩ vv) :=
    (ht4.mono (fun q e => .inr (by have e2 : some g = some q := e; rw [Option.some.injEq] at e2; rw [← e2]; exact hTg))).trans (tt.mono (fun q e => .inl e))
  have hSb := unhide HSb
  refine ⟨_, rfl, ?_, ?_⟩
  · rw [unhide HDI]
    have fin := hend (w4.setCell ⟨b, o + j * 2 + 1, none⟩ vv) (fun q => T q ∨ (w3.drew.heap.size ≤ q ∧ q < w4.heap.size)) [.int .i64 X.held, vv] (dropS X k) t5 (fun q hq => by rw [hsz]; exact hq) ⟨vv, _, _, rfl, he5, fun i q hq => .inl (hT2 _ q hq), fun q hq => by
      rcases hv4 with h | h
      · rw [h, Option.some.injEq] at hq; rw [← hq]; exact .inl hTg
      · right
        have hlt := (he.row.lt q hq).2
        rw [h, Option.some.injEq] at hq
        omega⟩ (by
      intro i u hu
      match i, hu with
      | 0, hu =>
        rw [World.cell?_setCell_other _ _ _ _ (fun e => by injection e with e1 e2; omega), ht4.cell (p := ⟨b, o + j * 2 + 0, none⟩) hbs (fun e => hgb (by injection e))]
        exact hin 0 u hu
      | 1, hu =>
        rw [World.cell?_setCell_same' _ _ _ (by rw [c4]; rfl)]
        exact hu) (fun q hq => by
      rw [World.cell?_setCell_other _ _ _ _ (fun e => by injection e with e1 e2; omega), ht4.cell (p := ⟨b, q, none⟩) hbs (fun e => hgb (by injection e))]) ((hwr.turn ht4 (fun e => hgb (by injection e))).set _ _)
    refine (fin.imp stripeK_own).widens (fun q hq => ?_)
    rw [hsz] at hq ⊢
    rcases hq with hq | hq
    · exact ⟨hq.1, by have := hq.2; omega⟩
    · exact ⟨by have := hq.1; omega, hq.2⟩
  · have b1 := bthen (bthen (unhide HW).2 (unhide HB3)) (unhide HBd)
    exact b1.trans (t5.belowFrom b1.size (fun q hq => by
      rcases hq with hq | hq
      · have := hSb.1; omega
      · exact (hT q hq).1.1))
set_option maxHeartbeats 2000000 in
theorem specDropTrail (l : List StripeD) (id : Int) (S : Nat → Prop) (v : Value) (w : World) (h0 : LAt 2 stripeR w S v l) (b0 : bulkL stripeBulk l ≤ 1048576) :
    Calls Try.prog 9 #[v, .int .i64 id] w fun e w' => ∃ v', e = .returned v' ∧ LOw 2 stripeO w' (Within w.heap.size w'.heap.size) v' (dropL l id) ∧ Below w.heap.size w w' := by
  have hl := bulkL_len stripeBulk l
  obtain ⟨aI, kI, rfl⟩ := h0.form
  have HC := hide (specL11CopyK l S _ w h0 b0)
  have H0 := hide h0
  clear h0
  go_enter Try.func9, Try.ntmps9
  go_wp2_with fail
  refine (unhide HC).mono ?_
  rintro e w1 ⟨v1, rfl, ow1, hb1⟩
  clear HC
  obtain ⟨a1, k1, rfl⟩ := ow1.form
  have hz1 := hb1.size
  have HA := hide ((unhide H0).keep stripeR_keeps hb1)
  have HW := hide (And.intro ow1 hb1)
  clear ow1 hb1 H0
  by_cases hn : l.length = 0
  · have HNO := hide (drop_no (l := l) (id := id) (by rw [at_nil l id hn]; omega))
    have q : ((l.length : Int) == 0) = true := by simp [hn]
    clear hn
    go_wp2
    go_ret
    exact ⟨_, rfl, by rw [unhide HNO]; exact (unhide HW).1.imp stripeK_own, (unhide HW).2⟩
  have q : ((l.length : Int) == 0) = false := by simpa using hn
  obtain ⟨j, hj, hje⟩ := stripe_in2 id l.length (by omega)
  have hTA := at_is l id j hj hje
  have hc := specStripeOf id l.length w1
  rw [hje] at hc
  have hbl := stripe_bulk_l hj b0
  have hxl := bulkL_len trailBulk l[j].l
  have hSA : stripeAt l id = (j : Int) := by rw [stripeAt, if_neg hn, hje]
  have hPA : placeAt l id = atID l[j].l id := by rw [placeAt, hTA]
  have HDI := hide (fun (k : Nat) (hk : atID l[j].l id = (k : Int)) => drop_is hSA (hPA.trans hk) hj)
  have HNO := hide (fun (hk : atID l[j].l id < 0) => drop_no (hPA.symm ▸ hk))
  have HSW := hide ((unhide HW).1)
  obtain ⟨bI, oI, csI, rfl, hbkI, hSbI, hcsI, hinI⟩ := (unhide HA).at j hj
  have HCS := hide hc
  have hji : (j : Int) < (l.length : Int) := by omega
  have hj0 : ¬ (j : Int) < 0 := by omega
  have hj1 : (0 : Int) ≤ (j : Int) := by omega
  have HJ := hide hj
  generalize hX : l[j] = X at *
  have HX := hide hX
  clear hX
  obtain ⟨a2, k2, z2, g2⟩ := stripeR_c1 hcsI
  have c1 : w1.cell? ⟨bI, oI + j * 2 + 1, none⟩ = some (.slice a2 X.l.length k2) := hinI 1 _ z2
  have HT := hide (specTrailAt X.l id S _ w1 g2 hbl)
  clear hTA hc hn hje z2 hinI hcsI g2 HA hSA hPA hj
  go_wp2_with fail
  refine (unhide HCS).mono ?_
  rintro e w1' ⟨rfl, hw1⟩
  obtain rfl := hw1
  go_wp2_with fail
  refine (unhide HT).mono ?_
  rintro e w3 ⟨rfl, hb3⟩
  have hz3 := hb3.size
  have HB3 := hide hb3
  clear hb3 c1 HT HCS
  by_cases hk : atID X.l id < 0
  · have HNO2 := hide (unhide HNO hk)
    clear HNO
    have hk2 : ¬ (0 : Int) ≤ atID X.l id := by omega
    generalize atID X.l id = pl at *
    clear HDI
    go_wp2
    go_ret
    exact ⟨_, rfl, by rw [unhide HNO2]; exact (((unhide HW).1.imp stripeK_own).keep stripeO_keeps (unhide HB3)).widens (fun k hk => ⟨hk.1, by have := hk.2; omega⟩), bthen (unhide HW).2 (unhide HB3)⟩
  obtain ⟨k, hkl, hke⟩ := idx_is (p := fun x : TrailD => decide (x.id = id)) (l := X.l) hk
  have hke : atID X.l id = (k : Int) := hke
  have HDI2 := hide (unhide HDI k hke)
  rw [hke]
  clear hk HNO hke HDI
  have hk0 : (0 : Int) ≤ (k : Int) := by omega
  have hbd : Below w3.heap.size w3 w3.drew := Below.drew (Below.refl _ _)
  have ow3 := ((unhide HW).1.keep stripeK_keeps (unhide HB3)).keep stripeK_keeps hbd
  have hj := unhide HJ
  obtain ⟨b, o, cap, T, cs, hv, hc, hin, hwr, hSb, hT, hend⟩ := ow3.swap stripeK_keeps (fun _ _ _ _ h => stripeK_len h) (fun k hk => by have := hk.2; have := hbd.size; omega) hj
  replace hc := Eq.mp (congrArg (stripeK w3.drew T cs) (unhide HX)) hc
  injection hv with hv1 hv2 hv3
  subst hv1
  obtain ⟨vx, css, T2, rfl, gx, hT2, hob⟩ := hc
  have hnx : vx ≠ .slice none 0 0 := fun e => by
    rcases gx.row.2 with ⟨_, h0⟩ | ⟨g, cap, cur, hv, _⟩
    · omega
    · rw [e] at hv; injection hv with hv; cases hv
  obtain ⟨g, cx, rfl, hkc, hcm⟩ : ∃ g cx, vx = .slice (some ⟨g, 0, none⟩) X.l.length cx ∧ X.l.length ≤ cx ∧ cx ≤ maxLen := by
    rcases gx.row.2 with ⟨h0, _⟩ | ⟨g, cap, cur, hv, hg, hh, hc, hm, _⟩
    · exact absurd h0 hnx
    · exact ⟨g, cap, hv, hc, hm⟩
  clear hnx
  have hgb : g ≠ b := fun e => (hT g (hob g rfl)).2 e
  have c1 : w3.drew.cell? ⟨b, o + j * 2 + 1, none⟩ = some (.slice (some ⟨g, 0, none⟩) X.l.length cx) := hin 1 _ rfl
  have f1 : w3.drew.frozen? ⟨b, o + j * 2 + 1, none⟩ = false := by
    have := hwr.free (j * 2 + 1) (by omega)
    rw [← Nat.add_assoc] at this; exact this
  have hfr := owns_front gx.row (k := k) (by omega) (by simp)
  rw [flat_take gx.all k] at hfr
  have hsp : (css.take k).flatten ++ (css.drop (k + 1)).flatten = (css.eraseIdx k).flatten := by rw [← List.flatten_append, List.eraseIdx_eq_take_drop_succ]
  have hnl : (css.drop (k + 1)).flatten.length = (X.l.length - (k + 1)) * 4 := by
    rw [← flat_drop gx.all (k + 1), List.length_drop, gx.row.1]
    omega
  have hone : ∀ u ∈ (css.drop (k + 1)).flatten, u.oneCell' = true := by
    intro u hu
    obtain ⟨c, hc, huc⟩ := List.mem_flatten.1 hu
    obtain ⟨i, hi, rfl⟩ := List.mem_iff_getElem.1 (List.mem_of_mem_drop hc)
    obtain ⟨c2, q1, q2, q3⟩ := gx.has i _ (List.getElem?_eq_getElem (by rw [← gx.len]; exact hi))
    rw [List.getElem?_eq_getElem hi, Option.some.injEq] at q1
    rw [q1] at huc
    exact trailR_one (trailO_read _ _ _ _ q2) u huc
  have hnews : ∀ i u, (css.drop (k + 1)).flatten[i]? = some u → w3.drew.cell? ⟨g, (k + 1) * 4 + i, none⟩ = some u := by
    intro i u hu
    have hi := (List.getElem?_eq_some_iff.1 hu).1
    rw [gx.row.cellAt _ (by omega)]
    rw [← flat_drop gx.all (k + 1), List.getElem?_drop] at hu
    exact hu
  have hgs := (gx.row.lt g rfl).2
  have hbs := hwr.1
  have hkn : (k : Int) < (X.l.length : Int) := by omega
  have hkn2 : (k : Int) + 1 ≤ (X.l.length : Int) := by omega
  have hk3 : (0 : Int) ≤ (k : Int) + 1 := by omega
  have hcn : (X.l.length : Int) ≤ (cx : Int) := by omega
  have HGX := hide gx
  have HA1 := hide (And.intro hin (And.intro hwr (And.intro hT hend)))
  have HA2 := hide (And.intro hT2 (And.intro hob hsp))
  have HSb := hide hSb
  have HBd := hide hbd
  have hk1 : k + 1 ≤ X.l.length := by omega
  have hap : ∀ (ad : Addr), ad = ⟨g, (k + 1) * 4, none⟩ ∨ X.l.length = k + 1 → ∀ (c : Nat), ∃ v' w', (Builtin.append_ #[36, 36] 36 #[.slice (some ⟨g, 0, none⟩) k cx, .slice (some ad) (X.l.length - (k + 1)) c]).run Try.prog w3.drew = .ok v' w' ∧ w'.ownsRow 0 50 4 v' (X.l.length - 1) ((css.eraseIdx k).flatten) ∧ w3.drew.grownBy w' (some g) ∧ (v'.ownBlock = some g ∨ v'.ownBlock = some w3.drew.heap.size) := by
    intro ad had c
    obtain ⟨i0, hi, hz0, hz1, hz2⟩ := info_parts infoTrail3
    obtain ⟨v', w', hr, how, hg, hv⟩ := run_append2 (P := Try.prog) w3.drew 0 36 36 50 i0 _ 4 48 Try.underlying36 hi hz0 hz1 hz2 rfl (by decide) _ _ _ hfr ad (X.l.length - (k + 1)) c ((css.drop (k + 1)).flatten) hnl (by
      intro i u hu
      rcases had with had | had
      · rw [had]
        have e : (⟨g, (k + 1) * 4, none⟩ : Addr).add i = ⟨g, (k + 1) * 4 + i, none⟩ := by unfold Addr.add; split <;> simp_all
        rw [e]; exact hnews i u hu
      · have := (List.getElem?_eq_some_iff.1 hu).1
        omega) hone (by unfold maxLen; omega) (by omega) (Nat.zero_le _)
    rw [hsp, show k + (X.l.length - (k + 1)) = X.l.length - 1 by omega] at how
    exact ⟨v', w', hr, how, hg, hv⟩
  have HAP := hide hap
  clear hap hnews hone hnl hsp hfr hT2 hob gx hin hwr hT hend hSb hbd ow3 hv2 hv3
  go_upto_region 7 with fail
  by_cases hz : cx = k + 1
  · have hz9 : X.l.length = k + 1 := by omega
    have hz8 : cx - (k + 1) = 0 := by omega
    have HZ := hide hz
    have HZ9 := hide hz9
    have HZ8 := hide hz8
    clear hz9 hz8 hz
    have hre := unhide HAP ⟨g, 0, none⟩ (.inr (unhide HZ9)) (cx - (k + 1))
    obtain ⟨v4, w4, hr, how, hg4, hv4⟩ := hre
    have c4 : w4.cell? ⟨b, o + j * 2 + 1, none⟩ = some (.slice (some ⟨g, 0, none⟩) X.l.length cx) := by rw [(grown_turn hg4).cell (p := ⟨b, o + j * 2 + 1, none⟩) hbs (fun e => hgb (by injection e))]; exact c1
    have f4 : w4.frozen? ⟨b, o + j * 2 + 1, none⟩ = false := by rw [(grown_turn hg4).frozen (p := ⟨b, o + j * 2 + 1, none⟩) hbs (fun e => hgb (by injection e))]; exact f1
    have HG4 := hide (And.intro how (And.intro hg4 hv4))
    obtain ⟨a4, k4, rfl⟩ := row_form how
    clear how hg4 hv4 HAP
    refine wp_region_held_drew (S := fun _ => True) (by kernel_rfl) trivial (fun hHeld => ?_)
    refine wpAnyH_take (i := 0) (oi := ?oo1) (v := ?vv1) ?hi1 (by kernel_rfl) (by kernel_rfl) (by kernel_rfl) ?hQ1 ?hy1 (by assumption) ?rest1
    case hi1 => (simp only [List.getElem?_toArray, List.getElem?_cons_zero]; rfl)
    case hQ1 => exact fun _ _ _ h => h
    case hy1 => exact Or.inl ⟨by rfl, by intro wS hSw; (try dsimp only at hSw); go_simp; try first | (with_reducible rfl) | (simp only [*]; done) | omega⟩
    try simp only [Act.put, List.setIfInBounds_toArray, List.set_cons_zero, List.set_cons_succ]
    refine wpAnyH_take (i := 1) (oi := ?oo2) (v := ?vv2) ?hi2 (by kernel_rfl) (by kernel_rfl) (by kernel_rfl) ?hQ2 ?hy2 (by assumption) ?rest2
    case hi2 => (simp only [List.getElem?_toArray, List.getElem?_cons_zero, List.getElem?_cons_succ]; rfl)
    case hQ2 => exact fun _ _ _ h => h
    case hy2 => exact Or.inl ⟨by rfl, by intro wS hSw; (try dsimp only at hSw); go_simp; try first | (with_reducible rfl) | (simp only [*]; done) | omega⟩
    try simp only [Act.put, List.setIfInBounds_toArray, List.set_cons_zero, List.set_cons_succ]
    refine wpAnyH_take (i := 2) (oi := ?oo3) (v := ?vv3) ?hi3 (by kernel_rfl) (by kernel_rfl) (by kernel_rfl) ?hQ3 ?hy3 (by assumption) ?rest3
    case hi3 => (simp only [List.getElem?_toArray, List.getElem?_cons_zero, List.getElem?_cons_succ]; rfl)
    case hQ3 => exact fun _ _ _ h => h
    case hy3 => exact Or.inl ⟨by rfl, by intro wS hSw; (try dsimp only at hSw); go_simp; try first | (with_reducible rfl) | (simp only [*]; done) | omega⟩
    try simp only [Act.put, List.setIfInBounds_toArray, List.set_cons_zero, List.set_cons_succ]
    refine wpAnyH_take (i := 3) (oi := ?oo4) (v := ?vv4) ?hi4 (by kernel_rfl) (by kernel_rfl) (by kernel_rfl) ?hQ4 ?hy4 (by assumption) ?rest4
    case hi4 => (simp only [List.getElem?_toArray, List.getElem?_cons_zero, List.getElem?_cons_succ]; rfl)
    case hQ4 => exact fun _ _ _ h => h
    case hy4 => exact Or.inl ⟨by rfl, by intro wS hSw; (try dsimp only at hSw); go_simp; try first | (with_reducible rfl) | (simp only [*]; done) | omega⟩
    try simp only [Act.put, List.setIfInBounds_toArray, List.set_cons_zero, List.set_cons_succ]
    refine wpAnyH_take (i := 4) (oi := ?oo5) (v := ?vv5) ?hi5 (by kernel_rfl) (by kernel_rfl) (by kernel_rfl) ?hQ5 ?hy5 (by assumption) ?rest5
    case hi5 => (simp only [List.getElem?_toArray, List.getElem?_cons_zero, List.getElem?_cons_succ]; rfl)
    case hQ5 => exact fun _ _ _ h => h
    case hy5 => exact Or.inl ⟨by rfl, by intro wS hSw; (try dsimp only at hSw); go_simp; try first | (with_reducible rfl) | (simp only [*]; done) | omega⟩
    try simp only [Act.put, List.setIfInBounds_toArray, List.set_cons_zero, List.set_cons_succ]
    refine wpAnyH_take (i := 5) (oi := ?oo6) (v := ?vv6) ?hi6 (by kernel_rfl) (by kernel_rfl) (by kernel_rfl) ?hQ6 ?hy6 (by assumption) ?rest6
    case hi6 => (simp only [List.getElem?_toArray, List.getElem?_cons_zero, List.getElem?_cons_succ]; rfl)
    case hQ6 => exact fun _ _ _ h => h
    case hy6 => exact Or.inl ⟨by rfl, by intro wS hSw; (try dsimp only at hSw); go_simp; try first | (with_reducible rfl) | (simp only [*]; done) | omega⟩
    try simp only [Act.put, List.setIfInBounds_toArray, List.set_cons_zero, List.set_cons_succ]
    refine wpAnyH_take (i := 7) (oi := ?oo7) (v := ?vv7) ?hi7 (by kernel_rfl) (by kernel_rfl) (by kernel_rfl) ?hQ7 ?hy7 (by assumption) ?rest7
    case hi7 => (simp only [List.getElem?_toArray, List.getElem?_cons_zero, List.getElem?_cons_succ]; rfl)
    case hQ7 => exact fun _ _ _ h => h
    case hy7 => exact Or.inl ⟨by rfl, by intro wS hSw; (try dsimp only at hSw); go_simp; try first | (with_reducible rfl) | (simp only [*]; done) | omega⟩
    try simp only [Act.put, List.setIfInBounds_toArray, List.set_cons_zero, List.set_cons_succ]
    refine wpAnyH_take (i := 9) (oi := ?oo8) (v := ?vv8) ?hi8 (by kernel_rfl) (by kernel_rfl) (by kernel_rfl) ?hQ8 ?hy8 (by assumption) ?rest8
    case hi8 => (simp only [List.getElem?_toArray, List.getElem?_cons_zero, List.getElem?_cons_succ]; rfl)
    case hQ8 => exact fun _ _ _ h => h
    case hy8 => exact Or.inl ⟨by rfl, by intro wS hSw; (try dsimp only at hSw); go_simp; try first | (with_reducible rfl) | (simp only [*]; done) | omega⟩
    try simp only [Act.put, List.setIfInBounds_toArray, List.set_cons_zero, List.set_cons_succ]
    refine wpAnyH_take (i := 10) (oi := ?oo9) (v := ?vv9) ?hi9 (by kernel_rfl) (by kernel_rfl) (by kernel_rfl) ?hQ9 ?hy9 (by assumption) ?rest9
    case hi9 => (simp only [List.getElem?_toArray, List.getElem?_cons_zero, List.getElem?_cons_succ]; rfl)
    case hQ9 => exact fun _ _ _ h => h
    case hy9 => exact Or.inl ⟨by rfl, by intro wS hSw; (try dsimp only at hSw); go_simp; try first | (with_reducible rfl) | (simp only [*]; done) | omega⟩
    try simp only [Act.put, List.setIfInBounds_toArray, List.set_cons_zero, List.set_cons_succ]
    refine wpAnyH_take (i := 11) (oi := ?oo10) (v := ?vv10) ?hi10 (by kernel_rfl) (by kernel_rfl) (by kernel_rfl) ?hQ10 ?hy10 (by assumption) ?rest10
    case hi10 => (simp only [List.getElem?_toArray, List.getElem?_cons_zero, List.getElem?_cons_succ]; rfl)
    case hQ10 => exact fun _ _ _ h => h
    case hy10 => exact Or.inl ⟨by rfl, by intro wS hSw; (try dsimp only at hSw); go_simp; try first | (with_reducible rfl) | (simp only [*]; done) | omega⟩
    try simp only [Act.put, List.setIfInBounds_toArray, List.set_cons_zero, List.set_cons_succ]
    refine wpAnyH_take (i := 12) (oi := ?oo11) (v := ?vv11) ?hi11 (by kernel_rfl) (by kernel_rfl) (by kernel_rfl) ?hQ11 ?hy11 (by assumption) ?rest11
    case hi11 => (simp only [List.getElem?_toArray, List.getElem?_cons_zero, List.getElem?_cons_succ]; rfl)
    case hQ11 => exact fun _ _ _ h => h
    case hy11 => exact Or.inl ⟨by rfl, by intro wS hSw; (try dsimp only at hSw); go_simp; try first | (with_reducible rfl) | (simp only [*]; done) | omega⟩
    try simp only [Act.put, List.setIfInBounds_toArray, List.set_cons_zero, List.set_cons_succ]
    refine wpAnyH_take (i := 14) (oi := ?oo12) (v := ?vv12) ?hi12 (by kernel_rfl) (by kernel_rfl) (by kernel_rfl) ?hQ12 ?hy12 (by assumption) ?rest12
    case hi12 => (simp only [List.getElem?_toArray, List.getElem?_cons_zero, List.getElem?_cons_succ]; rfl)
    case hQ12 => exact fun _ _ _ h => h
    case hy12 => exact Or.inl ⟨by rfl, by intro wS hSw; (try dsimp only at hSw); go_simp; try first | (with_reducible rfl) | (simp only [*]; done) | omega⟩
    try simp only [Act.put, List.setIfInBounds_toArray, List.set_cons_zero, List.set_cons_succ]
    refine wpAnyH_take (i := 15) (oi := ?oo13) (v := .int .i64 ((k : Int) + 1)) ?hi13 (by kernel_rfl) (by kernel_rfl) (by kernel_rfl) ?hQ13 ?hy13 (by assumption) ?rest13
    case hi13 => (simp only [List.getElem?_toArray, List.getElem?_cons_zero, List.getElem?_cons_succ]; rfl)
    case hQ13 => exact fun _ _ _ h => h
    case hy13 => exact Or.inl ⟨by rfl, by intro wS hSw; (try dsimp only at hSw); go_simp; rw [wrap_succ hkn (by omega)]⟩
    try simp only [Act.put, List.setIfInBounds_toArray, List.set_cons_zero, List.set_cons_succ]
    refine wpAnyH_ready (rs := [6, 13]) (by kernel_rfl) (by simp) ?_
    refine (AllReadyH.cons (o := ?bo14n6) ?bh14n6 (fun K hK => ?br14n6) (AllReadyH.cons (o := ?bo14n13) ?bh14n13 (fun K hK => ?br14n13) AllReadyH.nil))
    case bh14n6 => (simp only [List.getElem?_toArray, List.getElem?_cons_zero, List.getElem?_cons_succ]; rfl)
    case bh14n13 => (simp only [List.getElem?_toArray, List.getElem?_cons_zero, List.getElem?_cons_succ]; rfl)
    case br14n6 =>
      go_simp
      refine hK.out _ _ (trivial) (fun hHeld => ?_)
      clear hK
      refine wpAnyH_take (i := 8) (oi := ?oo15) (v := .slice (some ⟨g, 0, none⟩) k cx) ?hi15 (by kernel_rfl) (by kernel_rfl) (by kernel_rfl) ?hQ15 ?hy15 (by assumption) ?rest15
      case hi15 => (simp only [List.getElem?_toArray, List.getElem?_cons_zero, List.getElem?_cons_succ]; rfl)
      case hQ15 => exact fun _ _ _ h => h
      case hy15 => exact Or.inl ⟨by rfl, by intro wS hSw; (try dsimp only at hSw); go_simp; try first | (with_reducible rfl) | (simp only [*]; done) | omega⟩
      try simp only [Act.put, List.setIfInBounds_toArray, List.set_cons_zero, List.set_cons_succ]
      refine wpAnyH_ready (rs := [13]) (by kernel_rfl) (by simp) ?_
      refine (AllReadyH.cons (o := ?bo16n13) ?bh16n13 (fun K hK => ?br16n13) AllReadyH.nil)
      case bh16n13 => (simp only [List.getElem?_toArray, List.getElem?_cons_zero, List.getElem?_cons_succ]; rfl)
      case br16n13 =>
        go_simp
        refine hK.out _ _ (trivial) (fun hHeld => ?_)
        clear hK
        refine wpAnyH_take (i := 16) (oi := ?oo17) (v := .slice (some ⟨g, 0, none⟩) (X.l.length - (k + 1)) (cx - (k + 1))) ?hi17 (by kernel_rfl) (by kernel_rfl) (by kernel_rfl) ?hQ17 ?hy17 (by assumption) ?rest17
        case hi17 => (simp only [List.getElem?_toArray, List.getElem?_cons_zero, List.getElem?_cons_succ]; rfl)
        case hQ17 => exact fun _ _ _ h => h
        case hy17 => exact Or.inl ⟨by rfl, by intro wS hSw; (try dsimp only at hSw); go_simp; exact unhide HZ⟩
        try simp only [Act.put, List.setIfInBounds_toArray, List.set_cons_zero, List.set_cons_succ]
        refine wpAnyH_ready (rs := [17]) (by kernel_rfl) (by simp) ?_
        refine (AllReadyH.cons (o := ?bo18n17) ?bh18n17 (fun K hK => ?br18n17) AllReadyH.nil)
        case bh18n17 => (simp only [List.getElem?_toArray, List.getElem?_cons_zero, List.getElem?_cons_succ]; rfl)
        case br18n17 =>
          refine wpo_appendK (s := .tmp 35) (x := .tmp 43) (t := 36) (by rfl) (by rfl) (by rfl) hr ?_
          refine hK.out _ _ (trivial) (fun hHeld => ?_)
          clear hK
          refine wpAnyH_take (i := 18) (oi := ?oo19) (v := ?vv19) ?hi19 (by kernel_rfl) (by kernel_rfl) (by kernel_rfl) ?hQ19 ?hy19 (by assumption) ?rest19
          case hi19 => (simp only [List.getElem?_toArray, List.getElem?_cons_zero, List.getElem?_cons_succ]; rfl)
          case hQ19 => exact fun _ _ _ h => h
          case hy19 => exact Or.inl ⟨by rfl, by intro wS hSw; (try dsimp only at hSw); go_simp; try first | (with_reducible rfl) | (simp only [*]; done) | omega⟩
          try simp only [Act.put, List.setIfInBounds_toArray, List.set_cons_zero, List.set_cons_succ]
          refine wpAnyH_take (i := 19) (oi := ?oo20) (v := ?vv20) ?hi20 (by kernel_rfl) (by kernel_rfl) (by kernel_rfl) ?hQ20 ?hy20 (by assumption) ?rest20
          case hi20 => (simp only [List.getElem?_toArray, List.getElem?_cons_zero, List.getElem?_cons_succ]; rfl)
          case hQ20 => exact fun _ _ _ h => h
          case hy20 => exact Or.inl ⟨by rfl, by intro wS hSw; (try dsimp only at hSw); go_simp; try first | (with_reducible rfl) | (simp only [*]; done) | omega⟩
          try simp only [Act.put, List.setIfInBounds_toArray, List.set_cons_zero, List.set_cons_succ]
          refine wpAnyH_ready (rs := [20]) (by kernel_rfl) (by simp) ?_
          refine (AllReadyH.cons (o := ?bo21n20) ?bh21n20 (fun K hK => ?br21n20) AllReadyH.nil)
          case bh21n20 => (simp only [List.getElem?_toArray, List.getElem?_cons_zero, List.getElem?_cons_succ]; rfl)
          case br21n20 =>
            go_simp
            refine hK.out _ _ (trivial) (fun hHeld => ?_)
            clear hK
            refine wpAnyH_done (by kernel_rfl) ?_ _
            go_wp2
            go_ret
            exact drop_fin hj hkl hz1 hz3 hbs HDI2 HX HW HB3 HBd HA1 HA2 HGX HSb HG4 c4
    case br14n13 =>
      go_simp
      refine hK.out _ _ (trivial) (fun hHeld => ?_)
      clear hK
      refine wpAnyH_take (i := 16) (oi := ?oo22) (v := .slice (some ⟨g, 0, none⟩) (X.l.length - (k + 1)) (cx - (k + 1))) ?hi22 (by kernel_rfl) (by kernel_rfl) (by kernel_rfl) ?hQ22 ?hy22 (by assumption) ?rest22
      case hi22 => (simp only [List.getElem?_toArray, List.getElem?_cons_zero, List.getElem?_cons_succ]; rfl)
      case hQ22 => exact fun _ _ _ h => h
      case hy22 => exact Or.inl ⟨by rfl, by intro wS hSw; (try dsimp only at hSw); go_simp; exact unhide HZ⟩
      try simp only [Act.put, List.setIfInBounds_toArray, List.set_cons_zero, List.set_cons_succ]
      refine wpAnyH_ready (rs := [6]) (by kernel_rfl) (by simp) ?_
      refine (AllReadyH.cons (o := ?bo23n6) ?bh23n6 (fun K hK => ?br23n6) AllReadyH.nil)
      case bh23n6 => (simp only [List.getElem?_toArray, List.getElem?_cons_zero, List.getElem?_cons_succ]; rfl)
      case br23n6 =>
        go_simp
        refine hK.out _ _ (trivial) (fun hHeld => ?_)
        clear hK
        refine wpAnyH_take (i := 8) (oi := ?oo24) (v := .slice (some ⟨g, 0, none⟩) k cx) ?hi24 (by kernel_rfl) (by kernel_rfl) (by kernel_rfl) ?hQ24 ?hy24 (by assumption) ?rest24
        case hi24 => (simp only [List.getElem?_toArray, List.getElem?_cons_zero, List.getElem?_cons_succ]; rfl)
        case hQ24 => exact fun _ _ _ h => h
        case hy24 => exact Or.inl ⟨by rfl, by intro wS hSw; (try dsimp only at hSw); go_simp; try first | (with_reducible rfl) | (simp only [*]; done) | omega⟩
        try simp only [Act.put, List.setIfInBounds_toArray, List.set_cons_zero, List.set_cons_succ]
        refine wpAnyH_ready (rs := [17]) (by kernel_rfl) (by simp) ?_
        refine (AllReadyH.cons (o := ?bo25n17) ?bh25n17 (fun K hK => ?br25n17) AllReadyH.nil)
        case bh25n17 => (simp only [List.getElem?_toArray, List.getElem?_cons_zero, List.getElem?_cons_succ]; rfl)
        case br25n17 =>
          refine wpo_appendK (s := .tmp 35) (x := .tmp 43) (t := 36) (by rfl) (by rfl) (by rfl) hr ?_
          refine hK.out _ _ (trivial) (fun hHeld => ?_)
          clear hK
          refine wpAnyH_take (i := 18) (oi := ?oo26) (v := ?vv26) ?hi26 (by kernel_rfl) (by kernel_rfl) (by kernel_rfl) ?hQ26 ?hy26 (by assumption) ?rest26
          case hi26 => (simp only [List.getElem?_toArray, List.getElem?_cons_zero, List.getElem?_cons_succ]; rfl)
          case hQ26 => exact fun _ _ _ h => h
          case hy26 => exact Or.inl ⟨by rfl, by intro wS hSw; (try dsimp only at hSw); go_simp; try first | (with_reducible rfl) | (simp only [*]; done) | omega⟩
          try simp only [Act.put, List.setIfInBounds_toArray, List.set_cons_zero, List.set_cons_succ]
          refine wpAnyH_take (i := 19) (oi := ?oo27) (v := ?vv27) ?hi27 (by kernel_rfl) (by kernel_rfl) (by kernel_rfl) ?hQ27 ?hy27 (by assumption) ?rest27
          case hi27 => (simp only [List.getElem?_toArray, List.getElem?_cons_zero, List.getElem?_cons_succ]; rfl)
          case hQ27 => exact fun _ _ _ h => h
          case hy27 => exact Or.inl ⟨by rfl, by intro wS hSw; (try dsimp only at hSw); go_simp; try first | (with_reducible rfl) | (simp only [*]; done) | omega⟩
          try simp only [Act.put, List.setIfInBounds_toArray, List.set_cons_zero, List.set_cons_succ]
          refine wpAnyH_ready (rs := [20]) (by kernel_rfl) (by simp) ?_
          refine (AllReadyH.cons (o := ?bo28n20) ?bh28n20 (fun K hK => ?br28n20) AllReadyH.nil)
          case bh28n20 => (simp only [List.getElem?_toArray, List.getElem?_cons_zero, List.getElem?_cons_succ]; rfl)
          case br28n20 =>
            go_simp
            refine hK.out _ _ (trivial) (fun hHeld => ?_)
            clear hK
            refine wpAnyH_done (by kernel_rfl) ?_ _
            go_wp2
            go_ret
            exact drop_fin hj hkl hz1 hz3 hbs HDI2 HX HW HB3 HBd HA1 HA2 HGX HSb HG4 c4
  · have hcz : k + 1 < cx := by omega
    have hre := unhide HAP ⟨g, (k + 1) * 4, none⟩ (.inl rfl) (cx - (k + 1))
    obtain ⟨v4, w4, hr, how, hg4, hv4⟩ := hre
    have c4 : w4.cell? ⟨b, o + j * 2 + 1, none⟩ = some (.slice (some ⟨g, 0, none⟩) X.l.length cx) := by rw [(grown_turn hg4).cell (p := ⟨b, o + j * 2 + 1, none⟩) hbs (fun e => hgb (by injection e))]; exact c1
    have f4 : w4.frozen? ⟨b, o + j * 2 + 1, none⟩ = false := by rw [(grown_turn hg4).frozen (p := ⟨b, o + j * 2 + 1, none⟩) hbs (fun e => hgb (by injection e))]; exact f1
    have HG4 := hide (And.intro how (And.intro hg4 hv4))
    obtain ⟨a4, k4, rfl⟩ := row_form how
    clear how hg4 hv4 HAP
    refine wp_region_held_drew (S := fun _ => True) (by kernel_rfl) trivial (fun hHeld => ?_)
    refine wpAnyH_take (i := 0) (oi := ?oo29) (v := ?vv29) ?hi29 (by kernel_rfl) (by kernel_rfl) (by kernel_rfl) ?hQ29 ?hy29 (by assumption) ?rest29
    case hi29 => (simp only [List.getElem?_toArray, List.getElem?_cons_zero]; rfl)
    case hQ29 => exact fun _ _ _ h => h
    case hy29 => exact Or.inl ⟨by rfl, by intro wS hSw; (try dsimp only at hSw); go_simp; try first | (with_reducible rfl) | (simp only [*]; done) | omega⟩
    try simp only [Act.put, List.setIfInBounds_toArray, List.set_cons_zero, List.set_cons_succ]
    refine wpAnyH_take (i := 1) (oi := ?oo30) (v := ?vv30) ?hi30 (by kernel_rfl) (by kernel_rfl) (by kernel_rfl) ?hQ30 ?hy30 (by assumption) ?rest30
    case hi30 => (simp only [List.getElem?_toArray, List.getElem?_cons_zero, List.getElem?_cons_succ]; rfl)
    case hQ30 => exact fun _ _ _ h => h
    case hy30 => exact Or.inl ⟨by rfl, by intro wS hSw; (try dsimp only at hSw); go_simp; try first | (with_reducible rfl) | (simp only [*]; done) | omega⟩
    try simp only [Act.put, List.setIfInBounds_toArray, List.set_cons_zero, List.set_cons_succ]
    refine wpAnyH_take (i := 2) (oi := ?oo31) (v := ?vv31) ?hi31 (by kernel_rfl) (by kernel_rfl) (by kernel_rfl) ?hQ31 ?hy31 (by assumption) ?rest31
    case hi31 => (simp only [List.getElem?_toArray, List.getElem?_cons_zero, List.getElem?_cons_succ]; rfl)
    case hQ31 => exact fun _ _ _ h => h
    case hy31 => exact Or.inl ⟨by rfl, by intro wS hSw; (try dsimp only at hSw); go_simp; try first | (with_reducible rfl) | (simp only [*]; done) | omega⟩
    try simp only [Act.put, List.setIfInBounds_toArray, List.set_cons_zero, List.set_cons_succ]
    refine wpAnyH_take (i := 3) (oi := ?oo32) (v := ?vv32) ?hi32 (by kernel_rfl) (by kernel_rfl) (by kernel_rfl) ?hQ32 ?hy32 (by assumption) ?rest32
    case hi32 => (simp only [List.getElem?_toArray, List.getElem?_cons_zero, List.getElem?_cons_succ]; rfl)
    case hQ32 => exact fun _ _ _ h => h
    case hy32 => exact Or.inl ⟨by rfl, by intro wS hSw; (try dsimp only at hSw); go_simp; try first | (with_reducible rfl) | (simp only [*]; done) | omega⟩
    try simp only [Act.put, List.setIfInBounds_toArray, List.set_cons_zero, List.set_cons_succ]
    refine wpAnyH_take (i := 4) (oi := ?oo33) (v := ?vv33) ?hi33 (by kernel_rfl) (by kernel_rfl) (by kernel_rfl) ?hQ33 ?hy33 (by assumption) ?rest33
    case hi33 => (simp only [List.getElem?_toArray, List.getElem?_cons_zero, List.getElem?_cons_succ]; rfl)
    case hQ33 => exact fun _ _ _ h => h
    case hy33 => exact Or.inl ⟨by rfl, by intro wS hSw; (try dsimp only at hSw); go_simp; try first | (with_reducible rfl) | (simp only [*]; done) | omega⟩
    try simp only [Act.put, List.setIfInBounds_toArray, List.set_cons_zero, List.set_cons_succ]
    refine wpAnyH_take (i := 5) (oi := ?oo34) (v := ?vv34) ?hi34 (by kernel_rfl) (by kernel_rfl) (by kernel_rfl) ?hQ34 ?hy34 (by assumption) ?rest34
    case hi34 => (simp only [List.getElem?_toArray, List.getElem?_cons_zero, List.getElem?_cons_succ]; rfl)
    case hQ34 => exact fun _ _ _ h => h
    case hy34 => exact Or.inl ⟨by rfl, by intro wS hSw; (try dsimp only at hSw); go_simp; try first | (with_reducible rfl) | (simp only [*]; done) | omega⟩
    try simp only [Act.put, List.setIfInBounds_toArray, List.set_cons_zero, List.set_cons_succ]
    refine wpAnyH_take (i := 7) (oi := ?oo35) (v := ?vv35) ?hi35 (by kernel_rfl) (by kernel_rfl) (by kernel_rfl) ?hQ35 ?hy35 (by assumption) ?rest35
    case hi35 => (simp only [List.getElem?_toArray, List.getElem?_cons_zero, List.getElem?_cons_succ]; rfl)
    case hQ35 => exact fun _ _ _ h => h
    case hy35 => exact Or.inl ⟨by rfl, by intro wS hSw; (try dsimp only at hSw); go_simp; try first | (with_reducible rfl) | (simp only [*]; done) | omega⟩
    try simp only [Act.put, List.setIfInBounds_toArray, List.set_cons_zero, List.set_cons_succ]
    refine wpAnyH_take (i := 9) (oi := ?oo36) (v := ?vv36) ?hi36 (by kernel_rfl) (by kernel_rfl) (by kernel_rfl) ?hQ36 ?hy36 (by assumption) ?rest36
    case hi36 => (simp only [List.getElem?_toArray, List.getElem?_cons_zero, List.getElem?_cons_succ]; rfl)
    case hQ36 => exact fun _ _ _ h => h
    case hy36 => exact Or.inl ⟨by rfl, by intro wS hSw; (try dsimp only at hSw); go_simp; try first | (with_reducible rfl) | (simp only [*]; done) | omega⟩
    try simp only [Act.put, List.setIfInBounds_toArray, List.set_cons_zero, List.set_cons_succ]
    refine wpAnyH_take (i := 10) (oi := ?oo37) (v := ?vv37) ?hi37 (by kernel_rfl) (by kernel_rfl) (by kernel_rfl) ?hQ37 ?hy37 (by assumption) ?rest37
    case hi37 => (simp only [List.getElem?_toArray, List.getElem?_cons_zero, List.getElem?_cons_succ]; rfl)
    case hQ37 => exact fun _ _ _ h => h
    case hy37 => exact Or.inl ⟨by rfl, by intro wS hSw; (try dsimp only at hSw); go_simp; try first | (with_reducible rfl) | (simp only [*]; done) | omega⟩
    try simp only [Act.put, List.setIfInBounds_toArray, List.set_cons_zero, List.set_cons_succ]
    refine wpAnyH_take (i := 11) (oi := ?oo38) (v := ?vv38) ?hi38 (by kernel_rfl) (by kernel_rfl) (by kernel_rfl) ?hQ38 ?hy38 (by assumption) ?rest38
    case hi38 => (simp only [List.getElem?_toArray, List.getElem?_cons_zero, List.getElem?_cons_succ]; rfl)
    case hQ38 => exact fun _ _ _ h => h
    case hy38 => exact Or.inl ⟨by rfl, by intro wS hSw; (try dsimp only at hSw); go_simp; try first | (with_reducible rfl) | (simp only [*]; done) | omega⟩
    try simp only [Act.put, List.setIfInBounds_toArray, List.set_cons_zero, List.set_cons_succ]
    refine wpAnyH_take (i := 12) (oi := ?oo39) (v := ?vv39) ?hi39 (by kernel_rfl) (by kernel_rfl) (by kernel_rfl) ?hQ39 ?hy39 (by assumption) ?rest39
    case hi39 => (simp only [List.getElem?_toArray, List.getElem?_cons_zero, List.getElem?_cons_succ]; rfl)
    case hQ39 => exact fun _ _ _ h => h
    case hy39 => exact Or.inl ⟨by rfl, by intro wS hSw; (try dsimp only at hSw); go_simp; try first | (with_reducible rfl) | (simp only [*]; done) | omega⟩
    try simp only [Act.put, List.setIfInBounds_toArray, List.set_cons_zero, List.set_cons_succ]
    refine wpAnyH_take (i := 14) (oi := ?oo40) (v := ?vv40) ?hi40 (by kernel_rfl) (by kernel_rfl) (by kernel_rfl) ?hQ40 ?hy40 (by assumption) ?rest40
    case hi40 => (simp only [List.getElem?_toArray, List.getElem?_cons_zero, List.getElem?_cons_succ]; rfl)
    case hQ40 => exact fun _ _ _ h => h
    case hy40 => exact Or.inl ⟨by rfl, by intro wS hSw; (try dsimp only at hSw); go_simp; try first | (with_reducible rfl) | (simp only [*]; done) | omega⟩
    try simp only [Act.put, List.setIfInBounds_toArray, List.set_cons_zero, List.set_cons_succ]
    refine wpAnyH_take (i := 15) (oi := ?oo41) (v := .int .i64 ((k : Int) + 1)) ?hi41 (by kernel_rfl) (by kernel_rfl) (by kernel_rfl) ?hQ41 ?hy41 (by assumption) ?rest41
    case hi41 => (simp only [List.getElem?_toArray, List.getElem?_cons_zero, List.getElem?_cons_succ]; rfl)
    case hQ41 => exact fun _ _ _ h => h
    case hy41 => exact Or.inl ⟨by rfl, by intro wS hSw; (try dsimp only at hSw); go_simp; rw [wrap_succ hkn (by omega)]⟩
    try simp only [Act.put, List.setIfInBounds_toArray, List.set_cons_zero, List.set_cons_succ]
    refine wpAnyH_ready (rs := [6, 13]) (by kernel_rfl) (by simp) ?_
    refine (AllReadyH.cons (o := ?bo42n6) ?bh42n6 (fun K hK => ?br42n6) (AllReadyH.cons (o := ?bo42n13) ?bh42n13 (fun K hK => ?br42n13) AllReadyH.nil))
    case bh42n6 => (simp only [List.getElem?_toArray, List.getElem?_cons_zero, List.getElem?_cons_succ]; rfl)
    case bh42n13 => (simp only [List.getElem?_toArray, List.getElem?_cons_zero, List.getElem?_cons_succ]; rfl)
    case br42n6 =>
      go_simp
      refine hK.out _ _ (trivial) (fun hHeld => ?_)
      clear hK
      refine wpAnyH_take (i := 8) (oi := ?oo43) (v := .slice (some ⟨g, 0, none⟩) k cx) ?hi43 (by kernel_rfl) (by kernel_rfl) (by kernel_rfl) ?hQ43 ?hy43 (by assumption) ?rest43
      case hi43 => (simp only [List.getElem?_toArray, List.getElem?_cons_zero, List.getElem?_cons_succ]; rfl)
      case hQ43 => exact fun _ _ _ h => h
      case hy43 => exact Or.inl ⟨by rfl, by intro wS hSw; (try dsimp only at hSw); go_simp; try first | (with_reducible rfl) | (simp only [*]; done) | omega⟩
      try simp only [Act.put, List.setIfInBounds_toArray, List.set_cons_zero, List.set_cons_succ]
      refine wpAnyH_ready (rs := [13]) (by kernel_rfl) (by simp) ?_
      refine (AllReadyH.cons (o := ?bo44n13) ?bh44n13 (fun K hK => ?br44n13) AllReadyH.nil)
      case bh44n13 => (simp only [List.getElem?_toArray, List.getElem?_cons_zero, List.getElem?_cons_succ]; rfl)
      case br44n13 =>
        go_simp
        refine hK.out _ _ (trivial) (fun hHeld => ?_)
        clear hK
        refine wpAnyH_take (i := 16) (oi := ?oo45) (v := .slice (some ⟨g, (k + 1) * 4, none⟩) (X.l.length - (k + 1)) (cx - (k + 1))) ?hi45 (by kernel_rfl) (by kernel_rfl) (by kernel_rfl) ?hQ45 ?hy45 (by assumption) ?rest45
        case hi45 => (simp only [List.getElem?_toArray, List.getElem?_cons_zero, List.getElem?_cons_succ]; rfl)
        case hQ45 => exact fun _ _ _ h => h
        case hy45 => exact Or.inl ⟨by rfl, by intro wS hSw; (try dsimp only at hSw); go_simp; done⟩
        try simp only [Act.put, List.setIfInBounds_toArray, List.set_cons_zero, List.set_cons_succ]
        refine wpAnyH_ready (rs := [17]) (by kernel_rfl) (by simp) ?_
        refine (AllReadyH.cons (o := ?bo46n17) ?bh46n17 (fun K hK => ?br46n17) AllReadyH.nil)
        case bh46n17 => (simp only [List.getElem?_toArray, List.getElem?_cons_zero, List.getElem?_cons_succ]; rfl)
        case br46n17 =>
          refine wpo_appendK (s := .tmp 35) (x := .tmp 43) (t := 36) (by rfl) (by rfl) (by rfl) hr ?_
          refine hK.out _ _ (trivial) (fun hHeld => ?_)
          clear hK
          refine wpAnyH_take (i := 18) (oi := ?oo47) (v := ?vv47) ?hi47 (by kernel_rfl) (by kernel_rfl) (by kernel_rfl) ?hQ47 ?hy47 (by assumption) ?rest47
          case hi47 => (simp only [List.getElem?_toArray, List.getElem?_cons_zero, List.getElem?_cons_succ]; rfl)
          case hQ47 => exact fun _ _ _ h => h
          case hy47 => exact Or.inl ⟨by rfl, by intro wS hSw; (try dsimp only at hSw); go_simp; try first | (with_reducible rfl) | (simp only [*]; done) | omega⟩
          try simp only [Act.put, List.setIfInBounds_toArray, List.set_cons_zero, List.set_cons_succ]
          refine wpAnyH_take (i := 19) (oi := ?oo48) (v := ?vv48) ?hi48 (by kernel_rfl) (by kernel_rfl) (by kernel_rfl) ?hQ48 ?hy48 (by assumption) ?rest48
          case hi48 => (simp only [List.getElem?_toArray, List.getElem?_cons_zero, List.getElem?_cons_succ]; rfl)
          case hQ48 => exact fun _ _ _ h => h
          case hy48 => exact Or.inl ⟨by rfl, by intro wS hSw; (try dsimp only at hSw); go_simp; try first | (with_reducible rfl) | (simp only [*]; done) | omega⟩
          try simp only [Act.put, List.setIfInBounds_toArray, List.set_cons_zero, List.set_cons_succ]
          refine wpAnyH_ready (rs := [20]) (by kernel_rfl) (by simp) ?_
          refine (AllReadyH.cons (o := ?bo49n20) ?bh49n20 (fun K hK => ?br49n20) AllReadyH.nil)
          case bh49n20 => (simp only [List.getElem?_toArray, List.getElem?_cons_zero, List.getElem?_cons_succ]; rfl)
          case br49n20 =>
            go_simp
            refine hK.out _ _ (trivial) (fun hHeld => ?_)
            clear hK
            refine wpAnyH_done (by kernel_rfl) ?_ _
            go_wp2
            go_ret
            exact drop_fin hj hkl hz1 hz3 hbs HDI2 HX HW HB3 HBd HA1 HA2 HGX HSb HG4 c4
    case br42n13 =>
      go_simp
      refine hK.out _ _ (trivial) (fun hHeld => ?_)
      clear hK
      refine wpAnyH_take (i := 16) (oi := ?oo50) (v := .slice (some ⟨g, (k + 1) * 4, none⟩) (X.l.length - (k + 1)) (cx - (k + 1))) ?hi50 (by kernel_rfl) (by kernel_rfl) (by kernel_rfl) ?hQ50 ?hy50 (by assumption) ?rest50
      case hi50 => (simp only [List.getElem?_toArray, List.getElem?_cons_zero, List.getElem?_cons_succ]; rfl)
      case hQ50 => exact fun _ _ _ h => h
      case hy50 => exact Or.inl ⟨by rfl, by intro wS hSw; (try dsimp only at hSw); go_simp; done⟩
      try simp only [Act.put, List.setIfInBounds_toArray, List.set_cons_zero, List.set_cons_succ]
      refine wpAnyH_ready (rs := [6]) (by kernel_rfl) (by simp) ?_
      refine (AllReadyH.cons (o := ?bo51n6) ?bh51n6 (fun K hK => ?br51n6) AllReadyH.nil)
      case bh51n6 => (simp only [List.getElem?_toArray, List.getElem?_cons_zero, List.getElem?_cons_succ]; rfl)
      case br51n6 =>
        go_simp
        refine hK.out _ _ (trivial) (fun hHeld => ?_)
        clear hK
        refine wpAnyH_take (i := 8) (oi := ?oo52) (v := .slice (some ⟨g, 0, none⟩) k cx) ?hi52 (by kernel_rfl) (by kernel_rfl) (by kernel_rfl) ?hQ52 ?hy52 (by assumption) ?rest52
        case hi52 => (simp only [List.getElem?_toArray, List.getElem?_cons_zero, List.getElem?_cons_succ]; rfl)
        case hQ52 => exact fun _ _ _ h => h
        case hy52 => exact Or.inl ⟨by rfl, by intro wS hSw; (try dsimp only at hSw); go_simp; try first | (with_reducible rfl) | (simp only [*]; done) | omega⟩
        try simp only [Act.put, List.setIfInBounds_toArray, List.set_cons_zero, List.set_cons_succ]
        refine wpAnyH_ready (rs := [17]) (by kernel_rfl) (by simp) ?_
        refine (AllReadyH.cons (o := ?bo53n17) ?bh53n17 (fun K hK => ?br53n17) AllReadyH.nil)
        case bh53n17 => (simp only [List.getElem?_toArray, List.getElem?_cons_zero, List.getElem?_cons_succ]; rfl)
        case br53n17 =>
          refine wpo_appendK (s := .tmp 35) (x := .tmp 43) (t := 36) (by rfl) (by rfl) (by rfl) hr ?_
          refine hK.out _ _ (trivial) (fun hHeld => ?_)
          clear hK
          refine wpAnyH_take (i := 18) (oi := ?oo54) (v := ?vv54) ?hi54 (by kernel_rfl) (by kernel_rfl) (by kernel_rfl) ?hQ54 ?hy54 (by assumption) ?rest54
          case hi54 => (simp only [List.getElem?_toArray, List.getElem?_cons_zero, List.getElem?_cons_succ]; rfl)
          case hQ54 => exact fun _ _ _ h => h
          case hy54 => exact Or.inl ⟨by rfl, by intro wS hSw; (try dsimp only at hSw); go_simp; try first | (with_reducible rfl) | (simp only [*]; done) | omega⟩
          try simp only [Act.put, List.setIfInBounds_toArray, List.set_cons_zero, List.set_cons_succ]
          refine wpAnyH_take (i := 19) (oi := ?oo55) (v := ?vv55) ?hi55 (by kernel_rfl) (by kernel_rfl) (by kernel_rfl) ?hQ55 ?hy55 (by assumption) ?rest55
          case hi55 => (simp only [List.getElem?_toArray, List.getElem?_cons_zero, List.getElem?_cons_succ]; rfl)
          case hQ55 => exact fun _ _ _ h => h
          case hy55 => exact Or.inl ⟨by rfl, by intro wS hSw; (try dsimp only at hSw); go_simp; try first | (with_reducible rfl) | (simp only [*]; done) | omega⟩
          try simp only [Act.put, List.setIfInBounds_toArray, List.set_cons_zero, List.set_cons_succ]
          refine wpAnyH_ready (rs := [20]) (by kernel_rfl) (by simp) ?_
          refine (AllReadyH.cons (o := ?bo56n20) ?bh56n20 (fun K hK => ?br56n20) AllReadyH.nil)
          case bh56n20 => (simp only [List.getElem?_toArray, List.getElem?_cons_zero, List.getElem?_cons_succ]; rfl)
          case br56n20 =>
            go_simp
            refine hK.out _ _ (trivial) (fun hHeld => ?_)
            clear hK
            refine wpAnyH_done (by kernel_rfl) ?_ _
            go_wp2
            go_ret
            exact drop_fin hj hkl hz1 hz3 hbs HDI2 HX HW HB3 HBd HA1 HA2 HGX HSb HG4 c4
end Go.Proofs.Ytnlacjedamngkaa
