/-
  DropTrail of the program.
-/
import Derived.Test.YtnlacjedamngkaaDrp3
import Derived.Test.YtnlacjedamngkaaDrp5
import Derived.Test.YtnlacjedamngkaaDrp7
import Derived.Test.YtnlacjedamngkaaDrp8
import Derived.Test.YtnlacjedamngkaaDrp9
namespace Go.Proofs.Ytnlacjedamngkaa
open Go.ChangeShapes Go.WideShapes Go.ChangeAt Go.RowKit
set_option linter.unusedVariables false
set_option maxRecDepth 100000

theorem LOw.imp {α : Type} {n : Nat} {C D : World → (Nat → Prop) → List Value → α → Prop} (hr : ∀ w S cs x, C w S cs x → D w S cs x) {w : World} {S : Nat → Prop} {v : Value} {l : List α} (h : LOw n C w S v l) : LOw n D w S v l := by
  obtain ⟨a, cap, rfl, hl, h⟩ := h
  refine ⟨a, cap, rfl, hl, ?_⟩
  rcases h with h | ⟨b, o, U, h1, h2, h3, h4, h5, h6⟩
  · exact .inl h
  · refine .inr ⟨b, o, U, h1, h2, h3, h4, h5, fun i x hx => ?_⟩
    obtain ⟨cs, hcs, hin⟩ := h6 i x hx
    exact ⟨cs, hr w (U i) cs x hcs, hin⟩
theorem flat_len4 (css : List {c : List Value // c.length = 4}) : (css.flatMap Subtype.val).length = css.length * 4 := flatMap_len css _ (fun c => c.2)
theorem flat_one {css : List {c : List Value // c.length = 4}} (h : ∀ c ∈ css, One c.1) : One (css.flatMap Subtype.val) := by
  intro v hv
  obtain ⟨c, hc, hvc⟩ := List.mem_flatMap.1 hv
  exact h c hc v hvc
theorem css_split {α : Type} {css : List α} {k : Nat} (hk : k < css.length) : css = css.take k ++ (css[k] :: css.drop (k + 1)) := by
  rw [List.getElem_cons_drop, List.take_append_drop]
theorem erase_split {α : Type} (css : List α) (k : Nat) : css.eraseIdx k = css.take k ++ css.drop (k + 1) := List.eraseIdx_eq_take_drop_succ css k
theorem implExchK (css : List {c : List Value // c.length = 4}) (k : Nat) (hk : k < css.length) (g : Nat) (w : World) (hin : InB w g 0 (css.flatMap Subtype.val)) (h1 : ∀ c ∈ css, One c.1) (hg : g < w.heap.size) (hlen : css.length ≤ 1048576) :
    Calls Try.prog 48 #[.slice (some ⟨g, 0, none⟩) css.length css.length, .int .i64 k, .int .i64 ((k : Int) + 1), .slice none 0 0] w fun e w' => ∃ nb, e = .returned (.slice (some ⟨nb, 0, none⟩) (css.length - 1) (css.length - 1)) ∧ w.heap.size ≤ nb ∧ InB w' nb 0 ((css.eraseIdx k).flatMap Subtype.val) ∧ WrAt w' nb 0 ((css.length - 1) * 4) ∧ Below w.heap.size w w' := by
  rw [erase_split, List.flatMap_append]
  have hsp := css_split hk
  have hln : css.length = k + ((css.drop (k + 1)).length + 1) := by rw [List.length_drop]; omega
  have o1 : One ((css.take k).flatMap Subtype.val) := flat_one (fun c hc => h1 c (List.mem_of_mem_take hc))
  have o3 : One ((css.drop (k + 1)).flatMap Subtype.val) := flat_one (fun c hc => h1 c (List.mem_of_mem_drop hc))
  have l1 : ((css.take k).flatMap Subtype.val).length = k * 4 := by rw [flat_len4, List.length_take, Nat.min_eq_left (by omega)]
  have l3 := flat_len4 (css.drop (k + 1))
  have lx := css[k].2
  have hin2 : InB w g 0 ((css.take k).flatMap Subtype.val ++ (css[k].1 ++ (css.drop (k + 1)).flatMap Subtype.val)) := by
    rw [← List.flatMap_cons, ← List.flatMap_append, ← hsp]
    exact hin
  cases hd : (css.drop (k + 1)).length with
  | zero =>
    have e0 : css.drop (k + 1) = [] := List.length_eq_zero_iff.1 hd
    rw [hd] at hln
    rw [e0] at hin2 ⊢
    simp only [List.flatMap_nil, List.append_nil] at hin2 ⊢
    have := implExchT0 k _ css[k].1 g 0 w hin2 l1 o1 hg (by omega)
    rw [show css.length = k + 1 by omega, show k + 1 - 1 = k by omega]
    exact this
  | succ m =>
    rw [hd] at hln l3
    have := implExchT k m _ css[k].1 _ g 0 w hin2 l1 lx l3 o1 o3 hg (by omega)
    rw [show css.length = k + (m + 1) + 1 by omega, show k + (m + 1) + 1 - 1 = k + (m + 1) by omega]
    exact this
set_option maxHeartbeats 2000000 in
theorem implDropTrail (l : List StripeD) (id : Int) (S : Nat → Prop) (v : Value) (w : World) (h0 : LAt 2 stripeR w S v l) (b0 : bulkL stripeBulk l ≤ 1048576) :
    Calls Try.prog 11 #[v, .int .i64 id] w fun e w' => ∃ v', e = .returned v' ∧ LOw 2 stripeO w' (Within w.heap.size w'.heap.size) v' (dropL l id) ∧ Below w.heap.size w w' := by
  have hl := bulkL_len stripeBulk l
  have hbl : ∀ j (hj : j < l.length), l[j].l.length ≤ 1048576 := fun j hj => by
    have h1 := stripe_bulk_l hj b0
    have h2 := bulkL_len trailBulk l[j].l
    omega
  have HC := hide (implCopyStripes l S v w h0 b0)
  clear h0
  go_enter Try.func11, Try.ntmps11
  go_wp2_with fail
  refine (unhide HC).mono ?_
  rintro e w1 ⟨g0, rfl, ow1, hb1⟩
  clear HC
  have HF := hide (implfindTrail l id _ _ w1 (ow1.read stripeR_widens stripeC_read) b0)
  have HO := hide (And.intro ow1 hb1)
  clear ow1 hb1
  go_wp2_with fail
  refine (unhide HF).mono ?_
  rintro e w2 ⟨rfl, hb2⟩
  clear HF
  obtain ⟨ow1, hb1⟩ := unhide HO
  clear HO
  have ow2 := ow1.keep stripeC_keeps hb2
  have B2 := bthen hb1 hb2
  have hz1 := hb1.size
  have hz2 := hb2.size
  clear ow1 hb1 hb2
  by_cases hk : placeAt l id < 0
  · have HNO := hide (drop_no hk)
    have hk2 : ¬ (0 : Int) ≤ placeAt l id := by omega
    generalize placeAt l id = pl at *
    have HW := hide (And.intro ow2 B2)
    clear ow2 B2
    go_wp2
    go_ret
    exact ⟨_, rfl, by rw [unhide HNO]; exact ((unhide HW).1.imp stripeC_own).widens (fun k hk => ⟨hk.1, by have := hk.2; omega⟩), (unhide HW).2⟩
  have hn : l.length ≠ 0 := fun e => hk (by rw [at_nil l id e]; omega)
  obtain ⟨j, hj, hje⟩ := stripe_in2 id l.length (by omega)
  have hTA := at_is l id j hj hje
  have hSA : stripeAt l id = (j : Int) := by rw [stripeAt, if_neg hn, hje]
  obtain ⟨k, hkl, hke⟩ := idx_is (p := fun x : TrailD => decide (x.id = id)) (l := trailsAt l id) hk
  have hPK : placeAt l id = (k : Int) := hke
  rw [hTA] at hkl
  have HDI := hide (drop_is hSA hPK hj)
  have hlx := hbl j hj
  obtain ⟨b, o, cap, T, cs, hv, hc, hin, hwr, hSb, hT, hend⟩ := ow2.swap stripeC_keeps (fun _ _ _ _ h => stripeC_len h) (fun k hk => by have := hk.2; omega) hj
  injection hv with hv1 hv2 hv3
  injection hv1 with hv1
  injection hv1 with hv1 hv4
  subst hv1
  subst hv4
  obtain ⟨g, rfl, lo⟩ := hc
  obtain ⟨css, T2, hcl, hin2, hTg, hgs, hT2, hT3, hT4⟩ := lo.row (n := 4) (fun _ _ _ _ h => trailO_len h) (by omega) (fun e => by rw [e] at hkl; simp at hkl)
  have hone : ∀ c ∈ css, One c.1 := by
    intro c hc
    obtain ⟨i, hi, rfl⟩ := List.mem_iff_getElem.1 hc
    exact trailR_one (trailO_read _ _ _ _ (hT4 i _ _ (List.getElem?_eq_getElem hi) (List.getElem?_eq_getElem (by rw [← hcl]; exact hi))))
  have HE := hide (implExchK css k (by rw [hcl]; exact hkl) g w2 hin2 hone hgs (by omega))
  rw [hcl] at HE
  rw [hSA, hPK]
  have hji : (j : Int) < (l.length : Int) := by omega
  have hj0 : (0 : Int) ≤ (j : Int) := by omega
  have hk0 : (0 : Int) ≤ (k : Int) := by omega
  have c1 : w2.cell? ⟨g0, j * 2 + 1, none⟩ = some (.slice (some ⟨g, 0, none⟩) l[j].l.length l[j].l.length) := by have := hin 1 _ rfl; rwa [Nat.zero_add] at this
  have HA1 := hide (And.intro hin (And.intro hwr (And.intro hT hend)))
  have HA2 := hide (And.intro hT2 (And.intro hT3 (And.intro hT4 hcl)))
  have HB2 := hide B2
  have HSb := hide hSb
  have HTA := hide hTA
  have hg0s := hwr.1
  have HL := hide (And.intro hkl hgs)
  generalize hX : l[j] = X at *
  have HX := hide hX
  clear hX hin hwr hT hend hT2 hT3 hT4 hcl hin2 hTg hone lo hTA ow2 hSb B2 hke hPK hSA hk hn hje hbl hv2 hv3
  go_wp2_with fail
  refine (unhide HE).mono ?_
  rintro e w3 ⟨nb, rfl, hnb, hin3, hwr3, hb3⟩
  have c2 : w3.cell? ⟨g0, j * 2 + 1, none⟩ = some (.slice (some ⟨g, 0, none⟩) X.l.length X.l.length) := by rw [hb3.cell (p := ⟨g0, j * 2 + 1, none⟩) hg0s]; exact c1
  have f2 : w3.frozen? ⟨g0, j * 2 + 1, none⟩ = false := by
    have := (unhide HA1).2.1.free (j * 2 + 1) (by omega)
    rw [Nat.zero_add] at this
    rw [hb3.frozen (p := ⟨g0, j * 2 + 1, none⟩) hg0s]; exact this
  have HN := hide (And.intro hnb (And.intro hin3 (And.intro hwr3 hb3)))
  clear hnb hin3 hwr3 hb3 c1 HE
  go_wp2
  go_ret
  obtain ⟨hnb, hin3, hwr3, hb3⟩ := unhide HN
  obtain ⟨hin, hwr, hT, hend⟩ := unhide HA1
  obtain ⟨hT2, hT3, hT4, hcl⟩ := unhide HA2
  obtain ⟨hkl, hgs⟩ := unhide HL
  have B2 := unhide HB2
  have hSb := unhide HSb
  have hel : (X.l.eraseIdx k).length = X.l.length - 1 := List.length_eraseIdx_of_lt hkl
  have hTs : ∀ q, T q → q < w2.heap.size := fun q hq => by have := (hT q hq).1.2; omega
  have lf := LOw.left trailO_keeps (n := 4) (by omega) hcl hkl (by omega) (fun i q h => (hT2 i q h).1) hTs hT3 hT4 hb3 hnb (by rw [hel]; exact hwr3) hin3 (X.l.length - 1)
  rw [hel] at lf
  have tt := Turn.set w3 ⟨g0, j * 2 + 1, none⟩ (.slice (some ⟨nb, 0, none⟩) (X.l.length - 1) (X.l.length - 1))
  have lf4 := lf.turn trailO_keeps tt (fun q hq e => by
    have e2 : q = g0 := e
    rcases hq with hq | hq
    · exact (hT q hq).2 e2
    · have := hq.1; omega)
  have hsz : (w3.setCell ⟨g0, j * 2 + 1, none⟩ (.slice (some ⟨nb, 0, none⟩) (X.l.length - 1) (X.l.length - 1))).heap.size = w3.heap.size := by simp [World.setCell]
  have hz3 := hb3.size
  refine ⟨_, rfl, ?_, ?_⟩
  · rw [unhide HDI]
    refine (LOw.imp stripeC_own (hend (w3.setCell ⟨g0, j * 2 + 1, none⟩ (.slice (some ⟨nb, 0, none⟩) (X.l.length - 1) (X.l.length - 1))) (fun q => T q ∨ Within w2.heap.size w3.heap.size q) [.int .i64 X.held, .slice (some ⟨nb, 0, none⟩) (X.l.length - 1) (X.l.length - 1)] (dropS X k) ?_ ?_ ?_ ?_ ?_ ?_)).widens (fun q hq => ?_)
    · exact ((Below.turn hb3).mono (fun q h => False.elim h)).trans (tt.mono (fun q h => .inl h))
    · exact fun q hq => hq.imp (fun h => h) (fun h => ⟨h.1, by rw [hsz]; exact h.2⟩)
    · refine ⟨nb, ?_, ?_⟩
      · show _ = [Value.int .i64 X.held, .slice (some ⟨nb, 0, none⟩) (X.l.eraseIdx k).length (X.l.eraseIdx k).length]
        rw [hel]
      · show LOw 4 trailO _ _ (.slice (some ⟨nb, 0, none⟩) (X.l.eraseIdx k).length (X.l.eraseIdx k).length) (X.l.eraseIdx k)
        rw [hel]
        exact lf4
    · intro i u hu
      match i, hu with
      | 0, hu =>
        rw [World.cell?_setCell_other _ _ _ _ (fun e => by injection e with e1 e2; omega), hb3.cell (p := ⟨g0, 0 + j * 2 + 0, none⟩) hg0s]
        exact hin 0 u hu
      | 1, hu =>
        rw [show 0 + j * 2 + 1 = j * 2 + 1 by omega, World.cell?_setCell_same' _ _ _ (by rw [c2]; rfl)]
        exact hu
    · intro q hq
      rw [World.cell?_setCell_other _ _ _ _ (fun e => by injection e with e1 e2; omega), hb3.cell (p := ⟨g0, q, none⟩) hg0s]
    · exact (hwr.keep hb3).set _ _
    · rw [hsz] at hq ⊢
      rcases hq with hq | hq
      · exact ⟨hq.1, by have := hq.2; omega⟩
      · exact ⟨by have := hq.1; omega, hq.2⟩
  · exact (bthen B2 hb3).trans (tt.belowFrom (bthen B2 hb3).size (fun q e => by have e2 : q = g0 := e; have := hSb.1; omega))
end Go.Proofs.Ytnlacjedamngkaa
