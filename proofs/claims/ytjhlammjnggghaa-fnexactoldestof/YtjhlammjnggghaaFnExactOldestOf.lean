/-
  Proved: at all arguments the program's OldestOf answers as the specification's, leaves what it is given alone, and its answer owns its memory; no condition.
-/
import Derived.Test.YtjhlammjnggghaaRows
import Derived.Test.YtjhlammjnggghaaOldAll
import Derived.Test.YtjhlammjnggghaaOStripe
import Derived.Test.YtjhlammjnggghaaAbs2
import Derived.WalkKit
import Derived.ProofKit
import Derived.OpenShut
import Derived.ShutString
import Derived.ChangeOld
import Derived.Below
import Derived.Deep.CutRange
namespace Go.Proofs.Ytjhlammjnggghaa.fnExactOldestOf
open Go.ChangeShapes Go.WideShapes Go.ChangeAt Go.RowKit
set_option linter.unusedVariables false
set_option maxRecDepth 100000


theorem laidOut : laidOutB Try.prog = true := by kernel_rfl

set_option maxHeartbeats 4000000 in
theorem walk (v0 : Value) (w : World) (h0 : AtStripeS w v0) :
    Calls Try.prog 4 #[v0] w fun e w' => e = .returned (.bool true) ∧ Below w.heap.size w w' := by
  obtain ⟨x0, hx0⟩ := h0
  obtain ⟨a0, k0, rfl⟩ := hx0.form
  have HR0 := hide hx0
  clear hx0
  have B0 : Below w.heap.size w w := Below.refl w.heap.size w
  go_enter Try.func4, Try.ntmps4
  go_wp2_with fail
  refine (mSzStripeS x0 All1 (.slice a0 x0.length k0) 1048576 _ (by omega) (by omega) ((unhide HR0).keep stripeR_keeps B0)).mono ?_
  rintro e wz0 ⟨⟨z0, rfl, hz0⟩, hb⟩
  have HZ0 := hide hz0
  clear hz0
  have BB1 := bthen B0 hb
  clear hb
  by_cases hneg0 : z0 < 0
  · go_wp2
    go_ret
    exact ⟨rfl, BB1⟩
  have hzz0 : 0 ≤ z0 ∧ z0 + bulkL stripeBulk x0 ≤ 1048576 := by rcases unhide HZ0 with h | h <;> omega
  clear HZ0
  have hbk0 : bulkL stripeBulk x0 ≤ 1048576 := by omega
  clear hzz0
  go_wp2_with fail
  refine (mToStripeS x0 All1 (.slice a0 x0.length k0) _ hbk0 ((unhide HR0).keep stripeR_keeps BB1)).mono ?_
  rintro e wr0 ⟨vr0, rfl, yy0, hbr0⟩
  obtain ⟨ar0, kr0, rfl⟩ := yy0.form
  have BB2 := bthen BB1 hbr0
  clear BB1
  clear hbr0
  go_wp2_with fail
  refine (specOldestOf x0 _ (.slice ar0 x0.length kr0) _ (yy0.read stripeR_widens stripeO_read) hbk0).mono ?_
  rintro e ws ⟨cS, rfl, ys, hbs⟩
  have BB3 := bthen BB2 hbs
  clear BB2
  have sz1 := hbs.size
  have sw0 := BB3.size
  clear hbs yy0
  have hcn : cntL spanCnt (oldT x0).spans ≤ 16777216 := old_cnt x0 hbk0
  generalize hRD : oldT x0 = RD at *
  have HRD := hide hRD
  clear hRD
  generalize hPV0 : oldB x0 = PV0 at *
  have HPV0 := hide hPV0
  clear hPV0
  have hs := trailO_read _ _ _ _ ys
  clear ys
  have lnBW := hide (trailR_len hs)
  have onBW := trailR_one hs
  have rBW : RowT Try.prog 44 cS.length := by rw [unhide lnBW]; exact rowITrail
  have hbnBW := bnew ws (.cells cS.toArray 44)
  have BW := Held.new ws cS 44
  have BB4 := bthen BB3 hbnBW
  clear BB3
  have hs := trailR_keeps _ _ _ None1 _ _ (Below.turn hbnBW) none_off hs
  have sbBW := hbnBW.size
  have scBW : ws.heap.size < (ws.alloc (.cells cS.toArray 44)).heap.size := by simp
  clear hbnBW
  go_upto_region 6 with (first | (refine wpl_store_new rfl _ _ _ rfl _ cS rfl rfl ?_ onBW rBW ?_; (rw [unhide lnBW]; rfl)))
  generalize hWBW : World.alloc ws _ = nBW at *
  clear hWBW onBW
  go_wp2_with (first | (refine wpl_load rfl 44 _ rfl _ 0 rfl cS BW.inB rBW ?_) | (refine wpl_loadG (by rfl) 44 _ rfl _ 0 rfl cS BW.inB rBW ?_))
  refine (mToStripeS x0 All1 (.slice a0 x0.length k0) _ hbk0 ((unhide HR0).keep stripeR_keeps BB4)).mono ?_
  rintro e wx0 ⟨vx0, rfl, yx0, hbx0⟩
  obtain ⟨ax0, kx0, rfl⟩ := yx0.form
  have BB5 := bthen BB4 hbx0
  clear BB4
  have hs := trailR_keeps _ _ _ None1 _ _ (Below.turn hbx0) none_off hs
  have BW := BW.keep hbx0
  have sx0 := hbx0.size
  clear hbx0
  go_wp2_with (first | (refine wpl_load rfl 44 _ rfl _ 0 rfl cS BW.inB rBW ?_) | (refine wpl_loadG (by rfl) 44 _ rfl _ 0 rfl cS BW.inB rBW ?_))
  refine (implOldestOf x0 _ (.slice ax0 x0.length kx0) _ (yx0.read stripeR_widens stripeO_read) hbk0).mono ?_
  rintro e wg ⟨cG, hEG, yg, hbg⟩
  rw [unhide HRD] at yg
  rw [unhide HPV0] at hEG
  subst hEG
  have BB6 := bthen BB5 hbg
  clear BB5
  have hs := trailR_keeps _ _ _ None1 _ _ (Below.turn hbg) none_off hs
  have yx0 := yx0.keep stripeO_keeps hbg
  have BW := BW.keep hbg
  have sz2 := hbg.size
  clear hbg
  have lnBG := hide (trailR_len (trailO_read _ _ _ _ yg))
  have onBG := trailR_one (trailO_read _ _ _ _ yg)
  have rBG : RowT Try.prog 44 cG.length := by rw [unhide lnBG]; exact rowITrail
  have hbnBG := bnew wg (.cells cG.toArray 44)
  have BG := Held.new wg cG 44
  have BB7 := bthen BB6 hbnBG
  clear BB6
  have hs := trailR_keeps _ _ _ None1 _ _ (Below.turn hbnBG) none_off hs
  have yx0 := yx0.keep stripeO_keeps hbnBG
  have yg := trailO_keeps _ _ _ None1 _ _ (Below.turn hbnBG) none_off yg
  have BW := BW.keep hbnBG
  have sbBG := hbnBG.size
  have scBG : wg.heap.size < (wg.alloc (.cells cG.toArray 44)).heap.size := by simp
  clear hbnBG
  go_upto_region 8 with (first | (refine wpl_store_new rfl _ _ _ rfl _ cG rfl rfl ?_ onBG rBG ?_; (rw [unhide lnBG]; rfl)))
  generalize hWBG : World.alloc wg _ = nBG at *
  clear hWBG onBG
  go_wp2_with (first | (refine wpl_load rfl 44 _ rfl _ 0 rfl cS BW.inB rBW ?_) | (refine wpl_loadG (by rfl) 44 _ rfl _ 0 rfl cS BW.inB rBW ?_) | (refine wpl_load rfl 44 _ rfl _ 0 rfl cG BG.inB rBG ?_) | (refine wpl_loadG (by rfl) 44 _ rfl _ 0 rfl cG BG.inB rBG ?_))
  refine (mEqTrail RD _ _ cG cS _ (trailO_read _ _ _ _ yg) hs).mono ?_
  rintro e we1 ⟨rfl, hbe1⟩
  have BB8 := bthen BB7 hbe1
  clear BB7
  have hs := trailR_keeps _ _ _ None1 _ _ (Below.turn hbe1) none_off hs
  have yx0 := yx0.keep stripeO_keeps hbe1
  have yg := trailO_keeps _ _ _ None1 _ _ (Below.turn hbe1) none_off yg
  have BW := BW.keep hbe1
  have BG := BG.keep hbe1
  have se1 := hbe1.size
  clear hbe1
  go_wp2_with (first | (refine wpl_load rfl 44 _ rfl _ 0 rfl cS BW.inB rBW ?_) | (refine wpl_loadG (by rfl) 44 _ rfl _ 0 rfl cS BW.inB rBW ?_) | (refine wpl_load rfl 44 _ rfl _ 0 rfl cG BG.inB rBG ?_) | (refine wpl_loadG (by rfl) 44 _ rfl _ 0 rfl cG BG.inB rBG ?_))
  refine (mToStripeS x0 All1 (.slice a0 x0.length k0) _ hbk0 ((unhide HR0).keep stripeR_keeps BB8)).mono ?_
  rintro e wt0 ⟨vt0, rfl, yt0, hbt0⟩
  obtain ⟨at0, kt0, rfl⟩ := yt0.form
  have BB9 := bthen BB8 hbt0
  clear BB8
  have hs := trailR_keeps _ _ _ None1 _ _ (Below.turn hbt0) none_off hs
  have yx0 := yx0.keep stripeO_keeps hbt0
  have yg := trailO_keeps _ _ _ None1 _ _ (Below.turn hbt0) none_off yg
  have BW := BW.keep hbt0
  have BG := BG.keep hbt0
  have st0 := hbt0.size
  clear hbt0
  go_wp2_with (first | (refine wpl_load rfl 44 _ rfl _ 0 rfl cS BW.inB rBW ?_) | (refine wpl_loadG (by rfl) 44 _ rfl _ 0 rfl cS BW.inB rBW ?_) | (refine wpl_load rfl 44 _ rfl _ 0 rfl cG BG.inB rBG ?_) | (refine wpl_loadG (by rfl) 44 _ rfl _ 0 rfl cG BG.inB rBG ?_))
  refine (mEqStripeS x0 _ _ (.slice ax0 x0.length kx0) (.slice at0 x0.length kt0) _ (yx0.read stripeR_widens stripeO_read) (yt0.read stripeR_widens stripeO_read)).mono ?_
  rintro e wu0 ⟨rfl, hbu0⟩
  have BB10 := bthen BB9 hbu0
  clear BB9
  have hs := trailR_keeps _ _ _ None1 _ _ (Below.turn hbu0) none_off hs
  have yx0 := yx0.keep stripeO_keeps hbu0
  have yg := trailO_keeps _ _ _ None1 _ _ (Below.turn hbu0) none_off yg
  have BW := BW.keep hbu0
  have BG := BG.keep hbu0
  have su0 := hbu0.size
  clear hbu0 yt0
  have hcx0 : cntL stripeCnt x0 ≤ 8388608 := by have := stripeS_cnt x0; omega
  go_wp2_with (first | (refine wpl_load rfl 44 _ rfl _ 0 rfl cS BW.inB rBW ?_) | (refine wpl_loadG (by rfl) 44 _ rfl _ 0 rfl cS BW.inB rBW ?_) | (refine wpl_load rfl 44 _ rfl _ 0 rfl cG BG.inB rBG ?_) | (refine wpl_loadG (by rfl) 44 _ rfl _ 0 rfl cG BG.inB rBG ?_))
  refine (mMarkStripeS x0 _ (.slice ax0 x0.length kx0) (1) _ (by omega) (by omega) yx0).mono ?_
  rintro e wm0 ⟨rfl, tm0, ym0⟩
  have hs := trailR_keeps _ _ _ _ _ _ tm0 (fun k hk e => by have h1 := hk.1; have h2 := hk.2; have h3 := e.1; have h4 := e.2; omega) hs
  have yg := trailO_keeps _ _ _ _ _ _ tm0 (fun k hk e => by have h1 := hk.1; have h2 := hk.2; have h3 := e.1; have h4 := e.2; omega) yg
  have BW := BW.turn tm0 (fun e => by have h3 := e.1; have h4 := e.2; omega)
  have BG := BG.turn tm0 (fun e => by have h3 := e.1; have h4 := e.2; omega)
  have BB11 := BB10.trans (tm0.belowFrom BB10.size (fun k hk => by have h1 := hk.1; omega))
  have sm0 := tm0.size
  clear tm0 ym0 yx0
  have hkk : ¬ 1 + (cntL stripeCnt x0 : Int) < 0 := by omega
  go_wp2_with (first | (refine wpl_load rfl 44 _ rfl _ 0 rfl cS BW.inB rBW ?_) | (refine wpl_loadG (by rfl) 44 _ rfl _ 0 rfl cS BW.inB rBW ?_) | (refine wpl_load rfl 44 _ rfl _ 0 rfl cG BG.inB rBG ?_) | (refine wpl_loadG (by rfl) 44 _ rfl _ 0 rfl cG BG.inB rBG ?_))
  refine (mEqTrail RD _ _ cG cS _ (trailO_read _ _ _ _ yg) hs).mono ?_
  rintro e we2 ⟨rfl, hbe2⟩
  have BB12 := bthen BB11 hbe2
  clear BB11
  have hs := trailR_keeps _ _ _ None1 _ _ (Below.turn hbe2) none_off hs
  have yg := trailO_keeps _ _ _ None1 _ _ (Below.turn hbe2) none_off yg
  have BW := BW.keep hbe2
  have BG := BG.keep hbe2
  have se2 := hbe2.size
  clear hbe2
  go_wp2_with (first | (refine wpl_load rfl 44 _ rfl _ 0 rfl cS BW.inB rBW ?_) | (refine wpl_loadG (by rfl) 44 _ rfl _ 0 rfl cS BW.inB rBW ?_) | (refine wpl_load rfl 44 _ rfl _ 0 rfl cG BG.inB rBG ?_) | (refine wpl_loadG (by rfl) 44 _ rfl _ 0 rfl cG BG.inB rBG ?_))
  refine (mMarkTrail RD _ cG 1 _ (by omega) (by omega) yg).mono ?_
  rintro e wn ⟨rfl, tn, yn⟩
  have hs := trailR_keeps _ _ _ _ _ _ tn (fun k hk e => by have h1 := hk.1; have h2 := hk.2; have h3 := e.1; have h4 := e.2; omega) hs
  have BW := BW.turn tn (fun e => by have h3 := e.1; have h4 := e.2; omega)
  have BG := BG.turn tn (fun e => by have h3 := e.1; have h4 := e.2; omega)
  have BB13 := BB12.trans (tn.belowFrom BB12.size (fun k hk => by have h1 := hk.1; omega))
  have sn := tn.size
  clear tn yg
  have hmm : ¬ 1 + (cntL spanCnt RD.spans : Int) < 0 := by omega
  go_wp2_with (first | (refine wpl_load rfl 44 _ rfl _ 0 rfl cS BW.inB rBW ?_) | (refine wpl_loadG (by rfl) 44 _ rfl _ 0 rfl cS BW.inB rBW ?_) | (refine wpl_load rfl 44 _ rfl _ 0 rfl cG BG.inB rBG ?_) | (refine wpl_loadG (by rfl) 44 _ rfl _ 0 rfl cG BG.inB rBG ?_))
  refine (mHeldTrail RD _ cG 1 _ (by omega) (by omega) (trailO_read _ _ _ _ yn)).mono ?_
  rintro e wh3 ⟨rfl, hbh3⟩
  have BB14 := bthen BB13 hbh3
  clear BB13
  have hs := trailR_keeps _ _ _ None1 _ _ (Below.turn hbh3) none_off hs
  have yn := trailO_keeps _ _ _ None1 _ _ (Below.turn hbh3) none_off yn
  have BW := BW.keep hbh3
  have BG := BG.keep hbh3
  clear hbh3
  go_wp2_with (first | (refine wpl_load rfl 44 _ rfl _ 0 rfl cS BW.inB rBW ?_) | (refine wpl_loadG (by rfl) 44 _ rfl _ 0 rfl cS BW.inB rBW ?_) | (refine wpl_load rfl 44 _ rfl _ 0 rfl cG BG.inB rBG ?_) | (refine wpl_loadG (by rfl) 44 _ rfl _ 0 rfl cG BG.inB rBG ?_))
  refine (mToStripeS x0 All1 (.slice a0 x0.length k0) _ hbk0 ((unhide HR0).keep stripeR_keeps BB14)).mono ?_
  rintro e wv0 ⟨vv0, rfl, yv0, hbv0⟩
  obtain ⟨av0, kv0, rfl⟩ := yv0.form
  have BB15 := bthen BB14 hbv0
  clear BB14
  have hs := trailR_keeps _ _ _ None1 _ _ (Below.turn hbv0) none_off hs
  have yn := trailO_keeps _ _ _ None1 _ _ (Below.turn hbv0) none_off yn
  have BW := BW.keep hbv0
  have BG := BG.keep hbv0
  clear hbv0
  go_wp2_with (first | (refine wpl_load rfl 44 _ rfl _ 0 rfl cS BW.inB rBW ?_) | (refine wpl_loadG (by rfl) 44 _ rfl _ 0 rfl cS BW.inB rBW ?_) | (refine wpl_load rfl 44 _ rfl _ 0 rfl cG BG.inB rBG ?_) | (refine wpl_loadG (by rfl) 44 _ rfl _ 0 rfl cG BG.inB rBG ?_))
  refine (implOldestOf x0 _ (.slice av0 x0.length kv0) _ (yv0.read stripeR_widens stripeO_read) hbk0).mono ?_
  rintro e wk ⟨cH, hEH, yh, hbk⟩
  rw [unhide HRD] at yh
  rw [unhide HPV0] at hEH
  subst hEH
  have BB16 := bthen BB15 hbk
  clear BB15
  have hs := trailR_keeps _ _ _ None1 _ _ (Below.turn hbk) none_off hs
  have yn := trailO_keeps _ _ _ None1 _ _ (Below.turn hbk) none_off yn
  have BW := BW.keep hbk
  have BG := BG.keep hbk
  clear hbk yv0
  have lnBH := hide (trailR_len (trailO_read _ _ _ _ yh))
  have onBH := trailR_one (trailO_read _ _ _ _ yh)
  have rBH : RowT Try.prog 44 cH.length := by rw [unhide lnBH]; exact rowITrail
  have hbnBH := bnew wk (.cells cH.toArray 44)
  have BH := Held.new wk cH 44
  have BB17 := bthen BB16 hbnBH
  clear BB16
  have hs := trailR_keeps _ _ _ None1 _ _ (Below.turn hbnBH) none_off hs
  have yn := trailO_keeps _ _ _ None1 _ _ (Below.turn hbnBH) none_off yn
  have yh := trailO_keeps _ _ _ None1 _ _ (Below.turn hbnBH) none_off yh
  have BW := BW.keep hbnBH
  have BG := BG.keep hbnBH
  have sbBH := hbnBH.size
  have scBH : wk.heap.size < (wk.alloc (.cells cH.toArray 44)).heap.size := by simp
  clear hbnBH
  go_upto_region 25 with (first | (refine wpl_store_new rfl _ _ _ rfl _ cH rfl rfl ?_ onBH rBH ?_; (rw [unhide lnBH]; rfl)))
  generalize hWBH : World.alloc wk _ = nBH at *
  clear hWBH onBH
  go_wp2_with (first | (refine wpl_load rfl 44 _ rfl _ 0 rfl cS BW.inB rBW ?_) | (refine wpl_loadG (by rfl) 44 _ rfl _ 0 rfl cS BW.inB rBW ?_) | (refine wpl_load rfl 44 _ rfl _ 0 rfl cG BG.inB rBG ?_) | (refine wpl_loadG (by rfl) 44 _ rfl _ 0 rfl cG BG.inB rBG ?_) | (refine wpl_load rfl 44 _ rfl _ 0 rfl cH BH.inB rBH ?_) | (refine wpl_loadG (by rfl) 44 _ rfl _ 0 rfl cH BH.inB rBH ?_))
  refine (mEqTrail RD _ _ cH cS _ (trailO_read _ _ _ _ yh) hs).mono ?_
  rintro e we4 ⟨rfl, hbe4⟩
  have BB18 := bthen BB17 hbe4
  clear BB17
  have hs := trailR_keeps _ _ _ None1 _ _ (Below.turn hbe4) none_off hs
  have yn := trailO_keeps _ _ _ None1 _ _ (Below.turn hbe4) none_off yn
  have yh := trailO_keeps _ _ _ None1 _ _ (Below.turn hbe4) none_off yh
  have BW := BW.keep hbe4
  have BG := BG.keep hbe4
  have BH := BH.keep hbe4
  have se4 := hbe4.size
  clear hbe4
  clear yh
  go_wp2_with (first | (refine wpl_load rfl 44 _ rfl _ 0 rfl cS BW.inB rBW ?_) | (refine wpl_loadG (by rfl) 44 _ rfl _ 0 rfl cS BW.inB rBW ?_) | (refine wpl_load rfl 44 _ rfl _ 0 rfl cG BG.inB rBG ?_) | (refine wpl_loadG (by rfl) 44 _ rfl _ 0 rfl cG BG.inB rBG ?_) | (refine wpl_load rfl 44 _ rfl _ 0 rfl cH BH.inB rBH ?_) | (refine wpl_loadG (by rfl) 44 _ rfl _ 0 rfl cH BH.inB rBH ?_))
  refine (mHeldTrail RD _ cG 1 _ (by omega) (by omega) (trailO_read _ _ _ _ yn)).mono ?_
  rintro e wh5 ⟨rfl, hbh5⟩
  have BB19 := bthen BB18 hbh5
  clear BB18
  have hs := trailR_keeps _ _ _ None1 _ _ (Below.turn hbh5) none_off hs
  have yn := trailO_keeps _ _ _ None1 _ _ (Below.turn hbh5) none_off yn
  have BW := BW.keep hbh5
  have BG := BG.keep hbh5
  have BH := BH.keep hbh5
  clear hbh5
  go_wp2
  go_ret
  exact ⟨rfl, BB19⟩

set_option maxRecDepth 100000 in
theorem lifted (os : Os) (started : os.Started) (H : Type) (enc : TypeId × Value → H) :
    ReturnsInHanded {} Try.checked os 4 .any (Rows.fnExactOldestOfSpec.pre6 enc Try.prog Try.f4 Rows.fnExactOldestOfRow.domain false) (Rows.fnExactOldestOfSpec.post enc Try.prog Try.f4 false true false false) := by
  refine returnsInHanded_of_change (C := Try.checked) own started (by kernel_rfl) Try.func4
    (ChangeSpec.witness6 (enc := enc) (C := Try.checked) false ⟨#[], #[.slice none 0 0], []⟩ 8 (by kernel_rfl) (by kernel_rfl) (by kernel_rfl) (by kernel_rfl)) ?_
  intro W base args ds gs before hval0 hW hcnd _
  have hval : ∀ (j : Nat) t v, Try.f4.params[j]? = some t → args[j]? = some v → Value.okWide Try.prog W .any base t v := hval0
  have hW' := hW
  obtain ⟨p, q, hA0, hV, rfl, hfz, hnd⟩ := hW
  have hA : DataW.TrodAll enc Try.prog W 0 (fun _ => true) true Try.f4.params.toList args.toList ds p := hA0
  rw [Try.params4] at hA hval
  obtain ⟨v0, vs0, d0, ds0, p0, q0, hargs0, rfl, rfl, k0, r0⟩ := trodAll_cons hA
  obtain ⟨rfl, rfl, rfl⟩ := trodAll_nil r0
  obtain rfl : args = #[v0] := by cases args; simp_all
  obtain ⟨rfl, rfl⟩ := trodVars_none hV
  have lt0 : ∀ x ∈ p0, x.block < W.heap.size := by obtain ⟨m, hm⟩ := k0; exact DataW.trod_lt m _ _ _ hm
  have h0 : AtStripeS W v0 := openAtStripeS (hval 0 _ v0 rfl rfl) k0
  clear hA0 hval0
  refine (walk v0 W h0).mono fun e W' ⟨he, bel⟩ => ?_
  subst he
  exact ⟨_, rfl, _, _, _, [], _, [], hW', trodAll_mk1 (shut_bool Try.underlying4 _), (trodAll_cons_mk (Below.trod laidOut (by kernel_rfl) (of_decide_eq_true (by kernel_rfl)) k0 bel lt0) trodAll_mk0), rfl, bel.frame _, fun h => by cases h⟩

theorem over : Rows.fnExactOldestOfRow.holds Try.pinned (OpenSpec.ofChange Rows.fnExactOldestOfSpec) :=
  OpenClaim.holds_of_wide 4 Try.f4 rfl rfl rfl rfl rfl rfl rfl ⟨rfl, rfl, rfl, rfl, rfl⟩ rfl rfl rfl rfl rfl (by kernel_rfl) Try.func4 (by kernel_rfl)
    (of_decide_eq_true (by kernel_rfl)) (by unfold Func.isWrapper; first | (rw [if_pos (by decide +kernel)]; kernel_rfl) | (rw [if_neg (by decide +kernel)]; exact ⟨rfl, rfl⟩))
    (fun os started H enc _ => lifted os started H enc)

/-- The statement. -/
theorem proved : Rows.FnExactOldestOfSaid := over
#print axioms proved
end Go.Proofs.Ytjhlammjnggghaa.fnExactOldestOf
