/-
  Proved: at all arguments the program's DropTrail answers as the specification's, leaves what it is given alone, and its answer owns its memory; no condition.
-/
import Derived.Test.YtnlacjedamngkaaRows
import Derived.Test.YtnlacjedamngkaaOStripe
import Derived.Test.YtnlacjedamngkaaKStripe
import Derived.Test.YtnlacjedamngkaaDrpAll
import Derived.WalkKit
import Derived.ProofKit
import Derived.OpenShut
import Derived.ShutString
import Derived.ChangeOld
import Derived.Below
import Derived.Deep.CutRange
namespace Go.Proofs.Ytnlacjedamngkaa.fnExactDropTrail
open Go.ChangeShapes Go.WideShapes Go.ChangeAt Go.RowKit
set_option linter.unusedVariables false
set_option maxRecDepth 100000


theorem laidOut : laidOutB Try.prog = true := by kernel_rfl

set_option maxHeartbeats 4000000 in
theorem walk (v0 v1 : Value) (w : World) (h0 : AtStripeS w v0) (h1 : IsInt w v1) :
    Calls Try.prog 3 #[v0, v1] w fun e w' => e = .returned (.bool true) ∧ Below w.heap.size w w' := by
  obtain ⟨x0, hx0⟩ := h0
  obtain ⟨a0, k0, rfl⟩ := hx0.form
  have HR0 := hide hx0
  clear hx0
  obtain ⟨x1, rfl, hw1⟩ := h1
  have B0 : Below w.heap.size w w := Below.refl w.heap.size w
  go_enter Try.func3, Try.ntmps3
  go_wp2_with fail
  refine (mSzStripeS x0 All1 (.slice a0 x0.length k0) 1048576 _ (by omega) (by omega) ((unhide HR0).keep stripeR_keeps B0)).mono ?_
  rintro e wz0 ⟨⟨z0, rfl, hz0⟩, hb⟩
  have HZ0 := hide hz0
  clear hz0
  have BB1 := bthen B0 hb
  clear hb
  by_cases hneg0 : z0 < 0
  · go_wp2
    go_ret
    exact ⟨rfl, BB1⟩
  have hzz0 : 0 ≤ z0 ∧ z0 + bulkL stripeBulk x0 ≤ 1048576 := by rcases unhide HZ0 with h | h <;> omega
  clear HZ0
  have hbk0 : bulkL stripeBulk x0 ≤ 1048576 := by omega
  clear hzz0
  go_wp2_with fail
  refine (mToStripeS x0 All1 (.slice a0 x0.length k0) _ hbk0 ((unhide HR0).keep stripeR_keeps BB1)).mono ?_
  rintro e wr0 ⟨vr0, rfl, yy0, hbr0⟩
  obtain ⟨ar0, kr0, rfl⟩ := yy0.form
  have BB2 := bthen BB1 hbr0
  clear BB1
  clear hbr0
  go_wp2_with fail
  refine (specDropTrail x0 x1 _ (.slice ar0 x0.length kr0) _ (yy0.read stripeR_widens stripeO_read) hbk0).mono ?_
  rintro e ws ⟨vs, rfl, ys, hbs⟩
  have BB3 := bthen BB2 hbs
  clear BB2
  have sz1 := hbs.size
  have sw0 := BB3.size
  clear hbs yy0
  have hcn : cntL stripeCnt (dropL x0 x1) ≤ 16777216 := drop_marks _ _ hbk0
  generalize hRD : dropL x0 x1 = RD at *
  have HRD := hide hRD
  clear hRD
  obtain ⟨aS, kS, rfl⟩ := ys.form
  have hs := (ys.read stripeR_widens stripeO_read)
  clear ys
  go_wp2_with fail
  refine (mToStripeS x0 All1 (.slice a0 x0.length k0) _ hbk0 ((unhide HR0).keep stripeR_keeps BB3)).mono ?_
  rintro e wx0 ⟨vx0, rfl, yx0, hbx0⟩
  obtain ⟨ax0, kx0, rfl⟩ := yx0.form
  have BB4 := bthen BB3 hbx0
  clear BB3
  have hs := hs.keep stripeR_keeps hbx0
  have sx0 := hbx0.size
  clear hbx0
  go_wp2_with fail
  refine (implDropTrail x0 x1 _ (.slice ax0 x0.length kx0) _ (yx0.read stripeR_widens stripeO_read) hbk0).mono ?_
  rintro e wg ⟨vg, rfl, yg, hbg⟩
  rw [unhide HRD] at yg
  obtain ⟨ag, kg, rfl⟩ := yg.form
  have BB5 := bthen BB4 hbg
  clear BB4
  have hs := hs.keep stripeR_keeps hbg
  have yx0 := yx0.keep stripeO_keeps hbg
  have sz2 := hbg.size
  clear hbg
  go_wp2_with fail
  refine (mEqStripeS RD _ _ (.slice ag RD.length kg) (.slice aS RD.length kS) _ (yg.read stripeR_widens stripeO_read) hs).mono ?_
  rintro e we1 ⟨rfl, hbe1⟩
  have BB6 := bthen BB5 hbe1
  clear BB5
  have hs := hs.keep stripeR_keeps hbe1
  have yx0 := yx0.keep stripeO_keeps hbe1
  have yg := yg.keep stripeO_keeps hbe1
  have se1 := hbe1.size
  clear hbe1
  go_wp2_with fail
  refine (mToStripeS x0 All1 (.slice a0 x0.length k0) _ hbk0 ((unhide HR0).keep stripeR_keeps BB6)).mono ?_
  rintro e wt0 ⟨vt0, rfl, yt0, hbt0⟩
  obtain ⟨at0, kt0, rfl⟩ := yt0.form
  have BB7 := bthen BB6 hbt0
  clear BB6
  have hs := hs.keep stripeR_keeps hbt0
  have yx0 := yx0.keep stripeO_keeps hbt0
  have yg := yg.keep stripeO_keeps hbt0
  have st0 := hbt0.size
  clear hbt0
  go_wp2_with fail
  refine (mEqStripeS x0 _ _ (.slice ax0 x0.length kx0) (.slice at0 x0.length kt0) _ (yx0.read stripeR_widens stripeO_read) (yt0.read stripeR_widens stripeO_read)).mono ?_
  rintro e wu0 ⟨rfl, hbu0⟩
  have BB8 := bthen BB7 hbu0
  clear BB7
  have hs := hs.keep stripeR_keeps hbu0
  have yx0 := yx0.keep stripeO_keeps hbu0
  have yg := yg.keep stripeO_keeps hbu0
  have su0 := hbu0.size
  clear hbu0 yt0
  have hcx0 : cntL stripeCnt x0 ≤ 33554432 := by have := stripeS_cnt x0; omega
  go_wp2_with fail
  refine (mMarkStripeS x0 _ (.slice ax0 x0.length kx0) (1) _ (by omega) (by omega) yx0).mono ?_
  rintro e wm0 ⟨rfl, tm0, ym0⟩
  have hs := hs.turn stripeR_keeps tm0 (fun k hk e => by have h1 := hk.1; have h2 := hk.2; have h3 := e.1; have h4 := e.2; omega)
  have yg := yg.turn stripeO_keeps tm0 (fun k hk e => by have h1 := hk.1; have h2 := hk.2; have h3 := e.1; have h4 := e.2; omega)
  have BB9 := BB8.trans (tm0.belowFrom BB8.size (fun k hk => by have h1 := hk.1; omega))
  have sm0 := tm0.size
  clear tm0 ym0 yx0
  have hkk : ¬ 1 + (cntL stripeCnt x0 : Int) < 0 := by omega
  go_wp2_with fail
  refine (mEqStripeS RD _ _ (.slice ag RD.length kg) (.slice aS RD.length kS) _ (yg.read stripeR_widens stripeO_read) hs).mono ?_
  rintro e we2 ⟨rfl, hbe2⟩
  have BB10 := bthen BB9 hbe2
  clear BB9
  have hs := hs.keep stripeR_keeps hbe2
  have yg := yg.keep stripeO_keeps hbe2
  have se2 := hbe2.size
  clear hbe2
  go_wp2_with fail
  refine (mMarkStripeS RD _ (.slice ag RD.length kg) 1 _ (by omega) (by omega) yg).mono ?_
  rintro e wn ⟨rfl, tn, yn⟩
  have hs := hs.turn stripeR_keeps tn (fun k hk e => by have h1 := hk.1; have h2 := hk.2; have h3 := e.1; have h4 := e.2; omega)
  have BB11 := BB10.trans (tn.belowFrom BB10.size (fun k hk => by have h1 := hk.1; omega))
  have sn := tn.size
  clear tn yg
  have hmm : ¬ 1 + (cntL stripeCnt RD : Int) < 0 := by omega
  go_wp2_with fail
  refine (mHeldStripeS RD _ (.slice ag RD.length kg) 1 _ (by omega) (by omega) (yn.read stripeR_widens stripeO_read)).mono ?_
  rintro e wh3 ⟨rfl, hbh3⟩
  have BB12 := bthen BB11 hbh3
  clear BB11
  have hs := hs.keep stripeR_keeps hbh3
  have yn := yn.keep stripeO_keeps hbh3
  clear hbh3
  go_wp2_with fail
  refine (mToStripeS x0 All1 (.slice a0 x0.length k0) _ hbk0 ((unhide HR0).keep stripeR_keeps BB12)).mono ?_
  rintro e wv0 ⟨vv0, rfl, yv0, hbv0⟩
  obtain ⟨av0, kv0, rfl⟩ := yv0.form
  have BB13 := bthen BB12 hbv0
  clear BB12
  have hs := hs.keep stripeR_keeps hbv0
  have yn := yn.keep stripeO_keeps hbv0
  clear hbv0
  go_wp2_with fail
  refine (implDropTrail x0 x1 _ (.slice av0 x0.length kv0) _ (yv0.read stripeR_widens stripeO_read) hbk0).mono ?_
  rintro e wk ⟨vh, rfl, yh, hbk⟩
  rw [unhide HRD] at yh
  obtain ⟨ah, kh, rfl⟩ := yh.form
  have BB14 := bthen BB13 hbk
  clear BB13
  have hs := hs.keep stripeR_keeps hbk
  have yn := yn.keep stripeO_keeps hbk
  clear hbk yv0
  go_wp2_with fail
  refine (mEqStripeS RD _ _ (.slice ah RD.length kh) (.slice aS RD.length kS) _ (yh.read stripeR_widens stripeO_read) hs).mono ?_
  rintro e we4 ⟨rfl, hbe4⟩
  have BB15 := bthen BB14 hbe4
  clear BB14
  have hs := hs.keep stripeR_keeps hbe4
  have yn := yn.keep stripeO_keeps hbe4
  have yh := yh.keep stripeO_keeps hbe4
  have se4 := hbe4.size
  clear hbe4
  clear yh
  go_wp2_with fail
  refine (mHeldStripeS RD _ (.slice ag RD.length kg) 1 _ (by omega) (by omega) (yn.read stripeR_widens stripeO_read)).mono ?_
  rintro e wh5 ⟨rfl, hbh5⟩
  have BB16 := bthen BB15 hbh5
  clear BB15
  have hs := hs.keep stripeR_keeps hbh5
  have yn := yn.keep stripeO_keeps hbh5
  clear hbh5
  go_wp2
  go_ret
  exact ⟨rfl, BB16⟩

set_option maxRecDepth 100000 in
theorem lifted (os : Os) (started : os.Started) (H : Type) (enc : TypeId × Value → H) :
    ReturnsInHanded {} Try.checked os 3 .any (Rows.fnExactDropTrailSpec.pre6 enc Try.prog Try.f3 Rows.fnExactDropTrailRow.domain false) (Rows.fnExactDropTrailSpec.post enc Try.prog Try.f3 false true false false) := by
  refine returnsInHanded_of_change (C := Try.checked) own started (by kernel_rfl) Try.func3
    (ChangeSpec.witness6 (enc := enc) (C := Try.checked) false ⟨#[], #[.slice none 0 0, .int .i64 0], []⟩ 8 (by kernel_rfl) (by kernel_rfl) (by kernel_rfl) (by kernel_rfl)) ?_
  intro W base args ds gs before hval0 hW hcnd _
  have hval : ∀ (j : Nat) t v, Try.f3.params[j]? = some t → args[j]? = some v → Value.okWide Try.prog W .any base t v := hval0
  have hW' := hW
  obtain ⟨p, q, hA0, hV, rfl, hfz, hnd⟩ := hW
  have hA : DataW.TrodAll enc Try.prog W 0 (fun _ => true) true Try.f3.params.toList args.toList ds p := hA0
  rw [Try.params3] at hA hval
  obtain ⟨v0, vs0, d0, ds0, p0, q0, hargs0, rfl, rfl, k0, r0⟩ := trodAll_cons hA
  obtain ⟨v1, vs1, d1, ds1, p1, q1, rfl, rfl, rfl, k1, r1⟩ := trodAll_cons r0
  obtain ⟨rfl, rfl, rfl⟩ := trodAll_nil r1
  obtain rfl : args = #[v0, v1] := by cases args; simp_all
  obtain ⟨rfl, rfl⟩ := trodVars_none hV
  have lt0 : ∀ x ∈ p0, x.block < W.heap.size := by obtain ⟨m, hm⟩ := k0; exact DataW.trod_lt m _ _ _ hm
  have h0 : AtStripeS W v0 := openAtStripeS (hval 0 _ v0 rfl rfl) k0
  have lt1 : ∀ x ∈ p1, x.block < W.heap.size := by obtain ⟨m, hm⟩ := k1; exact DataW.trod_lt m _ _ _ hm
  have h1 : IsInt W v1 := openIsInt (hval 1 _ v1 rfl rfl) k1
  clear hA0 hval0
  refine (walk v0 v1 W h0 h1).mono fun e W' ⟨he, bel⟩ => ?_
  subst he
  exact ⟨_, rfl, _, _, _, [], _, [], hW', trodAll_mk1 (shut_bool Try.underlying4 _), (trodAll_cons_mk (Below.trod laidOut (by kernel_rfl) (of_decide_eq_true (by kernel_rfl)) k0 bel lt0) (trodAll_cons_mk (Below.trod laidOut (by kernel_rfl) (of_decide_eq_true (by kernel_rfl)) k1 bel lt1) trodAll_mk0)), rfl, bel.frame _, fun h => by cases h⟩

theorem over : Rows.fnExactDropTrailRow.holds Try.pinned (OpenSpec.ofChange Rows.fnExactDropTrailSpec) :=
  OpenClaim.holds_of_wide 3 Try.f3 rfl rfl rfl rfl rfl rfl rfl ⟨rfl, rfl, rfl, rfl, rfl⟩ rfl rfl rfl rfl rfl (by kernel_rfl) Try.func3 (by kernel_rfl)
    (of_decide_eq_true (by kernel_rfl)) (by unfold Func.isWrapper; first | (rw [if_pos (by decide +kernel)]; kernel_rfl) | (rw [if_neg (by decide +kernel)]; exact ⟨rfl, rfl⟩))
    (fun os started H enc _ => lifted os started H enc)

/-- The statement. -/
theorem proved : Rows.FnExactDropTrailSaid := over
#print axioms proved
end Go.Proofs.Ytnlacjedamngkaa.fnExactDropTrail
