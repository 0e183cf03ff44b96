/-
  Proved: at all arguments the program's Forgets answers as the specification's, leaves what it is given alone, and its answer owns its memory; no condition.
-/
import Derived.Test.YtombdjcgopfieabRows
import Derived.Test.YtombdjcgopfieabOVerdW
import Derived.WalkKit
import Derived.ProofKit
import Derived.OpenShut
import Derived.ShutString
import Derived.ChangeOld
import Derived.Below
import Derived.Deep.CutRange
namespace Go.Proofs.Ytombdjcgopfieab.fnExactForgets
open Go.ChangeShapes Go.WideShapes Go.ChangeAt Go.RowKit
set_option linter.unusedVariables false
set_option maxRecDepth 100000


theorem laidOut : laidOutB Try.prog = true := by kernel_rfl

set_option maxHeartbeats 4000000 in
theorem walk (v0 v1 : Value) (w : World) (h0 : AtVerdSW w v0) (h1 : AtVerdSW w v1) :
    Calls Try.prog 3 #[v0, v1] w fun e w' => e = .returned (.bool true) ∧ Below w.heap.size w w' := by
  obtain ⟨x0, hx0, hwf0⟩ := h0
  have HWF0 := hide hwf0
  clear hwf0
  obtain ⟨a0, k0, rfl⟩ := hx0.form
  have HR0 := hide hx0
  clear hx0
  obtain ⟨x1, hx1, hwf1⟩ := h1
  have HWF1 := hide hwf1
  clear hwf1
  obtain ⟨a1, k1, rfl⟩ := hx1.form
  have HR1 := hide hx1
  clear hx1
  have B0 : Below w.heap.size w w := Below.refl w.heap.size w
  go_enter Try.func3, Try.ntmps3
  go_wp2_with fail
  refine (mSzVerdictS x0 All1 (.slice a0 x0.length k0) 1048576 _ (by omega) (by omega) ((unhide HR0).keep verdictR_keeps B0)).mono ?_
  rintro e wz0 ⟨⟨z0, rfl, hz0⟩, hb⟩
  have HZ0 := hide hz0
  clear hz0
  have BB1 := bthen B0 hb
  clear hb
  by_cases hneg0 : z0 < 0
  · go_wp2
    go_ret
    exact ⟨rfl, BB1⟩
  have hzz0 : 0 ≤ z0 ∧ z0 + bulkL verdictBulk x0 ≤ 1048576 := by rcases unhide HZ0 with h | h <;> omega
  clear HZ0
  go_wp2_with fail
  refine (mSzVerdictS x1 All1 (.slice a1 x1.length k1) z0 _ (by omega) (by omega) ((unhide HR1).keep verdictR_keeps BB1)).mono ?_
  rintro e wz1 ⟨⟨z1, rfl, hz1⟩, hb⟩
  have HZ1 := hide hz1
  clear hz1
  have BB2 := bthen BB1 hb
  clear BB1
  clear hb
  by_cases hneg1 : z1 < 0
  · go_wp2
    go_ret
    exact ⟨rfl, BB2⟩
  have hzz1 : 0 ≤ z1 ∧ z1 + bulkL verdictBulk x1 ≤ z0 := by rcases unhide HZ1 with h | h <;> omega
  clear HZ1
  have hbk0 : bulkL verdictBulk x0 ≤ 1048576 := by omega
  have hbk1 : bulkL verdictBulk x1 ≤ 1048576 := by omega
  clear hzz0 hzz1
  go_wp2_with fail
  refine (mToVerdictS x0 All1 (.slice a0 x0.length k0) _ hbk0 ((unhide HR0).keep verdictR_keeps BB2)).mono ?_
  rintro e wr0 ⟨vr0, rfl, yy0, hbr0⟩
  obtain ⟨ar0, kr0, rfl⟩ := yy0.form
  have BB3 := bthen BB2 hbr0
  clear BB2
  clear hbr0
  go_wp2_with fail
  refine (mToVerdictS x1 All1 (.slice a1 x1.length k1) _ hbk1 ((unhide HR1).keep verdictR_keeps BB3)).mono ?_
  rintro e wr1 ⟨vr1, rfl, yy1, hbr1⟩
  obtain ⟨ar1, kr1, rfl⟩ := yy1.form
  have BB4 := bthen BB3 hbr1
  clear BB3
  have yy0 := yy0.keep verdictO_keeps hbr1
  clear hbr1
  go_wp2_with fail
  refine (specForgets x0 x1 _ (.slice ar0 x0.length kr0) _ (.slice ar1 x1.length kr1) _ (yy0.read verdictR_widens verdictO_read) hbk0 (yy1.read verdictR_widens verdictO_read) hbk1).mono ?_
  rintro e ws ⟨vs, rfl, ys, hbs⟩
  have BB5 := bthen BB4 hbs
  clear BB4
  have sz1 := hbs.size
  have sw0 := BB5.size
  clear hbs yy0 yy1
  have hcn : (gone x0 x1).length ≤ 16777216 := gone_cnt x0 x1 hbk0
  generalize hRD : gone x0 x1 = RD at *
  have HRD := hide hRD
  clear hRD
  obtain ⟨aS, kS, rfl⟩ := ys.form
  have hs := (ys.read intR_widens intO_read)
  clear ys
  go_wp2_with fail
  refine (mToVerdictS x0 All1 (.slice a0 x0.length k0) _ hbk0 ((unhide HR0).keep verdictR_keeps BB5)).mono ?_
  rintro e wx0 ⟨vx0, rfl, yx0, hbx0⟩
  obtain ⟨ax0, kx0, rfl⟩ := yx0.form
  have BB6 := bthen BB5 hbx0
  clear BB5
  have hs := hs.keep intR_keeps hbx0
  have sx0 := hbx0.size
  clear hbx0
  go_wp2_with fail
  refine (mToVerdictS x1 All1 (.slice a1 x1.length k1) _ hbk1 ((unhide HR1).keep verdictR_keeps BB6)).mono ?_
  rintro e wx1 ⟨vx1, rfl, yx1, hbx1⟩
  obtain ⟨ax1, kx1, rfl⟩ := yx1.form
  have BB7 := bthen BB6 hbx1
  clear BB6
  have hs := hs.keep intR_keeps hbx1
  have yx0 := yx0.keep verdictO_keeps hbx1
  have sx1 := hbx1.size
  clear hbx1
  go_wp2_with fail
  refine (implForgets x0 x1 _ (.slice ax0 x0.length kx0) _ (.slice ax1 x1.length kx1) _ (yx0.read verdictR_widens verdictO_read) hbk0 (yx1.read verdictR_widens verdictO_read) hbk1 (unhide HWF0) (unhide HWF1)).mono ?_
  rintro e wg ⟨vg, rfl, yg, hbg⟩
  rw [unhide HRD] at yg
  obtain ⟨ag, kg, rfl⟩ := yg.form
  have BB8 := bthen BB7 hbg
  clear BB7
  have hs := hs.keep intR_keeps hbg
  have yx0 := yx0.keep verdictO_keeps hbg
  have yx1 := yx1.keep verdictO_keeps hbg
  have sz2 := hbg.size
  clear hbg
  go_wp2_with fail
  refine (mEqIntS RD _ _ (.slice ag RD.length kg) (.slice aS RD.length kS) _ (yg.read intR_widens intO_read) hs).mono ?_
  rintro e we1 ⟨rfl, hbe1⟩
  have BB9 := bthen BB8 hbe1
  clear BB8
  have hs := hs.keep intR_keeps hbe1
  have yx0 := yx0.keep verdictO_keeps hbe1
  have yx1 := yx1.keep verdictO_keeps hbe1
  have yg := yg.keep intO_keeps hbe1
  have se1 := hbe1.size
  clear hbe1
  go_wp2_with fail
  refine (mToVerdictS x0 All1 (.slice a0 x0.length k0) _ hbk0 ((unhide HR0).keep verdictR_keeps BB9)).mono ?_
  rintro e wt0 ⟨vt0, rfl, yt0, hbt0⟩
  obtain ⟨at0, kt0, rfl⟩ := yt0.form
  have BB10 := bthen BB9 hbt0
  clear BB9
  have hs := hs.keep intR_keeps hbt0
  have yx0 := yx0.keep verdictO_keeps hbt0
  have yx1 := yx1.keep verdictO_keeps hbt0
  have yg := yg.keep intO_keeps hbt0
  have st0 := hbt0.size
  clear hbt0
  go_wp2_with fail
  refine (mEqVerdictS x0 _ _ (.slice ax0 x0.length kx0) (.slice at0 x0.length kt0) _ (yx0.read verdictR_widens verdictO_read) (yt0.read verdictR_widens verdictO_read)).mono ?_
  rintro e wu0 ⟨rfl, hbu0⟩
  have BB11 := bthen BB10 hbu0
  clear BB10
  have hs := hs.keep intR_keeps hbu0
  have yx0 := yx0.keep verdictO_keeps hbu0
  have yx1 := yx1.keep verdictO_keeps hbu0
  have yg := yg.keep intO_keeps hbu0
  have su0 := hbu0.size
  clear hbu0 yt0
  go_wp2_with fail
  refine (mToVerdictS x1 All1 (.slice a1 x1.length k1) _ hbk1 ((unhide HR1).keep verdictR_keeps BB11)).mono ?_
  rintro e wt1 ⟨vt1, rfl, yt1, hbt1⟩
  obtain ⟨at1, kt1, rfl⟩ := yt1.form
  have BB12 := bthen BB11 hbt1
  clear BB11
  have hs := hs.keep intR_keeps hbt1
  have yx0 := yx0.keep verdictO_keeps hbt1
  have yx1 := yx1.keep verdictO_keeps hbt1
  have yg := yg.keep intO_keeps hbt1
  have st1 := hbt1.size
  clear hbt1
  go_wp2_with fail
  refine (mEqVerdictS x1 _ _ (.slice ax1 x1.length kx1) (.slice at1 x1.length kt1) _ (yx1.read verdictR_widens verdictO_read) (yt1.read verdictR_widens verdictO_read)).mono ?_
  rintro e wu1 ⟨rfl, hbu1⟩
  have BB13 := bthen BB12 hbu1
  clear BB12
  have hs := hs.keep intR_keeps hbu1
  have yx0 := yx0.keep verdictO_keeps hbu1
  have yx1 := yx1.keep verdictO_keeps hbu1
  have yg := yg.keep intO_keeps hbu1
  have su1 := hbu1.size
  clear hbu1 yt1
  have hcx0 : 3 * x0.length ≤ 8388608 := by have := verdictS_cnt x0; omega
  have hcx1 : 3 * x1.length ≤ 8388608 := by have := verdictS_cnt x1; omega
  go_wp2_with fail
  refine (mMarkVerdictS x0 _ (.slice ax0 x0.length kx0) (1) _ (by omega) (by omega) yx0).mono ?_
  rintro e wm0 ⟨rfl, tm0, ym0⟩
  have hs := hs.turn intR_keeps tm0 (fun k hk e => by have h1 := hk.1; have h2 := hk.2; have h3 := e.1; have h4 := e.2; omega)
  have yx1 := yx1.turn verdictO_keeps tm0 (fun k hk e => by have h1 := hk.1; have h2 := hk.2; have h3 := e.1; have h4 := e.2; omega)
  have yg := yg.turn intO_keeps tm0 (fun k hk e => by have h1 := hk.1; have h2 := hk.2; have h3 := e.1; have h4 := e.2; omega)
  have BB14 := BB13.trans (tm0.belowFrom BB13.size (fun k hk => by have h1 := hk.1; omega))
  have sm0 := tm0.size
  clear tm0 ym0 yx0
  go_wp2_with fail
  refine (mMarkVerdictS x1 _ (.slice ax1 x1.length kx1) (1 + 3 * (x0.length : Int)) _ (by omega) (by omega) yx1).mono ?_
  rintro e wm1 ⟨rfl, tm1, ym1⟩
  have hs := hs.turn intR_keeps tm1 (fun k hk e => by have h1 := hk.1; have h2 := hk.2; have h3 := e.1; have h4 := e.2; omega)
  have yg := yg.turn intO_keeps tm1 (fun k hk e => by have h1 := hk.1; have h2 := hk.2; have h3 := e.1; have h4 := e.2; omega)
  have BB15 := BB14.trans (tm1.belowFrom BB14.size (fun k hk => by have h1 := hk.1; omega))
  have sm1 := tm1.size
  clear tm1 ym1 yx1
  have hkk : ¬ 1 + 3 * (x0.length : Int) + 3 * (x1.length : Int) < 0 := by omega
  go_wp2_with fail
  refine (mEqIntS RD _ _ (.slice ag RD.length kg) (.slice aS RD.length kS) _ (yg.read intR_widens intO_read) hs).mono ?_
  rintro e we2 ⟨rfl, hbe2⟩
  have BB16 := bthen BB15 hbe2
  clear BB15
  have hs := hs.keep intR_keeps hbe2
  have yg := yg.keep intO_keeps hbe2
  have se2 := hbe2.size
  clear hbe2
  go_wp2_with fail
  refine (mMarkIntS RD _ (.slice ag RD.length kg) 1 _ (by omega) (by omega) yg).mono ?_
  rintro e wn ⟨rfl, tn, yn⟩
  have hs := hs.turn intR_keeps tn (fun k hk e => by have h1 := hk.1; have h2 := hk.2; have h3 := e.1; have h4 := e.2; omega)
  have BB17 := BB16.trans (tn.belowFrom BB16.size (fun k hk => by have h1 := hk.1; omega))
  have sn := tn.size
  clear tn yg
  have hmm : ¬ 1 + (RD.length : Int) < 0 := by omega
  go_wp2_with fail
  refine (mHeldIntS RD.length _ (.slice ag RD.length kg) 1 _ (by omega) (by omega) (yn.read intR_widens intO_read)).mono ?_
  rintro e wh3 ⟨rfl, hbh3⟩
  have BB18 := bthen BB17 hbh3
  clear BB17
  have hs := hs.keep intR_keeps hbh3
  have yn := yn.keep intO_keeps hbh3
  clear hbh3
  go_wp2_with fail
  refine (mToVerdictS x0 All1 (.slice a0 x0.length k0) _ hbk0 ((unhide HR0).keep verdictR_keeps BB18)).mono ?_
  rintro e wv0 ⟨vv0, rfl, yv0, hbv0⟩
  obtain ⟨av0, kv0, rfl⟩ := yv0.form
  have BB19 := bthen BB18 hbv0
  clear BB18
  have hs := hs.keep intR_keeps hbv0
  have yn := yn.keep intO_keeps hbv0
  clear hbv0
  go_wp2_with fail
  refine (mToVerdictS x1 All1 (.slice a1 x1.length k1) _ hbk1 ((unhide HR1).keep verdictR_keeps BB19)).mono ?_
  rintro e wv1 ⟨vv1, rfl, yv1, hbv1⟩
  obtain ⟨av1, kv1, rfl⟩ := yv1.form
  have BB20 := bthen BB19 hbv1
  clear BB19
  have hs := hs.keep intR_keeps hbv1
  have yn := yn.keep intO_keeps hbv1
  have yv0 := yv0.keep verdictO_keeps hbv1
  clear hbv1
  go_wp2_with fail
  refine (implForgets x0 x1 _ (.slice av0 x0.length kv0) _ (.slice av1 x1.length kv1) _ (yv0.read verdictR_widens verdictO_read) hbk0 (yv1.read verdictR_widens verdictO_read) hbk1 (unhide HWF0) (unhide HWF1)).mono ?_
  rintro e wk ⟨vh, rfl, yh, hbk⟩
  rw [unhide HRD] at yh
  obtain ⟨ah, kh, rfl⟩ := yh.form
  have BB21 := bthen BB20 hbk
  clear BB20
  have hs := hs.keep intR_keeps hbk
  have yn := yn.keep intO_keeps hbk
  clear hbk yv0 yv1
  go_wp2_with fail
  refine (mEqIntS RD _ _ (.slice ah RD.length kh) (.slice aS RD.length kS) _ (yh.read intR_widens intO_read) hs).mono ?_
  rintro e we4 ⟨rfl, hbe4⟩
  have BB22 := bthen BB21 hbe4
  clear BB21
  have hs := hs.keep intR_keeps hbe4
  have yn := yn.keep intO_keeps hbe4
  have yh := yh.keep intO_keeps hbe4
  have se4 := hbe4.size
  clear hbe4
  clear yh
  go_wp2_with fail
  refine (mHeldIntS RD.length _ (.slice ag RD.length kg) 1 _ (by omega) (by omega) (yn.read intR_widens intO_read)).mono ?_
  rintro e wh5 ⟨rfl, hbh5⟩
  have BB23 := bthen BB22 hbh5
  clear BB22
  have hs := hs.keep intR_keeps hbh5
  have yn := yn.keep intO_keeps hbh5
  clear hbh5
  go_wp2
  go_ret
  exact ⟨rfl, BB23⟩

set_option maxRecDepth 100000 in
theorem lifted (os : Os) (started : os.Started) (H : Type) (enc : TypeId × Value → H) :
    ReturnsInHanded {} Try.checked os 3 .any (Rows.fnExactForgetsSpec.pre6 enc Try.prog Try.f3 Rows.fnExactForgetsRow.domain false) (Rows.fnExactForgetsSpec.post enc Try.prog Try.f3 false true false false) := by
  refine returnsInHanded_of_change (C := Try.checked) own started (by kernel_rfl) Try.func3
    (ChangeSpec.witness6 (enc := enc) (C := Try.checked) false ⟨#[], #[.slice none 0 0, .slice none 0 0], []⟩ 8 (by kernel_rfl) (by kernel_rfl) (by kernel_rfl) (by kernel_rfl)) ?_
  intro W base args ds gs before hval0 hW hcnd _
  have hval : ∀ (j : Nat) t v, Try.f3.params[j]? = some t → args[j]? = some v → Value.okWide Try.prog W .any base t v := hval0
  have hW' := hW
  obtain ⟨p, q, hA0, hV, rfl, hfz, hnd⟩ := hW
  have hA : DataW.TrodAll enc Try.prog W 0 (fun _ => true) true Try.f3.params.toList args.toList ds p := hA0
  rw [Try.params3] at hA hval
  obtain ⟨v0, vs0, d0, ds0, p0, q0, hargs0, rfl, rfl, k0, r0⟩ := trodAll_cons hA
  obtain ⟨v1, vs1, d1, ds1, p1, q1, rfl, rfl, rfl, k1, r1⟩ := trodAll_cons r0
  obtain ⟨rfl, rfl, rfl⟩ := trodAll_nil r1
  obtain rfl : args = #[v0, v1] := by cases args; simp_all
  obtain ⟨rfl, rfl⟩ := trodVars_none hV
  have lt0 : ∀ x ∈ p0, x.block < W.heap.size := by obtain ⟨m, hm⟩ := k0; exact DataW.trod_lt m _ _ _ hm
  have h0 : AtVerdSW W v0 := openAtVerdSW (hval 0 _ v0 rfl rfl) k0
  have lt1 : ∀ x ∈ p1, x.block < W.heap.size := by obtain ⟨m, hm⟩ := k1; exact DataW.trod_lt m _ _ _ hm
  have h1 : AtVerdSW W v1 := openAtVerdSW (hval 1 _ v1 rfl rfl) k1
  clear hA0 hval0
  refine (walk v0 v1 W h0 h1).mono fun e W' ⟨he, bel⟩ => ?_
  subst he
  exact ⟨_, rfl, _, _, _, [], _, [], hW', trodAll_mk1 (shut_bool Try.underlying4 _), (trodAll_cons_mk (Below.trod laidOut (by kernel_rfl) (of_decide_eq_true (by kernel_rfl)) k0 bel lt0) (trodAll_cons_mk (Below.trod laidOut (by kernel_rfl) (of_decide_eq_true (by kernel_rfl)) k1 bel lt1) trodAll_mk0)), rfl, bel.frame _, fun h => by cases h⟩

set_option maxHeartbeats 10000000 in
theorem over : Rows.fnExactForgetsRow.holds Try.pinned (OpenSpec.ofChange Rows.fnExactForgetsSpec) :=
  OpenClaim.holds_of_wide 3 Try.f3 rfl rfl rfl rfl rfl rfl rfl ⟨rfl, rfl, rfl, rfl, rfl⟩ rfl rfl rfl rfl rfl (by as_aux_lemma => kernel_rfl) Try.func3 (by as_aux_lemma => kernel_rfl)
    (of_decide_eq_true (by as_aux_lemma => kernel_rfl)) (by unfold Func.isWrapper; first | (rw [if_pos (by decide +kernel)]; kernel_rfl) | (rw [if_neg (by decide +kernel)]; exact ⟨rfl, rfl⟩))
    (fun os started H enc _ => lifted os started H enc)

/-- The statement. -/
theorem proved : Rows.FnExactForgetsSaid := over
#print axioms proved
end Go.Proofs.Ytombdjcgopfieab.fnExactForgets
