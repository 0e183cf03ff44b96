/-
  Proved: at all arguments the program's StampsOf answers as the specification's, leaves what it is given alone, and its answer owns its memory; no condition.
-/
import Derived.Test.YtopngelgpfjdeaaRows
import Derived.Test.YtopngelgpfjdeaaStm2
import Derived.Test.YtopngelgpfjdeaaNDeed
import Derived.Test.YtopngelgpfjdeaaTInt
import Derived.Test.YtopngelgpfjdeaaODeed
import Derived.Test.YtopngelgpfjdeaaArgs
import Derived.WalkKit
import Derived.ProofKit
import Derived.OpenShut
import Derived.ShutString
import Derived.ChangeOld
import Derived.Below
import Derived.Deep.CutRange
namespace Go.Proofs.Ytopngelgpfjdeaa.fnExactStampsOf
open Go.ChangeShapes Go.WideShapes Go.ChangeAt Go.RowKit
set_option linter.unusedVariables false
set_option maxRecDepth 100000


theorem laidOut : laidOutB Try.prog = true := by kernel_rfl

set_option maxHeartbeats 4000000 in
theorem walk (v0 : Value) (w : World) (h0 : AtDeedS w v0) :
    Calls Try.prog 9 #[v0] w fun e w' => e = .returned (.bool true) ∧ Below w.heap.size w w' := by
  obtain ⟨x0, hx0⟩ := h0
  obtain ⟨a0, k0, rfl⟩ := hx0.form
  have HR0 := hide hx0
  clear hx0
  have B0 : Below w.heap.size w w := Below.refl w.heap.size w
  go_enter Try.func9, Try.ntmps9
  go_wp2_with fail
  refine (mSzDeedS x0 All1 (.slice a0 x0.length k0) 1048576 _ (by omega) (by omega) ((unhide HR0).keep deedR_keeps B0)).mono ?_
  rintro e wz0 ⟨⟨z0, rfl, hz0⟩, hb⟩
  have HZ0 := hide hz0
  clear hz0
  have BB1 := bthen B0 hb
  clear hb
  by_cases hneg0 : z0 < 0
  · go_wp2
    go_ret
    exact ⟨rfl, BB1⟩
  have hzz0 : 0 ≤ z0 ∧ z0 + bulkL deedBulk x0 ≤ 1048576 := by rcases unhide HZ0 with h | h <;> omega
  clear HZ0
  have hbk0 : bulkL deedBulk x0 ≤ 1048576 := by omega
  clear hzz0
  go_wp2_with fail
  refine (mToDeedS x0 All1 (.slice a0 x0.length k0) _ hbk0 ((unhide HR0).keep deedR_keeps BB1)).mono ?_
  rintro e wr0 ⟨vr0, rfl, yy0, hbr0⟩
  obtain ⟨ar0, kr0, rfl⟩ := yy0.form
  have BB2 := bthen BB1 hbr0
  clear BB1
  clear hbr0
  go_wp2_with fail
  refine (specStampsOf x0 _ (.slice ar0 x0.length kr0) _ (yy0.read deedR_widens deedO_read) hbk0).mono ?_
  rintro e ws ⟨vs, rfl, ys, hbs⟩
  have BB3 := bthen BB2 hbs
  clear BB2
  have sz1 := hbs.size
  have sw0 := BB3.size
  clear hbs yy0
  have hcn : (stZ x0).length ≤ 16777216 := st_cnt x0 hbk0
  generalize hRD : stZ x0 = RD at *
  have HRD := hide hRD
  clear hRD
  obtain ⟨aS, kS, rfl⟩ := ys.form
  have hs := (ys.read intR_widens intO_read)
  clear ys
  go_wp2_with fail
  refine (mToDeedS x0 All1 (.slice a0 x0.length k0) _ hbk0 ((unhide HR0).keep deedR_keeps BB3)).mono ?_
  rintro e wx0 ⟨vx0, rfl, yx0, hbx0⟩
  obtain ⟨ax0, kx0, rfl⟩ := yx0.form
  have BB4 := bthen BB3 hbx0
  clear BB3
  have hs := hs.keep intR_keeps hbx0
  have sx0 := hbx0.size
  clear hbx0
  go_wp2_with fail
  refine (implStampsOf x0 _ (.slice ax0 x0.length kx0) _ (yx0.read deedR_widens deedO_read) hbk0).mono ?_
  rintro e wg ⟨vg, rfl, yg, hbg⟩
  rw [unhide HRD] at yg
  obtain ⟨ag, kg, rfl⟩ := yg.form
  have BB5 := bthen BB4 hbg
  clear BB4
  have hs := hs.keep intR_keeps hbg
  have yx0 := yx0.keep deedO_keeps hbg
  have sz2 := hbg.size
  clear hbg
  go_wp2_with fail
  refine (mEqIntS RD _ _ (.slice ag RD.length kg) (.slice aS RD.length kS) _ (yg.read intR_widens intO_read) hs).mono ?_
  rintro e we1 ⟨rfl, hbe1⟩
  have BB6 := bthen BB5 hbe1
  clear BB5
  have hs := hs.keep intR_keeps hbe1
  have yx0 := yx0.keep deedO_keeps hbe1
  have yg := yg.keep intO_keeps hbe1
  have se1 := hbe1.size
  clear hbe1
  go_wp2_with fail
  refine (mToDeedS x0 All1 (.slice a0 x0.length k0) _ hbk0 ((unhide HR0).keep deedR_keeps BB6)).mono ?_
  rintro e wt0 ⟨vt0, rfl, yt0, hbt0⟩
  obtain ⟨at0, kt0, rfl⟩ := yt0.form
  have BB7 := bthen BB6 hbt0
  clear BB6
  have hs := hs.keep intR_keeps hbt0
  have yx0 := yx0.keep deedO_keeps hbt0
  have yg := yg.keep intO_keeps hbt0
  have st0 := hbt0.size
  clear hbt0
  go_wp2_with fail
  refine (mEqDeedS x0 _ _ (.slice ax0 x0.length kx0) (.slice at0 x0.length kt0) _ (yx0.read deedR_widens deedO_read) (yt0.read deedR_widens deedO_read)).mono ?_
  rintro e wu0 ⟨rfl, hbu0⟩
  have BB8 := bthen BB7 hbu0
  clear BB7
  have hs := hs.keep intR_keeps hbu0
  have yx0 := yx0.keep deedO_keeps hbu0
  have yg := yg.keep intO_keeps hbu0
  have su0 := hbu0.size
  clear hbu0 yt0
  have hcx0 : cntL deedCnt x0 ≤ 33554432 := by have := deedS_cnt x0; omega
  go_wp2_with fail
  refine (mMarkDeedS x0 _ (.slice ax0 x0.length kx0) (1) _ (by omega) (by omega) yx0).mono ?_
  rintro e wm0 ⟨rfl, tm0, ym0⟩
  have hs := hs.turn intR_keeps tm0 (fun k hk e => by have h1 := hk.1; have h2 := hk.2; have h3 := e.1; have h4 := e.2; omega)
  have yg := yg.turn intO_keeps tm0 (fun k hk e => by have h1 := hk.1; have h2 := hk.2; have h3 := e.1; have h4 := e.2; omega)
  have BB9 := BB8.trans (tm0.belowFrom BB8.size (fun k hk => by have h1 := hk.1; omega))
  have sm0 := tm0.size
  clear tm0 ym0 yx0
  have hkk : ¬ 1 + (cntL deedCnt x0 : Int) < 0 := by omega
  go_wp2_with fail
  refine (mEqIntS RD _ _ (.slice ag RD.length kg) (.slice aS RD.length kS) _ (yg.read intR_widens intO_read) hs).mono ?_
  rintro e we2 ⟨rfl, hbe2⟩
  have BB10 := bthen BB9 hbe2
  clear BB9
  have hs := hs.keep intR_keeps hbe2
  have yg := yg.keep intO_keeps hbe2
  have se2 := hbe2.size
  clear hbe2
  go_wp2_with fail
  refine (mMarkIntS RD _ (.slice ag RD.length kg) 1 _ (by omega) (by omega) yg).mono ?_
  rintro e wn ⟨rfl, tn, yn⟩
  have hs := hs.turn intR_keeps tn (fun k hk e => by have h1 := hk.1; have h2 := hk.2; have h3 := e.1; have h4 := e.2; omega)
  have BB11 := BB10.trans (tn.belowFrom BB10.size (fun k hk => by have h1 := hk.1; omega))
  have sn := tn.size
  clear tn yg
  have hmm : ¬ 1 + (RD.length : Int) < 0 := by omega
  go_wp2_with fail
  refine (mHeldIntS RD.length _ (.slice ag RD.length kg) 1 _ (by omega) (by omega) (yn.read intR_widens intO_read)).mono ?_
  rintro e wh3 ⟨rfl, hbh3⟩
  have BB12 := bthen BB11 hbh3
  clear BB11
  have hs := hs.keep intR_keeps hbh3
  have yn := yn.keep intO_keeps hbh3
  clear hbh3
  go_wp2_with fail
  refine (mToDeedS x0 All1 (.slice a0 x0.length k0) _ hbk0 ((unhide HR0).keep deedR_keeps BB12)).mono ?_
  rintro e wv0 ⟨vv0, rfl, yv0, hbv0⟩
  obtain ⟨av0, kv0, rfl⟩ := yv0.form
  have BB13 := bthen BB12 hbv0
  clear BB12
  have hs := hs.keep intR_keeps hbv0
  have yn := yn.keep intO_keeps hbv0
  clear hbv0
  go_wp2_with fail
  refine (implStampsOf x0 _ (.slice av0 x0.length kv0) _ (yv0.read deedR_widens deedO_read) hbk0).mono ?_
  rintro e wk ⟨vh, rfl, yh, hbk⟩
  rw [unhide HRD] at yh
  obtain ⟨ah, kh, rfl⟩ := yh.form
  have BB14 := bthen BB13 hbk
  clear BB13
  have hs := hs.keep intR_keeps hbk
  have yn := yn.keep intO_keeps hbk
  clear hbk yv0
  go_wp2_with fail
  refine (mEqIntS RD _ _ (.slice ah RD.length kh) (.slice aS RD.length kS) _ (yh.read intR_widens intO_read) hs).mono ?_
  rintro e we4 ⟨rfl, hbe4⟩
  have BB15 := bthen BB14 hbe4
  clear BB14
  have hs := hs.keep intR_keeps hbe4
  have yn := yn.keep intO_keeps hbe4
  have yh := yh.keep intO_keeps hbe4
  have se4 := hbe4.size
  clear hbe4
  clear yh
  go_wp2_with fail
  refine (mHeldIntS RD.length _ (.slice ag RD.length kg) 1 _ (by omega) (by omega) (yn.read intR_widens intO_read)).mono ?_
  rintro e wh5 ⟨rfl, hbh5⟩
  have BB16 := bthen BB15 hbh5
  clear BB15
  have hs := hs.keep intR_keeps hbh5
  have yn := yn.keep intO_keeps hbh5
  clear hbh5
  go_wp2
  go_ret
  exact ⟨rfl, BB16⟩

set_option maxRecDepth 100000 in
theorem lifted (os : Os) (started : os.Started) (H : Type) (enc : TypeId × Value → H) :
    ReturnsInHanded {} Try.checked os 9 .any (Rows.fnExactStampsOfSpec.pre6 enc Try.prog Try.f9 Rows.fnExactStampsOfRow.domain false) (Rows.fnExactStampsOfSpec.post enc Try.prog Try.f9 false true false false) := by
  refine returnsInHanded_of_change (C := Try.checked) own started (by kernel_rfl) Try.func9
    (ChangeSpec.witness6 (enc := enc) (C := Try.checked) false ⟨#[], #[.slice none 0 0], []⟩ 8 (by kernel_rfl) (by kernel_rfl) (by kernel_rfl) (by kernel_rfl)) ?_
  intro W base args ds gs before hval0 hW hcnd _
  have hval : ∀ (j : Nat) t v, Try.f9.params[j]? = some t → args[j]? = some v → Value.okWide Try.prog W .any base t v := hval0
  have hW' := hW
  obtain ⟨p, q, hA0, hV, rfl, hfz, hnd⟩ := hW
  have hA : DataW.TrodAll enc Try.prog W 0 (fun _ => true) true Try.f9.params.toList args.toList ds p := hA0
  rw [Try.params9] at hA hval
  obtain ⟨v0, vs0, d0, ds0, p0, q0, hargs0, rfl, rfl, k0, r0⟩ := trodAll_cons hA
  obtain ⟨rfl, rfl, rfl⟩ := trodAll_nil r0
  obtain rfl : args = #[v0] := by cases args; simp_all
  obtain ⟨rfl, rfl⟩ := trodVars_none hV
  have lt0 : ∀ x ∈ p0, x.block < W.heap.size := by obtain ⟨m, hm⟩ := k0; exact DataW.trod_lt m _ _ _ hm
  have h0 : AtDeedS W v0 := openAtDeedS (hval 0 _ v0 rfl rfl) k0
  clear hA0 hval0
  refine (walk v0 W h0).mono fun e W' ⟨he, bel⟩ => ?_
  subst he
  exact ⟨_, rfl, _, _, _, [], _, [], hW', trodAll_mk1 (shut_bool Try.underlying4 _), (trodAll_cons_mk (Below.trod laidOut (by kernel_rfl) (of_decide_eq_true (by kernel_rfl)) k0 bel lt0) trodAll_mk0), rfl, bel.frame _, fun h => by cases h⟩

theorem over : Rows.fnExactStampsOfRow.holds Try.pinned (OpenSpec.ofChange Rows.fnExactStampsOfSpec) :=
  OpenClaim.holds_of_wide 9 Try.f9 rfl rfl rfl rfl rfl rfl rfl ⟨rfl, rfl, rfl, rfl, rfl⟩ rfl rfl rfl rfl rfl (by kernel_rfl) Try.func9 (by kernel_rfl)
    (of_decide_eq_true (by kernel_rfl)) (by unfold Func.isWrapper; first | (rw [if_pos (by decide +kernel)]; kernel_rfl) | (rw [if_neg (by decide +kernel)]; exact ⟨rfl, rfl⟩))
    (fun os started H enc _ => lifted os started H enc)

/-- The statement. -/
theorem proved : Rows.FnExactStampsOfSaid := over
#print axioms proved
end Go.Proofs.Ytopngelgpfjdeaa.fnExactStampsOf
