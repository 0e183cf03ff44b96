/-
  Proved: the program's WheelNew answers as the specification's, and its answer owns its memory; no condition.
-/
import Derived.Test.YtombdjcgopfieabRows
import Derived.Test.YtombdjcgopfieabWNew1
import Derived.Test.YtombdjcgopfieabWNew2
import Derived.WalkKit
import Derived.ProofKit
import Derived.OpenShut
import Derived.ShutString
import Derived.ChangeOld
import Derived.Below
import Derived.Deep.CutRange
namespace Go.Proofs.Ytombdjcgopfieab.fnExactWheelNew
open Go.ChangeShapes Go.WideShapes Go.ChangeAt Go.RowKit
set_option linter.unusedVariables false
set_option maxRecDepth 100000


theorem laidOut : laidOutB Try.prog = true := by kernel_rfl

set_option maxHeartbeats 4000000 in
theorem walk (w : World) :
    Calls Try.prog 7 #[] w fun e w' => e = .returned (.bool true) ∧ Below w.heap.size w w' := by
  have B0 : Below w.heap.size w w := Below.refl w.heap.size w
  go_enter Try.func7, Try.ntmps7
  go_wp2_with fail
  refine (specWheelNew _).mono ?_
  rintro e ws ⟨cS, rfl, hs, hbs⟩
  have BB1 := bthen B0 hbs
  clear hbs
  have lnBW := hide (wheelR_len hs)
  have onBW := wheelR_one hs
  have rBW : RowT Try.prog 49 cS.length := by rw [unhide lnBW]; exact rowIWheel
  have hbnBW := bnew ws (.cells cS.toArray 49)
  have BW := Held.new ws cS 49
  have BB2 := bthen BB1 hbnBW
  have hs := wheelR_keeps _ _ _ None1 _ _ (Below.turn hbnBW) none_off hs
  clear hbnBW
  go_upto_region 2 with (first | (refine wpl_store_new rfl _ _ _ rfl _ cS rfl rfl ?_ onBW rBW ?_; (rw [unhide lnBW]; rfl)))
  generalize hWBW : World.alloc ws _ = nBW at *
  clear hWBW onBW
  go_wp2_with (first | (refine wpl_load rfl 49 _ rfl _ 0 rfl cS BW.inB rBW ?_))
  refine (implWheelNew _).mono ?_
  rintro e wg ⟨cG, rfl, yg, hbg⟩
  have BB3 := bthen BB2 hbg
  have hs := wheelR_keeps _ _ _ None1 _ _ (Below.turn hbg) none_off hs
  have BW := BW.keep hbg
  clear hbg
  have lnBG := hide (wheelR_len yg)
  have onBG := wheelR_one yg
  have rBG : RowT Try.prog 49 cG.length := by rw [unhide lnBG]; exact rowIWheel
  have hbnBG := bnew wg (.cells cG.toArray 49)
  have BG := Held.new wg cG 49
  have BB4 := bthen BB3 hbnBG
  have hs := wheelR_keeps _ _ _ None1 _ _ (Below.turn hbnBG) none_off hs
  have yg := wheelR_keeps _ _ _ None1 _ _ (Below.turn hbnBG) none_off yg
  have BW := BW.keep hbnBG
  clear hbnBG
  go_upto_region 3 with (first | (refine wpl_store_new rfl _ _ _ rfl _ cG rfl rfl ?_ onBG rBG ?_; (rw [unhide lnBG]; rfl)))
  generalize hWBG : World.alloc wg _ = nBG at *
  clear hWBG onBG
  go_wp2_with (first | (refine wpl_load rfl 49 _ rfl _ 0 rfl cS BW.inB rBW ?_) | (refine wpl_load rfl 49 _ rfl _ 0 rfl cG BG.inB rBG ?_))
  refine (mEqWheel newWheel _ _ cG cS _ yg hs).mono ?_
  rintro e we1 ⟨rfl, hb1⟩
  have BB5 := bthen BB4 hb1
  have hs := wheelR_keeps _ _ _ None1 _ _ (Below.turn hb1) none_off hs
  have yg := wheelR_keeps _ _ _ None1 _ _ (Below.turn hb1) none_off yg
  have BW := BW.keep hb1
  have BG := BG.keep hb1
  clear hb1
  go_wp2_with (first | (refine wpl_load rfl 49 _ rfl _ 0 rfl cS BW.inB rBW ?_) | (refine wpl_load rfl 49 _ rfl _ 0 rfl cG BG.inB rBG ?_))
  refine (mMarkNew _ cG 1 _ (by omega) (by omega) yg).mono ?_
  rintro e wm2 ⟨rfl, hb2⟩
  have BB6 := bthen BB5 hb2
  have hs := wheelR_keeps _ _ _ None1 _ _ (Below.turn hb2) none_off hs
  have yg := wheelR_keeps _ _ _ None1 _ _ (Below.turn hb2) none_off yg
  have BW := BW.keep hb2
  have BG := BG.keep hb2
  clear hb2
  go_wp2_with (first | (refine wpl_load rfl 49 _ rfl _ 0 rfl cS BW.inB rBW ?_) | (refine wpl_load rfl 49 _ rfl _ 0 rfl cG BG.inB rBG ?_))
  refine (mHeldNew _ cG 1 _ (by omega) (by omega) yg).mono ?_
  rintro e wh3 ⟨rfl, hb3⟩
  have BB7 := bthen BB6 hb3
  have hs := wheelR_keeps _ _ _ None1 _ _ (Below.turn hb3) none_off hs
  have yg := wheelR_keeps _ _ _ None1 _ _ (Below.turn hb3) none_off yg
  have BW := BW.keep hb3
  have BG := BG.keep hb3
  clear hb3
  go_wp2_with (first | (refine wpl_load rfl 49 _ rfl _ 0 rfl cS BW.inB rBW ?_) | (refine wpl_load rfl 49 _ rfl _ 0 rfl cG BG.inB rBG ?_))
  refine (implWheelNew _).mono ?_
  rintro e wk ⟨cH, rfl, yh, hbk⟩
  have BB8 := bthen BB7 hbk
  have hs := wheelR_keeps _ _ _ None1 _ _ (Below.turn hbk) none_off hs
  have yg := wheelR_keeps _ _ _ None1 _ _ (Below.turn hbk) none_off yg
  have BW := BW.keep hbk
  have BG := BG.keep hbk
  clear hbk
  have lnBH := hide (wheelR_len yh)
  have onBH := wheelR_one yh
  have rBH : RowT Try.prog 49 cH.length := by rw [unhide lnBH]; exact rowIWheel
  have hbnBH := bnew wk (.cells cH.toArray 49)
  have BH := Held.new wk cH 49
  have BB9 := bthen BB8 hbnBH
  have hs := wheelR_keeps _ _ _ None1 _ _ (Below.turn hbnBH) none_off hs
  have yg := wheelR_keeps _ _ _ None1 _ _ (Below.turn hbnBH) none_off yg
  have yh := wheelR_keeps _ _ _ None1 _ _ (Below.turn hbnBH) none_off yh
  have BW := BW.keep hbnBH
  have BG := BG.keep hbnBH
  clear hbnBH
  go_upto_region 14 with (first | (refine wpl_store_new rfl _ _ _ rfl _ cH rfl rfl ?_ onBH rBH ?_; (rw [unhide lnBH]; rfl)))
  generalize hWBH : World.alloc wk _ = nBH at *
  clear hWBH onBH
  go_wp2_with (first | (refine wpl_load rfl 49 _ rfl _ 0 rfl cS BW.inB rBW ?_) | (refine wpl_load rfl 49 _ rfl _ 0 rfl cG BG.inB rBG ?_) | (refine wpl_load rfl 49 _ rfl _ 0 rfl cH BH.inB rBH ?_))
  refine (mEqWheel newWheel _ _ cH cS _ yh hs).mono ?_
  rintro e we4 ⟨rfl, hb4⟩
  have BB10 := bthen BB9 hb4
  have hs := wheelR_keeps _ _ _ None1 _ _ (Below.turn hb4) none_off hs
  have yg := wheelR_keeps _ _ _ None1 _ _ (Below.turn hb4) none_off yg
  have yh := wheelR_keeps _ _ _ None1 _ _ (Below.turn hb4) none_off yh
  have BW := BW.keep hb4
  have BG := BG.keep hb4
  have BH := BH.keep hb4
  clear hb4
  go_wp2_with (first | (refine wpl_load rfl 49 _ rfl _ 0 rfl cS BW.inB rBW ?_) | (refine wpl_load rfl 49 _ rfl _ 0 rfl cG BG.inB rBG ?_) | (refine wpl_load rfl 49 _ rfl _ 0 rfl cH BH.inB rBH ?_))
  refine (mHeldNew _ cG 1 _ (by omega) (by omega) yg).mono ?_
  rintro e wh5 ⟨rfl, hb5⟩
  have BB11 := bthen BB10 hb5
  have hs := wheelR_keeps _ _ _ None1 _ _ (Below.turn hb5) none_off hs
  have yg := wheelR_keeps _ _ _ None1 _ _ (Below.turn hb5) none_off yg
  have yh := wheelR_keeps _ _ _ None1 _ _ (Below.turn hb5) none_off yh
  have BW := BW.keep hb5
  have BG := BG.keep hb5
  have BH := BH.keep hb5
  clear hb5
  go_wp2
  go_ret
  exact ⟨rfl, BB11⟩

set_option maxRecDepth 100000 in
theorem lifted (os : Os) (started : os.Started) (H : Type) (enc : TypeId × Value → H) :
    ReturnsInHanded {} Try.checked os 7 .any (Rows.fnExactWheelNewSpec.pre6 enc Try.prog Try.f7 Rows.fnExactWheelNewRow.domain false) (Rows.fnExactWheelNewSpec.post enc Try.prog Try.f7 false true false false) := by
  refine returnsInHanded_of_change (C := Try.checked) own started (by kernel_rfl) Try.func7
    (ChangeSpec.witness6 (enc := enc) (C := Try.checked) false ⟨#[], #[], []⟩ 8 (by kernel_rfl) (by kernel_rfl) (by kernel_rfl) (by kernel_rfl)) ?_
  intro W base args ds gs before hval0 hW hcnd _
  have hval : ∀ (j : Nat) t v, Try.f7.params[j]? = some t → args[j]? = some v → Value.okWide Try.prog W .any base t v := hval0
  have hW' := hW
  obtain ⟨p, q, hA0, hV, rfl, hfz, hnd⟩ := hW
  have hA : DataW.TrodAll enc Try.prog W 0 (fun _ => true) true Try.f7.params.toList args.toList ds p := hA0
  rw [Try.params7] at hA hval
  obtain ⟨hargs0, rfl, rfl⟩ := trodAll_nil hA
  obtain rfl : args = #[] := by cases args; simp_all
  obtain ⟨rfl, rfl⟩ := trodVars_none hV
  clear hA0 hval0
  refine (walk  W ).mono fun e W' ⟨he, bel⟩ => ?_
  subst he
  exact ⟨_, rfl, _, _, _, [], _, [], hW', trodAll_mk1 (shut_bool Try.underlying4 _), trodAll_mk0, rfl, bel.frame _, fun h => by cases h⟩

set_option maxHeartbeats 10000000 in
theorem over : Rows.fnExactWheelNewRow.holds Try.pinned (OpenSpec.ofChange Rows.fnExactWheelNewSpec) :=
  OpenClaim.holds_of_wide 7 Try.f7 rfl rfl rfl rfl rfl rfl rfl ⟨rfl, rfl, rfl, rfl, rfl⟩ rfl rfl rfl rfl rfl (by as_aux_lemma => kernel_rfl) Try.func7 (by as_aux_lemma => kernel_rfl)
    (of_decide_eq_true (by as_aux_lemma => kernel_rfl)) (by unfold Func.isWrapper; first | (rw [if_pos (by decide +kernel)]; kernel_rfl) | (rw [if_neg (by decide +kernel)]; exact ⟨rfl, rfl⟩))
    (fun os started H enc _ => lifted os started H enc)

/-- The statement. -/
theorem proved : Rows.FnExactWheelNewSaid := over
#print axioms proved
end Go.Proofs.Ytombdjcgopfieab.fnExactWheelNew
