/-
  Proved: at all arguments the program's DueBy answers as the specification's, leaves what it is given alone, and its answer owns its memory; no condition.
-/
import Derived.Test.YtanpmbjjppfkeaaRows
import Derived.Test.YtanpmbjjppfkeaaDue2
import Derived.Test.YtanpmbjjppfkeaaOWheel
import Derived.Test.YtanpmbjjppfkeaaMWheel
import Derived.Test.YtanpmbjjppfkeaaTInt
import Derived.Test.YtanpmbjjppfkeaaArgs
import Derived.WalkKit
import Derived.ProofKit
import Derived.OpenShut
import Derived.ShutString
import Derived.ChangeOld
import Derived.Below
import Derived.Deep.CutRange
namespace Go.Proofs.Ytanpmbjjppfkeaa.fnExactDueBy
open Go.ChangeShapes Go.WideShapes Go.ChangeAt Go.RowKit
set_option linter.unusedVariables false
set_option maxRecDepth 100000


theorem laidOut : laidOutB Try.prog = true := by kernel_rfl

set_option maxHeartbeats 4000000 in
theorem walk (v0 v1 : Value) (w : World) (h0 : AtWheel w v0) (h1 : IsInt w v1) :
    Calls Try.prog 3 #[v0, v1] w fun e w' => e = .returned (.bool true) ∧ Below w.heap.size w w' := by
  obtain ⟨x1, rfl, hw1⟩ := h1
  obtain ⟨cs0, x0, rfl, hx0⟩ := h0
  have HR0 := hide hx0
  have r0 : RowT Try.prog 25 cs0.length := by rw [wheelR_len hx0]; exact rowLWheel
  clear hx0
  have P0 := Held.new w cs0 25
  have B0 : Below w.heap.size w (w.alloc (.cells cs0.toArray 25)) := bnew w (.cells cs0.toArray 25)
  go_enter Try.func3, Try.ntmps3
  go_upto_region 1 with fail
  generalize hW0 : World.alloc w _ = w0 at *
  clear hW0
  go_wp2_with (first | (refine wpl_load rfl 25 _ rfl _ 0 rfl cs0 P0.inB r0 ?_))
  refine (mSzWheel x0 All1 cs0 1048576 _ (by omega) (by omega) (wheelR_keeps _ _ _ None1 _ _ (Below.turn (B0)) none_off (unhide HR0))).mono ?_
  rintro e wz0 ⟨⟨z0, rfl, hz0⟩, hb⟩
  have HZ0 := hide hz0
  clear hz0
  have BB1 := bthen B0 hb
  have P0 := P0.keep hb
  clear hb
  by_cases hneg0 : z0 < 0
  · go_wp2
    go_ret
    exact ⟨rfl, BB1⟩
  have hzz0 : 0 ≤ z0 ∧ z0 + wheelBulk x0 ≤ 1048576 := by rcases unhide HZ0 with h | h <;> omega
  clear HZ0
  have hbk0 : wheelBulk x0 ≤ 1048576 := by omega
  clear hzz0
  go_wp2_with (first | (refine wpl_load rfl 25 _ rfl _ 0 rfl cs0 P0.inB r0 ?_))
  refine (mToWheel x0 All1 cs0 _ hbk0 (wheelR_keeps _ _ _ None1 _ _ (Below.turn (BB1)) none_off (unhide HR0))).mono ?_
  rintro e wr0 ⟨vr0, rfl, yy0, hbr0⟩
  have hyr0 := (wheelO_read _ _ _ _ yy0)
  clear yy0
  have BB2 := bthen BB1 hbr0
  have P0 := P0.keep hbr0
  clear hbr0
  have pl := P0.1
  go_wp2_with (first | (refine wpl_load rfl 25 _ rfl _ 0 rfl cs0 P0.inB r0 ?_))
  refine (specDueBy x0 x1 _ vr0 _ hyr0 hbk0).mono ?_
  rintro e ws ⟨vs, rfl, ys, hbs⟩
  clear hyr0
  have BB3 := bthen BB2 hbs
  have P0 := P0.keep hbs
  have sz1 := hbs.size
  clear hbs
  have hcn : (dueZ (allT x0) x1).length ≤ 16777216 := due_cnt x0 x1 hbk0
  have hcw := wheelCnt_le x0 hbk0
  generalize hRD : dueZ (allT x0) x1 = RD at *
  have HRD := hide hRD
  clear hRD
  obtain ⟨aS, kS, rfl⟩ := ys.form
  have hs := (ys.read intR_widens intO_read)
  clear ys
  go_wp2_with (first | (refine wpl_load rfl 25 _ rfl _ 0 rfl cs0 P0.inB r0 ?_))
  refine (mToWheel x0 All1 cs0 _ hbk0 (wheelR_keeps _ _ _ None1 _ _ (Below.turn (BB3)) none_off (unhide HR0))).mono ?_
  rintro e wx0 ⟨vx0, rfl, yx0, hbx0⟩
  have hy0 := (wheelO_read _ _ _ _ yx0)
  have BB4 := bthen BB3 hbx0
  have P0 := P0.keep hbx0
  have hs := hs.keep intR_keeps hbx0
  have sz2 := hbx0.size
  clear hbx0
  have rx0 : RowT Try.prog 32 vx0.length := by rw [wheelR_len hy0]; exact rowIWheel
  have on0 := wheelR_one hy0
  have ln0 := hide (wheelR_len hy0)
  clear hy0
  have hbn0 := bnew wx0 (.cells vx0.toArray 32)
  have X0 := Held.new wx0 vx0 32
  have P0 := P0.keep hbn0
  have hs := hs.keep intR_keeps hbn0
  have yx0 := (wheelO_keeps _ _ _ None1 _ _ (Below.turn hbn0) none_off yx0)
  have BB5 := bthen BB4 hbn0
  clear hbn0
  go_upto_region 7 with (first | (refine wpl_store_new rfl _ _ _ rfl _ vx0 rfl rfl ?_ on0 rx0 ?_; (rw [unhide ln0]; rfl)))
  generalize hWx : World.alloc wx0 _ = wy0 at *
  clear hWx
  have sz3 := X0.1
  go_wp2_with (first | (refine wpl_load rfl 25 _ rfl _ 0 rfl cs0 P0.inB r0 ?_) | (refine wpl_load rfl 32 _ rfl _ 0 rfl vx0 X0.inB rx0 ?_))
  refine (implDueBy x0 x1 _ vx0 _ (wheelO_read _ _ _ _ yx0) hbk0).mono ?_
  rintro e wg ⟨vg, rfl, yg, hbg⟩
  rw [unhide HRD] at yg
  obtain ⟨ag, kg, rfl⟩ := yg.form
  have BB6 := bthen BB5 hbg
  have P0 := P0.keep hbg
  have X0 := X0.keep hbg
  have hs := hs.keep intR_keeps hbg
  have yx0 := (wheelO_keeps _ _ _ None1 _ _ (Below.turn hbg) none_off yx0)
  have sz4 := hbg.size
  clear hbg
  go_wp2_with fail
  refine (mEqIntS RD _ _ (.slice ag RD.length kg) (.slice aS RD.length kS) _ (yg.read intR_widens intO_read) hs).mono ?_
  rintro e we1 ⟨rfl, hb⟩
  have BB7 := bthen BB6 hb
  have P0 := P0.keep hb
  have X0 := X0.keep hb
  have hs := hs.keep intR_keeps hb
  have yg := yg.keep intO_keeps hb
  have yx0 := (wheelO_keeps _ _ _ None1 _ _ (Below.turn hb) none_off yx0)
  have sz5 := hb.size
  clear hb
  go_upto_region 10 with (first | (refine wpl_load rfl 25 _ rfl _ 0 rfl cs0 P0.inB r0 ?_) | (refine wpl_load rfl 32 _ rfl _ 0 rfl vx0 X0.inB rx0 ?_))
  go_cut [35] from 31 to 34 (fun s wc0 => s = .bool false ∧ Below we1.heap.size we1 wc0)
  case first =>
    refine wp_region_held_drew (S := fun w' => Below we1.heap.size we1 w') (by kernel_rfl) (Below.drew (Below.refl _ _)) (fun hHeld => ?_)
    refine wpAnyH_take (i := 0) (oi := ?oo1) (v := .agg vx0.toArray) ?hi1 (by kernel_rfl) (by kernel_rfl) (by kernel_rfl) ?hQ1 ?hy1 (by assumption) ?rest1
    case hi1 => (simp only [List.getElem?_toArray, List.getElem?_cons_zero]; rfl)
    case hQ1 => exact fun _ _ _ h => h
    case hy1 => exact yld_load (by rfl) _ _ rfl _ 0 rfl vx0 (fun w' hS => (X0.keep hS).inB) rx0
    try simp only [Act.put, List.setIfInBounds_toArray, List.set_cons_zero, List.set_cons_succ]
    refine wpAnyH_take (i := 1) (oi := ?oo2) (v := .agg cs0.toArray) ?hi2 (by kernel_rfl) (by kernel_rfl) (by kernel_rfl) ?hQ2 ?hy2 (by assumption) ?rest2
    case hi2 => (simp only [List.getElem?_toArray, List.getElem?_cons_zero, List.getElem?_cons_succ]; rfl)
    case hQ2 => exact fun _ _ _ h => h
    case hy2 => exact yld_load (by rfl) _ _ rfl _ 0 rfl cs0 (fun w' hS => (P0.keep hS).inB) r0
    try simp only [Act.put, List.setIfInBounds_toArray, List.set_cons_zero, List.set_cons_succ]
    refine wpAnyH_ready (rs := [2]) (by kernel_rfl) (by simp) ?_
    refine (AllReadyH.cons (o := ?bo3n2) ?bh3n2 (fun K hK => ?br3n2) AllReadyH.nil)
    case bh3n2 => (simp only [List.getElem?_toArray, List.getElem?_cons_zero, List.getElem?_cons_succ]; rfl)
    case br3n2 =>
      go_simp
      refine (mToWheel x0 All1 cs0 _ hbk0 (wheelR_keeps _ _ _ None1 _ _ (Below.turn (bthen BB7 hHeld)) none_off (unhide HR0))).mono ?_
      rintro e we ⟨ve, rfl, ye, hbe⟩
      have hye := (wheelO_read _ _ _ _ ye)
      have hHe := bthen hHeld hbe
      clear ye hHeld hbe
      go_wp2_with fail
      refine hK.out _ _ (hHe) (fun hHeld => ?_)
      clear hK
      refine wpAnyH_ready (rs := [3]) (by kernel_rfl) (by simp) ?_
      refine (AllReadyH.cons (o := ?bo4n3) ?bh4n3 (fun K hK => ?br4n3) AllReadyH.nil)
      case bh4n3 => (simp only [List.getElem?_toArray, List.getElem?_cons_zero, List.getElem?_cons_succ]; rfl)
      case br4n3 =>
        go_simp
        refine (mEqWheel x0 _ _ vx0 ve _ (wheelR_keeps _ _ _ None1 _ _ (Below.turn hHeld) none_off (wheelO_read _ _ _ _ yx0)) hye).mono ?_
        rintro e wf ⟨rfl, hbf⟩
        have hHf := bthen hHeld hbf
        clear hye hHeld hbf
        go_wp2_with fail
        refine hK.out _ _ (hHf) (fun hHeld => ?_)
        clear hK
        refine wpAnyH_take (i := 4) (oi := ?oo5) (v := ?vv5) ?hi5 (by kernel_rfl) (by kernel_rfl) (by kernel_rfl) ?hQ5 ?hy5 (by assumption) ?rest5
        case hi5 => (simp only [List.getElem?_toArray, List.getElem?_cons_zero, List.getElem?_cons_succ]; rfl)
        case hQ5 => exact fun _ _ _ h => h
        case hy5 => exact Or.inl ⟨by rfl, by intro wS hSw; (try dsimp only at hSw); go_simp; try first | (with_reducible rfl) | (simp only [*]; done)⟩
        try simp only [Act.put, List.setIfInBounds_toArray, List.set_cons_zero, List.set_cons_succ]
        refine wpAnyH_done (by kernel_rfl) ?_ _
        go_wp2_with fail
        go_meet
        exact ⟨rfl, hHeld⟩
  case rest =>
  obtain ⟨rfl, hb⟩ := hcut
  have BB8 := bthen BB7 hb
  have P0 := P0.keep hb
  have X0 := X0.keep hb
  have hs := hs.keep intR_keeps hb
  have yg := yg.keep intO_keeps hb
  have yx0 := (wheelO_keeps _ _ _ None1 _ _ (Below.turn hb) none_off yx0)
  have sz6 := hb.size
  clear hb
  go_wp2_with (first | (refine wpl_load rfl 25 _ rfl _ 0 rfl cs0 P0.inB r0 ?_) | (refine wpl_load rfl 32 _ rfl _ 0 rfl vx0 X0.inB rx0 ?_))
  refine (mMarkWheel x0 _ vx0 1 _ (by omega) (by omega) (fun q h => by have h1 := h.1; have h2 := h.2; omega) yx0).mono ?_
  rintro e wm ⟨rfl, tm⟩
  have hs := hs.turn intR_keeps tm (fun k hk e => by have h1 := hk.1; have h2 := hk.2; have h3 := e.1; have h4 := e.2; omega)
  have yg := yg.turn intO_keeps tm (fun k hk e => by have h1 := hk.1; have h2 := hk.2; have h3 := e.1; have h4 := e.2; omega)
  have P0 := P0.turn tm (fun e => by have h3 := e.1; have h4 := e.2; omega)
  have BB9 := BB8.trans (tm.belowFrom BB8.size (fun k hk => by have h1 := hk.1; omega))
  have sz7 := tm.size
  clear tm yx0 X0
  have hkk : ¬ 1 + (wheelCnt x0 : Int) < 0 := by omega
  go_wp2_with fail
  refine (mEqIntS RD _ _ (.slice ag RD.length kg) (.slice aS RD.length kS) _ (yg.read intR_widens intO_read) hs).mono ?_
  rintro e we2 ⟨rfl, hb⟩
  have BB10 := bthen BB9 hb
  have P0 := P0.keep hb
  have hs := hs.keep intR_keeps hb
  have yg := yg.keep intO_keeps hb
  have sz8 := hb.size
  clear hb
  go_wp2_with fail
  refine (mMarkIntS RD _ (.slice ag RD.length kg) 1 _ (by omega) (by omega) yg).mono ?_
  rintro e wn ⟨rfl, tn, yn⟩
  have hs := hs.turn intR_keeps tn (fun k hk e => by have h1 := hk.1; have h2 := hk.2; have h3 := e.1; have h4 := e.2; omega)
  have P0 := P0.turn tn (fun e => by have h3 := e.1; have h4 := e.2; omega)
  have BB11 := BB10.trans (tn.belowFrom BB10.size (fun k hk => by have h1 := hk.1; omega))
  clear tn yg
  have hmm : ¬ 1 + (RD.length : Int) < 0 := by omega
  go_wp2_with fail
  refine (mHeldIntS RD.length _ (.slice ag RD.length kg) 1 _ (by omega) (by omega) (yn.read intR_widens intO_read)).mono ?_
  rintro e wh1 ⟨rfl, hb⟩
  have BB12 := bthen BB11 hb
  have P0 := P0.keep hb
  have hs := hs.keep intR_keeps hb
  have yn := yn.keep intO_keeps hb
  clear hb
  go_wp2_with (first | (refine wpl_load rfl 25 _ rfl _ 0 rfl cs0 P0.inB r0 ?_))
  refine (mToWheel x0 All1 cs0 _ hbk0 (wheelR_keeps _ _ _ None1 _ _ (Below.turn (BB12)) none_off (unhide HR0))).mono ?_
  rintro e wv0 ⟨vv0, rfl, yv0, hb⟩
  have hyv0 := (wheelO_read _ _ _ _ yv0)
  have BB13 := bthen BB12 hb
  have hs := hs.keep intR_keeps hb
  have yn := yn.keep intO_keeps hb
  clear hb yv0 P0
  go_wp2_with fail
  refine (implDueBy x0 x1 _ vv0 _ hyv0 hbk0).mono ?_
  rintro e wk ⟨vh, rfl, yh, hb⟩
  rw [unhide HRD] at yh
  obtain ⟨ah, kh, rfl⟩ := yh.form
  have BB14 := bthen BB13 hb
  have hs := hs.keep intR_keeps hb
  have yn := yn.keep intO_keeps hb
  clear hb hyv0
  go_wp2_with fail
  refine (mEqIntS RD _ _ (.slice ah RD.length kh) (.slice aS RD.length kS) _ (yh.read intR_widens intO_read) hs).mono ?_
  rintro e we3 ⟨rfl, hb⟩
  have BB15 := bthen BB14 hb
  have yn := yn.keep intO_keeps hb
  clear hb hs yh
  go_wp2_with fail
  refine (mHeldIntS RD.length _ (.slice ag RD.length kg) 1 _ (by omega) (by omega) (yn.read intR_widens intO_read)).mono ?_
  rintro e wh2 ⟨rfl, hb⟩
  have BB16 := bthen BB15 hb
  clear hb
  go_wp2
  go_ret
  exact ⟨rfl, BB16⟩

set_option maxRecDepth 100000 in
theorem lifted (os : Os) (started : os.Started) (H : Type) (enc : TypeId × Value → H) :
    ReturnsInHanded {} Try.checked os 3 .any (Rows.fnExactDueBySpec.pre6 enc Try.prog Try.f3 Rows.fnExactDueByRow.domain false) (Rows.fnExactDueBySpec.post enc Try.prog Try.f3 false true false false) := by
  refine returnsInHanded_of_change (C := Try.checked) own started (by kernel_rfl) Try.func3
    (ChangeSpec.witness6 (enc := enc) (C := Try.checked) false ⟨#[], #[.agg #[.int .i64 0, .slice none 0 0, .slice none 0 0, .slice none 0 0], .int .i64 0], []⟩ 8 (by kernel_rfl) (by kernel_rfl) (by kernel_rfl) (by kernel_rfl)) ?_
  intro W base args ds gs before hval0 hW hcnd _
  have hval : ∀ (j : Nat) t v, Try.f3.params[j]? = some t → args[j]? = some v → Value.okWide Try.prog W .any base t v := hval0
  have hW' := hW
  obtain ⟨p, q, hA0, hV, rfl, hfz, hnd⟩ := hW
  have hA : DataW.TrodAll enc Try.prog W 0 (fun _ => true) true Try.f3.params.toList args.toList ds p := hA0
  rw [Try.params3] at hA hval
  obtain ⟨v0, vs0, d0, ds0, p0, q0, hargs0, rfl, rfl, k0, r0⟩ := trodAll_cons hA
  obtain ⟨v1, vs1, d1, ds1, p1, q1, rfl, rfl, rfl, k1, r1⟩ := trodAll_cons r0
  obtain ⟨rfl, rfl, rfl⟩ := trodAll_nil r1
  obtain rfl : args = #[v0, v1] := by cases args; simp_all
  obtain ⟨rfl, rfl⟩ := trodVars_none hV
  have lt0 : ∀ x ∈ p0, x.block < W.heap.size := by obtain ⟨m, hm⟩ := k0; exact DataW.trod_lt m _ _ _ hm
  have h0 : AtWheel W v0 := openAtWheel (hval 0 _ v0 rfl rfl) k0
  have lt1 : ∀ x ∈ p1, x.block < W.heap.size := by obtain ⟨m, hm⟩ := k1; exact DataW.trod_lt m _ _ _ hm
  have h1 : IsInt W v1 := openIsInt (hval 1 _ v1 rfl rfl) k1
  clear hA0 hval0
  refine (walk v0 v1 W h0 h1).mono fun e W' ⟨he, bel⟩ => ?_
  subst he
  exact ⟨_, rfl, _, _, _, [], _, [], hW', trodAll_mk1 (shut_bool Try.underlying4 _), (trodAll_cons_mk (Below.trod laidOut (by kernel_rfl) (of_decide_eq_true (by kernel_rfl)) k0 bel lt0) (trodAll_cons_mk (Below.trod laidOut (by kernel_rfl) (of_decide_eq_true (by kernel_rfl)) k1 bel lt1) trodAll_mk0)), rfl, bel.frame _, fun h => by cases h⟩

theorem over : Rows.fnExactDueByRow.holds Try.pinned (OpenSpec.ofChange Rows.fnExactDueBySpec) :=
  OpenClaim.holds_of_wide 3 Try.f3 rfl rfl rfl rfl rfl rfl rfl ⟨rfl, rfl, rfl, rfl, rfl⟩ rfl rfl rfl rfl rfl (by kernel_rfl) Try.func3 (by kernel_rfl)
    (of_decide_eq_true (by kernel_rfl)) (by unfold Func.isWrapper; first | (rw [if_pos (by decide +kernel)]; kernel_rfl) | (rw [if_neg (by decide +kernel)]; exact ⟨rfl, rfl⟩))
    (fun os started H enc _ => lifted os started H enc)

/-- The statement. -/
theorem proved : Rows.FnExactDueBySaid := over
#print axioms proved
end Go.Proofs.Ytanpmbjjppfkeaa.fnExactDueBy
