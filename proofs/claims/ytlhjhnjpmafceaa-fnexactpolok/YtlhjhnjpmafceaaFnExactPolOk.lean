/-
  Proved: at all arguments the program's PolOk answers as the specification's, and leaves what it is given alone; no condition.
-/
import Derived.Test.YtlhjhnjpmafceaaRows
import Derived.Test.YtlhjhnjpmafceaaOPol
import Derived.Test.YtlhjhnjpmafceaaPk2
import Derived.Test.YtlhjhnjpmafceaaPk3
import Derived.WalkKit
import Derived.ProofKit
import Derived.OpenShut
import Derived.ShutString
import Derived.ChangeOld
import Derived.Below
import Derived.Deep.CutRange
namespace Go.Proofs.Ytlhjhnjpmafceaa.fnExactPolOk
open Go.ChangeShapes Go.WideShapes Go.ChangeAt Go.RowKit
set_option linter.unusedVariables false
set_option maxRecDepth 100000


theorem laidOut : laidOutB Try.prog = true := by kernel_rfl

set_option maxHeartbeats 4000000 in
theorem walk (v0 : Value) (w : World) (h0 : AtPol w v0) :
    Calls Try.prog 6 #[v0] w fun e w' => e = .returned (.bool true) ∧ Below w.heap.size w w' := by
  obtain ⟨cs0, x0, rfl, hx0⟩ := h0
  have HR0 := hide hx0
  have r0 : RowT Try.prog 24 cs0.length := by rw [polR_len hx0]; exact rowLPol
  clear hx0
  have P0 := Held.new w cs0 24
  have B0 : Below w.heap.size w (w.alloc (.cells cs0.toArray 24)) := bnew w (.cells cs0.toArray 24)
  go_enter Try.func6, Try.ntmps6
  go_upto_region 1 with fail
  generalize hW0 : World.alloc w _ = w0 at *
  clear hW0
  go_wp2_with (first | (refine wpl_load rfl 24 _ rfl _ 0 rfl cs0 P0.inB r0 ?_))
  refine (mSzPol x0 All1 cs0 1048576 _ (by omega) (by omega) (polR_keeps _ _ _ None1 _ _ (Below.turn (B0)) none_off (unhide HR0))).mono ?_
  rintro e wz0 ⟨⟨z0, rfl, hz0⟩, hb⟩
  have HZ0 := hide hz0
  clear hz0
  have BB1 := bthen B0 hb
  have P0 := P0.keep hb
  clear hb
  by_cases hneg0 : z0 < 0
  · go_wp2
    go_ret
    exact ⟨rfl, BB1⟩
  have hzz0 : 0 ≤ z0 ∧ z0 + polBulk x0 ≤ 1048576 := by rcases unhide HZ0 with h | h <;> omega
  clear HZ0
  have hbk0 : polBulk x0 ≤ 1048576 := by omega
  clear hzz0
  go_wp2_with (first | (refine wpl_load rfl 24 _ rfl _ 0 rfl cs0 P0.inB r0 ?_))
  refine (mToPol x0 All1 cs0 _ hbk0 (polR_keeps _ _ _ None1 _ _ (Below.turn (BB1)) none_off (unhide HR0))).mono ?_
  rintro e wr0 ⟨vr0, rfl, yy0, hbr0⟩
  have hyr0 := (polO_read _ _ _ _ yy0)
  clear yy0
  have BB2 := bthen BB1 hbr0
  have P0 := P0.keep hbr0
  clear hbr0
  go_wp2_with (first | (refine wpl_load rfl 24 _ rfl _ 0 rfl cs0 P0.inB r0 ?_))
  refine (specPolOk x0 _ vr0 _ hyr0 hbk0).mono ?_
  rintro e ws ⟨rfl, hbs⟩
  clear hyr0
  have BB3 := bthen BB2 hbs
  have P0 := P0.keep hbs
  clear hbs
  go_wp2_with (first | (refine wpl_load rfl 24 _ rfl _ 0 rfl cs0 P0.inB r0 ?_))
  refine (mToPol x0 All1 cs0 _ hbk0 (polR_keeps _ _ _ None1 _ _ (Below.turn (BB3)) none_off (unhide HR0))).mono ?_
  rintro e wx0 ⟨vx0, rfl, yx0, hbx0⟩
  have hy0 := polO_X _ _ _ _ yx0
  have BB4 := bthen BB3 hbx0
  have P0 := P0.keep hbx0
  clear yx0 hbx0
  have rx0 : RowT Try.prog 29 vx0.length := by rw [polX_len hy0]; exact rowIPol
  have on0 := polX_one hy0
  have ln0 := hide (polX_len hy0)
  have hbn0 := bnew wx0 (.cells vx0.toArray 29)
  have X0 := Held.new wx0 vx0 29
  have P0 := P0.keep hbn0
  have hy0 := (polX_keeps _ _ _ None1 _ _ (Below.turn hbn0) none_off hy0)
  have BB5 := bthen BB4 hbn0
  clear hbn0
  go_upto_region 7 with (first | (refine wpl_store_new rfl _ _ _ rfl _ vx0 rfl rfl ?_ on0 rx0 ?_; (rw [unhide ln0]; rfl)))
  generalize hWx : World.alloc wx0 _ = wy0 at *
  clear hWx
  go_wp2_with (first | (refine wpl_load rfl 24 _ rfl _ 0 rfl cs0 P0.inB r0 ?_) | (refine wpl_load rfl 29 _ rfl _ 0 rfl vx0 X0.inB rx0 ?_))
  refine (implPolOk x0 _ vx0 _ hy0 hbk0).mono ?_
  rintro e wg ⟨rfl, hbg⟩
  have BB6 := bthen BB5 hbg
  have P0 := P0.keep hbg
  have X0 := X0.keep hbg
  have hy0 := (polX_keeps _ _ _ None1 _ _ (Below.turn hbg) none_off hy0)
  clear hbg
  go_upto_region 10 with (first | (refine wpl_load rfl 24 _ rfl _ 0 rfl cs0 P0.inB r0 ?_) | (refine wpl_load rfl 29 _ rfl _ 0 rfl vx0 X0.inB rx0 ?_))
  go_cut [26] from 22 to 25 (fun s wc0 => s = .bool false ∧ Below wg.heap.size wg wc0)
  case first =>
    refine wp_region_held_drew (S := fun w' => Below wg.heap.size wg w') (by kernel_rfl) (Below.drew (Below.refl _ _)) (fun hHeld => ?_)
    refine wpAnyH_take (i := 0) (oi := ?oo1) (v := .agg vx0.toArray) ?hi1 (by kernel_rfl) (by kernel_rfl) (by kernel_rfl) ?hQ1 ?hy1 (by assumption) ?rest1
    case hi1 => (simp only [List.getElem?_toArray, List.getElem?_cons_zero]; rfl)
    case hQ1 => exact fun _ _ _ h => h
    case hy1 => exact yld_load (by rfl) _ _ rfl _ 0 rfl vx0 (fun w' hS => (X0.keep hS).inB) rx0
    try simp only [Act.put, List.setIfInBounds_toArray, List.set_cons_zero, List.set_cons_succ]
    refine wpAnyH_take (i := 1) (oi := ?oo2) (v := .agg cs0.toArray) ?hi2 (by kernel_rfl) (by kernel_rfl) (by kernel_rfl) ?hQ2 ?hy2 (by assumption) ?rest2
    case hi2 => (simp only [List.getElem?_toArray, List.getElem?_cons_zero, List.getElem?_cons_succ]; rfl)
    case hQ2 => exact fun _ _ _ h => h
    case hy2 => exact yld_load (by rfl) _ _ rfl _ 0 rfl cs0 (fun w' hS => (P0.keep hS).inB) r0
    try simp only [Act.put, List.setIfInBounds_toArray, List.set_cons_zero, List.set_cons_succ]
    refine wpAnyH_ready (rs := [2]) (by kernel_rfl) (by simp) ?_
    refine (AllReadyH.cons (o := ?bo3n2) ?bh3n2 (fun K hK => ?br3n2) AllReadyH.nil)
    case bh3n2 => (simp only [List.getElem?_toArray, List.getElem?_cons_zero, List.getElem?_cons_succ]; rfl)
    case br3n2 =>
      go_simp
      refine (mToPol x0 All1 cs0 _ hbk0 (polR_keeps _ _ _ None1 _ _ (Below.turn (bthen BB6 hHeld)) none_off (unhide HR0))).mono ?_
      rintro e we ⟨ve, rfl, ye, hbe⟩
      have hye := (polO_read _ _ _ _ ye)
      have hHe := bthen hHeld hbe
      clear ye hHeld hbe
      go_wp2_with fail
      refine hK.out _ _ (hHe) (fun hHeld => ?_)
      clear hK
      refine wpAnyH_ready (rs := [3]) (by kernel_rfl) (by simp) ?_
      refine (AllReadyH.cons (o := ?bo4n3) ?bh4n3 (fun K hK => ?br4n3) AllReadyH.nil)
      case bh4n3 => (simp only [List.getElem?_toArray, List.getElem?_cons_zero, List.getElem?_cons_succ]; rfl)
      case br4n3 =>
        go_simp
        refine (mEqPol x0 _ _ vx0 ve _ (polX_read _ _ _ _ (polX_keeps _ _ _ None1 _ _ (Below.turn hHeld) none_off hy0)) hye).mono ?_
        rintro e wf ⟨rfl, hbf⟩
        have hHf := bthen hHeld hbf
        clear hye hHeld hbf
        go_wp2_with fail
        refine hK.out _ _ (hHf) (fun hHeld => ?_)
        clear hK
        refine wpAnyH_take (i := 4) (oi := ?oo5) (v := ?vv5) ?hi5 (by kernel_rfl) (by kernel_rfl) (by kernel_rfl) ?hQ5 ?hy5 (by assumption) ?rest5
        case hi5 => (simp only [List.getElem?_toArray, List.getElem?_cons_zero, List.getElem?_cons_succ]; rfl)
        case hQ5 => exact fun _ _ _ h => h
        case hy5 => exact Or.inl ⟨by rfl, by intro wS hSw; (try dsimp only at hSw); go_simp; try first | (with_reducible rfl) | (simp only [*]; done)⟩
        try simp only [Act.put, List.setIfInBounds_toArray, List.set_cons_zero, List.set_cons_succ]
        refine wpAnyH_done (by kernel_rfl) ?_ _
        go_wp2_with fail
        go_meet
        exact ⟨rfl, hHeld⟩
  case rest =>
  obtain ⟨rfl, hbc⟩ := hcut
  have BB7 := bthen BB6 hbc
  have P0 := P0.keep hbc
  have X0 := X0.keep hbc
  clear hbc
  go_wp2
  go_ret
  exact ⟨rfl, BB7⟩

set_option maxRecDepth 100000 in
theorem lifted (os : Os) (started : os.Started) (H : Type) (enc : TypeId × Value → H) :
    ReturnsInHanded {} Try.checked os 6 .any (Rows.fnExactPolOkSpec.pre6 enc Try.prog Try.f6 Rows.fnExactPolOkRow.domain false) (Rows.fnExactPolOkSpec.post enc Try.prog Try.f6 false true false false) := by
  refine returnsInHanded_of_change (C := Try.checked) own started (by kernel_rfl) Try.func6
    (ChangeSpec.witness6 (enc := enc) (C := Try.checked) false ⟨#[], #[.agg #[.int .i64 0, .int .i64 0, .string ⟨#[]⟩, .string ⟨#[]⟩, .slice none 0 0]], []⟩ 8 (by kernel_rfl) (by kernel_rfl) (by kernel_rfl) (by kernel_rfl)) ?_
  intro W base args ds gs before hval0 hW hcnd _
  have hval : ∀ (j : Nat) t v, Try.f6.params[j]? = some t → args[j]? = some v → Value.okWide Try.prog W .any base t v := hval0
  have hW' := hW
  obtain ⟨p, q, hA0, hV, rfl, hfz, hnd⟩ := hW
  have hA : DataW.TrodAll enc Try.prog W 0 (fun _ => true) true Try.f6.params.toList args.toList ds p := hA0
  rw [Try.params6] at hA hval
  obtain ⟨v0, vs0, d0, ds0, p0, q0, hargs0, rfl, rfl, k0, r0⟩ := trodAll_cons hA
  obtain ⟨rfl, rfl, rfl⟩ := trodAll_nil r0
  obtain rfl : args = #[v0] := by cases args; simp_all
  obtain ⟨rfl, rfl⟩ := trodVars_none hV
  have lt0 : ∀ x ∈ p0, x.block < W.heap.size := by obtain ⟨m, hm⟩ := k0; exact DataW.trod_lt m _ _ _ hm
  have h0 : AtPol W v0 := openAtPol (hval 0 _ v0 rfl rfl) k0
  clear hA0 hval0
  refine (walk v0 W h0).mono fun e W' ⟨he, bel⟩ => ?_
  subst he
  exact ⟨_, rfl, _, _, _, [], _, [], hW', trodAll_mk1 (shut_bool Try.underlying4 _), (trodAll_cons_mk (Below.trod laidOut (by kernel_rfl) (of_decide_eq_true (by kernel_rfl)) k0 bel lt0) trodAll_mk0), rfl, bel.frame _, fun h => by cases h⟩

theorem over : Rows.fnExactPolOkRow.holds Try.pinned (OpenSpec.ofChange Rows.fnExactPolOkSpec) :=
  OpenClaim.holds_of_wide 6 Try.f6 rfl rfl rfl rfl rfl rfl rfl ⟨rfl, rfl, rfl, rfl, rfl⟩ rfl rfl rfl rfl rfl (by kernel_rfl) Try.func6 (by kernel_rfl)
    (of_decide_eq_true (by kernel_rfl)) (by unfold Func.isWrapper; first | (rw [if_pos (by decide +kernel)]; kernel_rfl) | (rw [if_neg (by decide +kernel)]; exact ⟨rfl, rfl⟩))
    (fun os started H enc _ => lifted os started H enc)

/-- The statement. -/
theorem proved : Rows.FnExactPolOkSaid := over
#print axioms proved
end Go.Proofs.Ytlhjhnjpmafceaa.fnExactPolOk
