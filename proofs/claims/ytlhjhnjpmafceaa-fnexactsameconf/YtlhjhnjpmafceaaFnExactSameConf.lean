/-
  Proved: at all arguments the program's SameConf answers as the specification's, and leaves what it is given alone; no condition.
-/
import Derived.Test.YtlhjhnjpmafceaaRows
import Derived.Test.YtlhjhnjpmafceaaOConf
import Derived.Test.YtlhjhnjpmafceaaSCf1
import Derived.WalkKit
import Derived.ProofKit
import Derived.OpenShut
import Derived.ShutString
import Derived.ChangeOld
import Derived.Below
import Derived.Deep.CutRange
namespace Go.Proofs.Ytlhjhnjpmafceaa.fnExactSameConf
open Go.ChangeShapes Go.WideShapes Go.ChangeAt Go.RowKit
set_option linter.unusedVariables false
set_option maxRecDepth 100000


theorem laidOut : laidOutB Try.prog = true := by kernel_rfl

set_option maxHeartbeats 4000000 in
theorem walk (v0 v1 : Value) (w : World) (h0 : AtConf w v0) (h1 : AtConf w v1) :
    Calls Try.prog 8 #[v0, v1] w fun e w' => e = .returned (.bool true) ∧ Below w.heap.size w w' := by
  obtain ⟨cs0, x0, rfl, hx0⟩ := h0
  have HR0 := hide hx0
  have r0 : RowT Try.prog 43 cs0.length := by rw [confR_len hx0]; exact rowLConf
  clear hx0
  obtain ⟨cs1, x1, rfl, hx1⟩ := h1
  have HR1 := hide hx1
  have r1 : RowT Try.prog 43 cs1.length := by rw [confR_len hx1]; exact rowLConf
  clear hx1
  have P0 := Held.new w cs0 43
  have P1 := Held.new (w.alloc (.cells cs0.toArray 43)) cs1 43
  have P0 := P0.keep (bnew (w.alloc (.cells cs0.toArray 43)) (.cells cs1.toArray 43))
  have B0 : Below w.heap.size w ((w.alloc (.cells cs0.toArray 43)).alloc (.cells cs1.toArray 43)) := bthen (bnew w (.cells cs0.toArray 43)) (bnew (w.alloc (.cells cs0.toArray 43)) (.cells cs1.toArray 43))
  rw [show (w.alloc (.cells cs0.toArray 43)).heap.size = w.heap.size + 1 by simp] at P1
  go_enter Try.func8, Try.ntmps8
  go_upto_region 1 with fail
  generalize hW0 : World.alloc (World.alloc w _) _ = w0 at *
  clear hW0
  go_wp2_with (first | (refine wpl_load rfl 43 _ rfl _ 0 rfl cs0 P0.inB r0 ?_) | (refine wpl_load rfl 43 _ rfl _ 0 rfl cs1 P1.inB r1 ?_))
  refine (mSzConf x0 All1 cs0 1048576 _ (by omega) (by omega) (confR_keeps _ _ _ None1 _ _ (Below.turn (B0)) none_off (unhide HR0))).mono ?_
  rintro e wz0 ⟨⟨z0, rfl, hz0⟩, hb⟩
  have HZ0 := hide hz0
  clear hz0
  have BB1 := bthen B0 hb
  have P0 := P0.keep hb
  have P1 := P1.keep hb
  clear hb
  by_cases hneg0 : z0 < 0
  · go_wp2
    go_ret
    exact ⟨rfl, BB1⟩
  have hzz0 : 0 ≤ z0 ∧ z0 + confBulk x0 ≤ 1048576 := by rcases unhide HZ0 with h | h <;> omega
  clear HZ0
  go_wp2_with (first | (refine wpl_load rfl 43 _ rfl _ 0 rfl cs0 P0.inB r0 ?_) | (refine wpl_load rfl 43 _ rfl _ 0 rfl cs1 P1.inB r1 ?_))
  refine (mSzConf x1 All1 cs1 z0 _ (by omega) (by omega) (confR_keeps _ _ _ None1 _ _ (Below.turn (BB1)) none_off (unhide HR1))).mono ?_
  rintro e wz1 ⟨⟨z1, rfl, hz1⟩, hb⟩
  have HZ1 := hide hz1
  clear hz1
  have BB2 := bthen BB1 hb
  have P0 := P0.keep hb
  have P1 := P1.keep hb
  clear hb
  by_cases hneg1 : z1 < 0
  · go_wp2
    go_ret
    exact ⟨rfl, BB2⟩
  have hzz1 : 0 ≤ z1 ∧ z1 + confBulk x1 ≤ z0 := by rcases unhide HZ1 with h | h <;> omega
  clear HZ1
  have hbk0 : confBulk x0 ≤ 1048576 := by omega
  have hbk1 : confBulk x1 ≤ 1048576 := by omega
  clear hzz0 hzz1
  go_upto_region 8 with (first | (refine wpl_load rfl 43 _ rfl _ 0 rfl cs0 P0.inB r0 ?_) | (refine wpl_load rfl 43 _ rfl _ 0 rfl cs1 P1.inB r1 ?_))
  go_cut [6] from 20 to 24 (fun s wcs => s = .bool (@decide (SameC x0 x1) (Classical.propDecidable _)) ∧ Below wz1.heap.size wz1 wcs)
  case first =>
    refine wp_region_held_drew (S := fun w' => Below wz1.heap.size wz1 w') (by kernel_rfl) (Below.drew (Below.refl _ _)) (fun hHeld => ?_)
    refine wpAnyH_take (i := 0) (oi := ?oo1) (v := .agg cs0.toArray) ?hi1 (by kernel_rfl) (by kernel_rfl) (by kernel_rfl) ?hQ1 ?hy1 (by assumption) ?rest1
    case hi1 => (simp only [List.getElem?_toArray, List.getElem?_cons_zero]; rfl)
    case hQ1 => exact fun _ _ _ h => h
    case hy1 => exact yld_load (by rfl) _ _ rfl _ 0 rfl cs0 (fun w' hS => (P0.keep hS).inB) r0
    try simp only [Act.put, List.setIfInBounds_toArray, List.set_cons_zero, List.set_cons_succ]
    refine wpAnyH_take (i := 2) (oi := ?oo2) (v := .agg cs1.toArray) ?hi2 (by kernel_rfl) (by kernel_rfl) (by kernel_rfl) ?hQ2 ?hy2 (by assumption) ?rest2
    case hi2 => (simp only [List.getElem?_toArray, List.getElem?_cons_zero, List.getElem?_cons_succ]; rfl)
    case hQ2 => exact fun _ _ _ h => h
    case hy2 => exact yld_load (by rfl) _ _ rfl _ 0 rfl cs1 (fun w' hS => (P1.keep hS).inB) r1
    try simp only [Act.put, List.setIfInBounds_toArray, List.set_cons_zero, List.set_cons_succ]
    refine wpAnyH_ready (rs := [1]) (by kernel_rfl) (by simp) ?_
    refine (AllReadyH.cons (o := ?bo3n1) ?bh3n1 (fun K hK => ?br3n1) AllReadyH.nil)
    case bh3n1 => (simp only [List.getElem?_toArray, List.getElem?_cons_zero, List.getElem?_cons_succ]; rfl)
    case br3n1 =>
      go_simp
      refine (mToConf x0 All1 cs0 _ hbk0 (confR_keeps _ _ _ None1 _ _ (Below.turn (bthen BB2 hHeld)) none_off (unhide HR0))).mono ?_
      rintro e wr0 ⟨vr0, rfl, yy0, hbr0⟩
      have hyr0 := (confO_read _ _ _ _ yy0)
      have hH0 := bthen hHeld hbr0
      clear yy0 hHeld
      go_wp2_with fail
      refine hK.out _ _ (hH0) (fun hHeld => ?_)
      clear hK
      refine wpAnyH_ready (rs := [3]) (by kernel_rfl) (by simp) ?_
      refine (AllReadyH.cons (o := ?bo4n3) ?bh4n3 (fun K hK => ?br4n3) AllReadyH.nil)
      case bh4n3 => (simp only [List.getElem?_toArray, List.getElem?_cons_zero, List.getElem?_cons_succ]; rfl)
      case br4n3 =>
        go_simp
        refine (mToConf x1 All1 cs1 _ hbk1 (confR_keeps _ _ _ None1 _ _ (Below.turn (bthen BB2 hHeld)) none_off (unhide HR1))).mono ?_
        rintro e wr1 ⟨vr1, rfl, yy1, hbr1⟩
        have hyr1 := (confO_read _ _ _ _ yy1)
        have hyr0 := (confR_keeps _ _ _ None1 _ _ (Below.turn hbr1) none_off hyr0)
        have hH1 := bthen hHeld hbr1
        clear yy1 hHeld
        go_wp2_with fail
        refine hK.out _ _ (hH1) (fun hHeld => ?_)
        clear hK
        refine wpAnyH_ready (rs := [4]) (by kernel_rfl) (by simp) ?_
        refine (AllReadyH.cons (o := ?bo5n4) ?bh5n4 (fun K hK => ?br5n4) AllReadyH.nil)
        case bh5n4 => (simp only [List.getElem?_toArray, List.getElem?_cons_zero, List.getElem?_cons_succ]; rfl)
        case br5n4 =>
          go_simp
          refine (specSameConf x0 x1 _ vr0 _ vr1 _ hyr0 hbk0 hyr1 hbk1).mono ?_
          rintro e ws ⟨rfl, hbs⟩
          have hHs := bthen hHeld hbs
          clear hHeld
          go_wp2_with fail
          refine hK.out _ _ (hHs) (fun hHeld => ?_)
          clear hK
          refine wpAnyH_take (i := 5) (oi := ?oo6) (v := ?vv6) ?hi6 (by kernel_rfl) (by kernel_rfl) (by kernel_rfl) ?hQ6 ?hy6 (by assumption) ?rest6
          case hi6 => (simp only [List.getElem?_toArray, List.getElem?_cons_zero, List.getElem?_cons_succ]; rfl)
          case hQ6 => exact fun _ _ _ h => h
          case hy6 => exact Or.inl ⟨by rfl, by intro wS hSw; (try dsimp only at hSw); go_simp; try first | (with_reducible rfl) | (simp only [*]; done)⟩
          try simp only [Act.put, List.setIfInBounds_toArray, List.set_cons_zero, List.set_cons_succ]
          refine wpAnyH_done (by kernel_rfl) ?_ _
          go_wp2_with fail
          go_meet
          exact ⟨rfl, hHeld⟩
  case rest =>
  obtain ⟨rfl, hbs⟩ := hcut
  have BB3 := bthen BB2 hbs
  have P0 := P0.keep hbs
  have P1 := P1.keep hbs
  clear hbs
  go_wp2_with (first | (refine wpl_load rfl 43 _ rfl _ 0 rfl cs0 P0.inB r0 ?_) | (refine wpl_load rfl 43 _ rfl _ 0 rfl cs1 P1.inB r1 ?_))
  refine (mToConf x0 All1 cs0 _ hbk0 (confR_keeps _ _ _ None1 _ _ (Below.turn (BB3)) none_off (unhide HR0))).mono ?_
  rintro e wx0 ⟨vx0, rfl, yx0, hbx0⟩
  have hy0 := confO_X _ _ _ _ yx0
  have BB4 := bthen BB3 hbx0
  have P0 := P0.keep hbx0
  have P1 := P1.keep hbx0
  clear yx0 hbx0
  have rx0 : RowT Try.prog 47 vx0.length := by rw [confX_len hy0]; exact rowIConf
  have on0 := confX_one hy0
  have ln0 := hide (confX_len hy0)
  have hbn0 := bnew wx0 (.cells vx0.toArray 47)
  have X0 := Held.new wx0 vx0 47
  have P0 := P0.keep hbn0
  have P1 := P1.keep hbn0
  have hy0 := (confX_keeps _ _ _ None1 _ _ (Below.turn hbn0) none_off hy0)
  have BB5 := bthen BB4 hbn0
  clear hbn0
  go_upto_region 10 with (first | (refine wpl_store_new rfl _ _ _ rfl _ vx0 rfl rfl ?_ on0 rx0 ?_; (rw [unhide ln0]; rfl)))
  generalize hWx : World.alloc wx0 _ = wy0 at *
  clear hWx
  go_wp2_with (first | (refine wpl_load rfl 43 _ rfl _ 0 rfl cs0 P0.inB r0 ?_) | (refine wpl_load rfl 43 _ rfl _ 0 rfl cs1 P1.inB r1 ?_) | (refine wpl_load rfl 47 _ rfl _ 0 rfl vx0 X0.inB rx0 ?_))
  refine (mToConf x1 All1 cs1 _ hbk1 (confR_keeps _ _ _ None1 _ _ (Below.turn (BB5)) none_off (unhide HR1))).mono ?_
  rintro e wx1 ⟨vx1, rfl, yx1, hbx1⟩
  have hy1 := confO_X _ _ _ _ yx1
  have BB6 := bthen BB5 hbx1
  have P0 := P0.keep hbx1
  have P1 := P1.keep hbx1
  have X0 := X0.keep hbx1
  have hy0 := (confX_keeps _ _ _ None1 _ _ (Below.turn hbx1) none_off hy0)
  clear yx1 hbx1
  have rx1 : RowT Try.prog 47 vx1.length := by rw [confX_len hy1]; exact rowIConf
  have on1 := confX_one hy1
  have ln1 := hide (confX_len hy1)
  have hbn1 := bnew wx1 (.cells vx1.toArray 47)
  have X1 := Held.new wx1 vx1 47
  have P0 := P0.keep hbn1
  have P1 := P1.keep hbn1
  have X0 := X0.keep hbn1
  have hy0 := (confX_keeps _ _ _ None1 _ _ (Below.turn hbn1) none_off hy0)
  have hy1 := (confX_keeps _ _ _ None1 _ _ (Below.turn hbn1) none_off hy1)
  have BB7 := bthen BB6 hbn1
  clear hbn1
  go_upto_region 11 with (first | (refine wpl_store_new rfl _ _ _ rfl _ vx1 rfl rfl ?_ on1 rx1 ?_; (rw [unhide ln1]; rfl)))
  generalize hWx : World.alloc wx1 _ = wy1 at *
  clear hWx
  go_wp2_with (first | (refine wpl_load rfl 43 _ rfl _ 0 rfl cs0 P0.inB r0 ?_) | (refine wpl_load rfl 43 _ rfl _ 0 rfl cs1 P1.inB r1 ?_) | (refine wpl_load rfl 47 _ rfl _ 0 rfl vx0 X0.inB rx0 ?_) | (refine wpl_load rfl 47 _ rfl _ 0 rfl vx1 X1.inB rx1 ?_))
  refine (implSameConf x0 x1 _ vx0 _ vx1 _ hy0 hbk0 hy1 hbk1).mono ?_
  rintro e wg ⟨rfl, hbg⟩
  have BB8 := bthen BB7 hbg
  have P0 := P0.keep hbg
  have P1 := P1.keep hbg
  have X0 := X0.keep hbg
  have X1 := X1.keep hbg
  have hy0 := (confX_keeps _ _ _ None1 _ _ (Below.turn hbg) none_off hy0)
  have hy1 := (confX_keeps _ _ _ None1 _ _ (Below.turn hbg) none_off hy1)
  clear hbg
  go_upto_region 14 with (first | (refine wpl_load rfl 43 _ rfl _ 0 rfl cs0 P0.inB r0 ?_) | (refine wpl_load rfl 43 _ rfl _ 0 rfl cs1 P1.inB r1 ?_) | (refine wpl_load rfl 47 _ rfl _ 0 rfl vx0 X0.inB rx0 ?_) | (refine wpl_load rfl 47 _ rfl _ 0 rfl vx1 X1.inB rx1 ?_))
  go_cut [39] from 35 to 38 (fun s wc0 => s = .bool false ∧ Below wg.heap.size wg wc0)
  case first =>
    refine wp_region_held_drew (S := fun w' => Below wg.heap.size wg w') (by kernel_rfl) (Below.drew (Below.refl _ _)) (fun hHeld => ?_)
    refine wpAnyH_take (i := 0) (oi := ?oo7) (v := .agg vx0.toArray) ?hi7 (by kernel_rfl) (by kernel_rfl) (by kernel_rfl) ?hQ7 ?hy7 (by assumption) ?rest7
    case hi7 => (simp only [List.getElem?_toArray, List.getElem?_cons_zero]; rfl)
    case hQ7 => exact fun _ _ _ h => h
    case hy7 => exact yld_load (by rfl) _ _ rfl _ 0 rfl vx0 (fun w' hS => (X0.keep hS).inB) rx0
    try simp only [Act.put, List.setIfInBounds_toArray, List.set_cons_zero, List.set_cons_succ]
    refine wpAnyH_take (i := 1) (oi := ?oo8) (v := .agg cs0.toArray) ?hi8 (by kernel_rfl) (by kernel_rfl) (by kernel_rfl) ?hQ8 ?hy8 (by assumption) ?rest8
    case hi8 => (simp only [List.getElem?_toArray, List.getElem?_cons_zero, List.getElem?_cons_succ]; rfl)
    case hQ8 => exact fun _ _ _ h => h
    case hy8 => exact yld_load (by rfl) _ _ rfl _ 0 rfl cs0 (fun w' hS => (P0.keep hS).inB) r0
    try simp only [Act.put, List.setIfInBounds_toArray, List.set_cons_zero, List.set_cons_succ]
    refine wpAnyH_ready (rs := [2]) (by kernel_rfl) (by simp) ?_
    refine (AllReadyH.cons (o := ?bo9n2) ?bh9n2 (fun K hK => ?br9n2) AllReadyH.nil)
    case bh9n2 => (simp only [List.getElem?_toArray, List.getElem?_cons_zero, List.getElem?_cons_succ]; rfl)
    case br9n2 =>
      go_simp
      refine (mToConf x0 All1 cs0 _ hbk0 (confR_keeps _ _ _ None1 _ _ (Below.turn (bthen BB8 hHeld)) none_off (unhide HR0))).mono ?_
      rintro e we ⟨ve, rfl, ye, hbe⟩
      have hye := (confO_read _ _ _ _ ye)
      have hHe := bthen hHeld hbe
      clear ye hHeld hbe
      go_wp2_with fail
      refine hK.out _ _ (hHe) (fun hHeld => ?_)
      clear hK
      refine wpAnyH_ready (rs := [3]) (by kernel_rfl) (by simp) ?_
      refine (AllReadyH.cons (o := ?bo10n3) ?bh10n3 (fun K hK => ?br10n3) AllReadyH.nil)
      case bh10n3 => (simp only [List.getElem?_toArray, List.getElem?_cons_zero, List.getElem?_cons_succ]; rfl)
      case br10n3 =>
        go_simp
        refine (mEqConf x0 _ _ vx0 ve _ (confX_read _ _ _ _ (confX_keeps _ _ _ None1 _ _ (Below.turn hHeld) none_off hy0)) hye).mono ?_
        rintro e wf ⟨rfl, hbf⟩
        have hHf := bthen hHeld hbf
        clear hye hHeld hbf
        go_wp2_with fail
        refine hK.out _ _ (hHf) (fun hHeld => ?_)
        clear hK
        refine wpAnyH_take (i := 4) (oi := ?oo11) (v := ?vv11) ?hi11 (by kernel_rfl) (by kernel_rfl) (by kernel_rfl) ?hQ11 ?hy11 (by assumption) ?rest11
        case hi11 => (simp only [List.getElem?_toArray, List.getElem?_cons_zero, List.getElem?_cons_succ]; rfl)
        case hQ11 => exact fun _ _ _ h => h
        case hy11 => exact Or.inl ⟨by rfl, by intro wS hSw; (try dsimp only at hSw); go_simp; try first | (with_reducible rfl) | (simp only [*]; done)⟩
        try simp only [Act.put, List.setIfInBounds_toArray, List.set_cons_zero, List.set_cons_succ]
        refine wpAnyH_done (by kernel_rfl) ?_ _
        go_wp2_with fail
        go_meet
        exact ⟨rfl, hHeld⟩
  case rest =>
  obtain ⟨rfl, hbc⟩ := hcut
  have BB9 := bthen BB8 hbc
  have P0 := P0.keep hbc
  have P1 := P1.keep hbc
  have X0 := X0.keep hbc
  have X1 := X1.keep hbc
  have hy1 := (confX_keeps _ _ _ None1 _ _ (Below.turn hbc) none_off hy1)
  clear hbc
  go_upto_region 16 with (first | (refine wpl_load rfl 43 _ rfl _ 0 rfl cs0 P0.inB r0 ?_) | (refine wpl_load rfl 43 _ rfl _ 0 rfl cs1 P1.inB r1 ?_) | (refine wpl_load rfl 47 _ rfl _ 0 rfl vx0 X0.inB rx0 ?_) | (refine wpl_load rfl 47 _ rfl _ 0 rfl vx1 X1.inB rx1 ?_))
  go_cut [44] from 40 to 43 (fun s wc1 => s = .bool false ∧ Below wc.heap.size wc wc1)
  case first =>
    refine wp_region_held_drew (S := fun w' => Below wc.heap.size wc w') (by kernel_rfl) (Below.drew (Below.refl _ _)) (fun hHeld => ?_)
    refine wpAnyH_take (i := 0) (oi := ?oo12) (v := .agg vx1.toArray) ?hi12 (by kernel_rfl) (by kernel_rfl) (by kernel_rfl) ?hQ12 ?hy12 (by assumption) ?rest12
    case hi12 => (simp only [List.getElem?_toArray, List.getElem?_cons_zero]; rfl)
    case hQ12 => exact fun _ _ _ h => h
    case hy12 => exact yld_load (by rfl) _ _ rfl _ 0 rfl vx1 (fun w' hS => (X1.keep hS).inB) rx1
    try simp only [Act.put, List.setIfInBounds_toArray, List.set_cons_zero, List.set_cons_succ]
    refine wpAnyH_take (i := 1) (oi := ?oo13) (v := .agg cs1.toArray) ?hi13 (by kernel_rfl) (by kernel_rfl) (by kernel_rfl) ?hQ13 ?hy13 (by assumption) ?rest13
    case hi13 => (simp only [List.getElem?_toArray, List.getElem?_cons_zero, List.getElem?_cons_succ]; rfl)
    case hQ13 => exact fun _ _ _ h => h
    case hy13 => exact yld_load (by rfl) _ _ rfl _ 0 rfl cs1 (fun w' hS => (P1.keep hS).inB) r1
    try simp only [Act.put, List.setIfInBounds_toArray, List.set_cons_zero, List.set_cons_succ]
    refine wpAnyH_ready (rs := [2]) (by kernel_rfl) (by simp) ?_
    refine (AllReadyH.cons (o := ?bo14n2) ?bh14n2 (fun K hK => ?br14n2) AllReadyH.nil)
    case bh14n2 => (simp only [List.getElem?_toArray, List.getElem?_cons_zero, List.getElem?_cons_succ]; rfl)
    case br14n2 =>
      go_simp
      refine (mToConf x1 All1 cs1 _ hbk1 (confR_keeps _ _ _ None1 _ _ (Below.turn (bthen BB9 hHeld)) none_off (unhide HR1))).mono ?_
      rintro e we ⟨ve, rfl, ye, hbe⟩
      have hye := (confO_read _ _ _ _ ye)
      have hHe := bthen hHeld hbe
      clear ye hHeld hbe
      go_wp2_with fail
      refine hK.out _ _ (hHe) (fun hHeld => ?_)
      clear hK
      refine wpAnyH_ready (rs := [3]) (by kernel_rfl) (by simp) ?_
      refine (AllReadyH.cons (o := ?bo15n3) ?bh15n3 (fun K hK => ?br15n3) AllReadyH.nil)
      case bh15n3 => (simp only [List.getElem?_toArray, List.getElem?_cons_zero, List.getElem?_cons_succ]; rfl)
      case br15n3 =>
        go_simp
        refine (mEqConf x1 _ _ vx1 ve _ (confX_read _ _ _ _ (confX_keeps _ _ _ None1 _ _ (Below.turn hHeld) none_off hy1)) hye).mono ?_
        rintro e wf ⟨rfl, hbf⟩
        have hHf := bthen hHeld hbf
        clear hye hHeld hbf
        go_wp2_with fail
        refine hK.out _ _ (hHf) (fun hHeld => ?_)
        clear hK
        refine wpAnyH_take (i := 4) (oi := ?oo16) (v := ?vv16) ?hi16 (by kernel_rfl) (by kernel_rfl) (by kernel_rfl) ?hQ16 ?hy16 (by assumption) ?rest16
        case hi16 => (simp only [List.getElem?_toArray, List.getElem?_cons_zero, List.getElem?_cons_succ]; rfl)
        case hQ16 => exact fun _ _ _ h => h
        case hy16 => exact Or.inl ⟨by rfl, by intro wS hSw; (try dsimp only at hSw); go_simp; try first | (with_reducible rfl) | (simp only [*]; done)⟩
        try simp only [Act.put, List.setIfInBounds_toArray, List.set_cons_zero, List.set_cons_succ]
        refine wpAnyH_done (by kernel_rfl) ?_ _
        go_wp2_with fail
        go_meet
        exact ⟨rfl, hHeld⟩
  case rest =>
  obtain ⟨rfl, hbc⟩ := hcut
  have BB10 := bthen BB9 hbc
  have P0 := P0.keep hbc
  have P1 := P1.keep hbc
  have X0 := X0.keep hbc
  have X1 := X1.keep hbc
  clear hbc
  go_wp2
  go_ret
  exact ⟨rfl, BB10⟩

set_option maxRecDepth 100000 in
theorem lifted (os : Os) (started : os.Started) (H : Type) (enc : TypeId × Value → H) :
    ReturnsInHanded {} Try.checked os 8 .any (Rows.fnExactSameConfSpec.pre6 enc Try.prog Try.f8 Rows.fnExactSameConfRow.domain false) (Rows.fnExactSameConfSpec.post enc Try.prog Try.f8 false true false false) := by
  refine returnsInHanded_of_change (C := Try.checked) own started (by kernel_rfl) Try.func8
    (ChangeSpec.witness6 (enc := enc) (C := Try.checked) false ⟨#[], #[.agg #[.int .i64 0, .int .i64 0, .int .i64 0, .int .i64 0, .int .i64 0, .int .i64 0, .int .i64 0, .int .i64 0, .int .i64 0, .string ⟨#[]⟩, .string ⟨#[]⟩, .slice none 0 0], .agg #[.int .i64 0, .int .i64 0, .int .i64 0, .int .i64 0, .int .i64 0, .int .i64 0, .int .i64 0, .int .i64 0, .int .i64 0, .string ⟨#[]⟩, .string ⟨#[]⟩, .slice none 0 0]], []⟩ 8 (by kernel_rfl) (by kernel_rfl) (by kernel_rfl) (by kernel_rfl)) ?_
  intro W base args ds gs before hval0 hW hcnd _
  have hval : ∀ (j : Nat) t v, Try.f8.params[j]? = some t → args[j]? = some v → Value.okWide Try.prog W .any base t v := hval0
  have hW' := hW
  obtain ⟨p, q, hA0, hV, rfl, hfz, hnd⟩ := hW
  have hA : DataW.TrodAll enc Try.prog W 0 (fun _ => true) true Try.f8.params.toList args.toList ds p := hA0
  rw [Try.params8] at hA hval
  obtain ⟨v0, vs0, d0, ds0, p0, q0, hargs0, rfl, rfl, k0, r0⟩ := trodAll_cons hA
  obtain ⟨v1, vs1, d1, ds1, p1, q1, rfl, rfl, rfl, k1, r1⟩ := trodAll_cons r0
  obtain ⟨rfl, rfl, rfl⟩ := trodAll_nil r1
  obtain rfl : args = #[v0, v1] := by cases args; simp_all
  obtain ⟨rfl, rfl⟩ := trodVars_none hV
  have lt0 : ∀ x ∈ p0, x.block < W.heap.size := by obtain ⟨m, hm⟩ := k0; exact DataW.trod_lt m _ _ _ hm
  have h0 : AtConf W v0 := openAtConf (hval 0 _ v0 rfl rfl) k0
  have lt1 : ∀ x ∈ p1, x.block < W.heap.size := by obtain ⟨m, hm⟩ := k1; exact DataW.trod_lt m _ _ _ hm
  have h1 : AtConf W v1 := openAtConf (hval 1 _ v1 rfl rfl) k1
  clear hA0 hval0
  refine (walk v0 v1 W h0 h1).mono fun e W' ⟨he, bel⟩ => ?_
  subst he
  exact ⟨_, rfl, _, _, _, [], _, [], hW', trodAll_mk1 (shut_bool Try.underlying4 _), (trodAll_cons_mk (Below.trod laidOut (by kernel_rfl) (of_decide_eq_true (by kernel_rfl)) k0 bel lt0) (trodAll_cons_mk (Below.trod laidOut (by kernel_rfl) (of_decide_eq_true (by kernel_rfl)) k1 bel lt1) trodAll_mk0)), rfl, bel.frame _, fun h => by cases h⟩

theorem over : Rows.fnExactSameConfRow.holds Try.pinned (OpenSpec.ofChange Rows.fnExactSameConfSpec) :=
  OpenClaim.holds_of_wide 8 Try.f8 rfl rfl rfl rfl rfl rfl rfl ⟨rfl, rfl, rfl, rfl, rfl⟩ rfl rfl rfl rfl rfl (by kernel_rfl) Try.func8 (by kernel_rfl)
    (of_decide_eq_true (by kernel_rfl)) (by unfold Func.isWrapper; first | (rw [if_pos (by decide +kernel)]; kernel_rfl) | (rw [if_neg (by decide +kernel)]; exact ⟨rfl, rfl⟩))
    (fun os started H enc _ => lifted os started H enc)

/-- The statement. -/
theorem proved : Rows.FnExactSameConfSaid := over
#print axioms proved
end Go.Proofs.Ytlhjhnjpmafceaa.fnExactSameConf
