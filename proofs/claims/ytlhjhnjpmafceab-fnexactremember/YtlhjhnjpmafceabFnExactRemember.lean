/-
  Proved: at all arguments the program's Remember answers as the specification's, leaves what it is given alone, and its answer owns its memory; no condition.
-/
import Derived.Test.YtlhjhnjpmafceabRows
import Derived.Test.YtlhjhnjpmafceabOVerdict
import Derived.Test.YtlhjhnjpmafceabMVerdict
import Derived.Test.YtlhjhnjpmafceabAVerdict
import Derived.Test.YtlhjhnjpmafceabRem3
import Derived.Test.YtlhjhnjpmafceabRem4
import Derived.WalkKit
import Derived.ProofKit
import Derived.OpenShut
import Derived.ShutString
import Derived.ChangeOld
import Derived.Below
import Derived.Deep.CutRange
namespace Go.Proofs.Ytlhjhnjpmafceab.fnExactRemember
open Go.ChangeShapes Go.WideShapes Go.ChangeAt Go.RowKit
set_option linter.unusedVariables false
set_option maxRecDepth 100000


theorem laidOut : laidOutB Try.prog = true := by kernel_rfl

set_option maxHeartbeats 4000000 in
theorem walk (v0 v1 v2 : Value) (w : World) (h0 : AtVerdictS w v0) (h1 : AtVerdict w v1) (h2 : IsInt w v2) :
    Calls Try.prog 8 #[v0, v1, v2] w fun e w' => e = .returned (.bool true) ∧ Below w.heap.size w w' := by
  obtain ⟨x0, hx0⟩ := h0
  obtain ⟨a0, k0, rfl⟩ := hx0.form
  have HR00 := hide hx0
  clear hx0
  obtain ⟨cs1, x1, rfl, hx1⟩ := h1
  obtain rfl := hx1
  obtain ⟨x2, rfl, hw2⟩ := h2
  have B0 := bnew w (.cells #[.int .i64 x1.trace, .int .i64 x1.stamp, .bool x1.keep] 72)
  have P0 := Held.new w [.int .i64 x1.trace, .int .i64 x1.stamp, .bool x1.keep] 72
  have HR0 := hide ((unhide HR00).keep verdictR_keeps B0)
  go_enter Try.func8, Try.ntmps8
  go_upto_region 1 with fail
  generalize World.alloc w _ = w0 at *
  have BZ : Below w0.heap.size w0 w0 := Below.refl _ _
  go_wp2_with fail
  refine (mSzVerdictS x0 All1 (.slice a0 x0.length k0) 1048576 _ (by omega) (by omega) (unhide HR0)).mono ?_
  rintro e wz0 ⟨⟨z0, rfl, hz0⟩, hb⟩
  have HZ0 := hide hz0
  clear hz0
  have BB1 := bthen BZ hb
  have P0 := P0.keep hb
  have sZ := hb.size
  clear hb
  by_cases hneg0 : z0 < 0
  · go_wp2
    go_ret
    exact ⟨rfl, bthen B0 BB1⟩
  have hbk0 : bulkL verdictBulk x0 ≤ 1048576 := by rcases unhide HZ0 with h | h <;> omega
  clear HZ0
  have pl := P0.1
  go_upto_region 5 with fail
  refine wp_region_held_drew (S := fun w' => Below wz0.heap.size wz0 w') (by kernel_rfl) (Below.drew (Below.refl _ _)) (fun hHeld => ?_)
  refine wpAnyH_take (i := 0) (oi := ?oo1) (v := ?vv1) ?hi1 (by kernel_rfl) (by kernel_rfl) (by kernel_rfl) ?hQ1 ?hy1 (by assumption) ?rest1
  case hi1 => (simp only [List.getElem?_toArray, List.getElem?_cons_zero]; rfl)
  case hQ1 => exact fun _ _ _ h => h
  case hy1 => exact Or.inl ⟨by rfl, by intro wS hSw; (try dsimp only at hSw); go_simp; try first | (with_reducible rfl) | (simp only [*]; done) | omega⟩
  try simp only [Act.put, List.setIfInBounds_toArray, List.set_cons_zero, List.set_cons_succ]
  refine wpAnyH_take (i := 2) (oi := ?oo2) (v := .agg #[.int .i64 x1.trace, .int .i64 x1.stamp, .bool x1.keep]) ?hi2 (by kernel_rfl) (by kernel_rfl) (by kernel_rfl) ?hQ2 ?hy2 (by assumption) ?rest2
  case hi2 => (simp only [List.getElem?_toArray, List.getElem?_cons_zero, List.getElem?_cons_succ]; rfl)
  case hQ2 => exact fun _ _ _ h => h
  case hy2 => exact yld_load (by rfl) _ _ rfl _ 0 rfl [.int .i64 x1.trace, .int .i64 x1.stamp, .bool x1.keep] (fun w' hS => (P0.keep hS).inB) rowLVerdict
  try simp only [Act.put, List.setIfInBounds_toArray, List.set_cons_zero, List.set_cons_succ]
  refine wpAnyH_take (i := 4) (oi := ?oo3) (v := ?vv3) ?hi3 (by kernel_rfl) (by kernel_rfl) (by kernel_rfl) ?hQ3 ?hy3 (by assumption) ?rest3
  case hi3 => (simp only [List.getElem?_toArray, List.getElem?_cons_zero, List.getElem?_cons_succ]; rfl)
  case hQ3 => exact fun _ _ _ h => h
  case hy3 => exact Or.inl ⟨by rfl, by intro wS hSw; (try dsimp only at hSw); go_simp; try first | (with_reducible rfl) | (simp only [*]; done) | omega⟩
  try simp only [Act.put, List.setIfInBounds_toArray, List.set_cons_zero, List.set_cons_succ]
  refine wpAnyH_ready (rs := [1]) (by kernel_rfl) (by simp) ?_
  refine (AllReadyH.cons (o := ?bo4n1) ?bh4n1 (fun K hK => ?br4n1) AllReadyH.nil)
  case bh4n1 => (simp only [List.getElem?_toArray, List.getElem?_cons_zero, List.getElem?_cons_succ]; rfl)
  case br4n1 =>
    go_simp
    refine (mToVerdictS x0 All1 (.slice a0 x0.length k0) _ hbk0 ((unhide HR0).keep verdictR_keeps (bthen BB1 hHeld))).mono ?_
    rintro e wrs ⟨vrs, rfl, yys, hbrs⟩
    obtain ⟨ars, krs, rfl⟩ := yys.form
    have hHs := bthen hHeld hbrs
    have srs := hHeld.size
    clear hHeld hbrs
    go_wp2_with fail
    refine hK.out _ _ (hHs) (fun hHeld => ?_)
    clear hK
    refine wpAnyH_ready (rs := [3]) (by kernel_rfl) (by simp) ?_
    refine (AllReadyH.cons (o := ?bo5n3) ?bh5n3 (fun K hK => ?br5n3) AllReadyH.nil)
    case bh5n3 => (simp only [List.getElem?_toArray, List.getElem?_cons_zero, List.getElem?_cons_succ]; rfl)
    case br5n3 =>
      go_simp
      refine (mToVerdict x1 All1 [.int .i64 x1.trace, .int .i64 x1.stamp, .bool x1.keep] _ (Nat.zero_le _) rfl).mono ?_
      rintro e wqs ⟨cqs, rfl, hqs, hbqs⟩
      obtain rfl := hqs
      have yys := yys.keep verdictO_keeps hbqs
      have hHs := bthen hHeld hbqs
      clear hHeld hbqs
      go_wp2_with fail
      refine hK.out _ _ (hHs) (fun hHeld => ?_)
      clear hK
      refine wpAnyH_ready (rs := [5]) (by kernel_rfl) (by simp) ?_
      refine (AllReadyH.cons (o := ?bo6n5) ?bh6n5 (fun K hK => ?br6n5) AllReadyH.nil)
      case bh6n5 => (simp only [List.getElem?_toArray, List.getElem?_cons_zero, List.getElem?_cons_succ]; rfl)
      case br6n5 =>
        go_simp
        refine (specRemember x0 x1 x2 _ (.slice ars x0.length krs) _ (yys.read verdictR_widens verdictO_read) hbk0).mono ?_
        rintro e ws ⟨vs, rfl, ys, hbs⟩
        have szs := hHeld.size
        have hHs := bthen hHeld hbs
        have sys := hbs.size
        clear hHeld hbs yys
        go_wp2_with fail
        refine hK.out _ _ (hHs) (fun hHeld => ?_)
        clear hK
        refine wpAnyH_take (i := 6) (oi := ?oo7) (v := ?vv7) ?hi7 (by kernel_rfl) (by kernel_rfl) (by kernel_rfl) ?hQ7 ?hy7 (by assumption) ?rest7
        case hi7 => (simp only [List.getElem?_toArray, List.getElem?_cons_zero, List.getElem?_cons_succ]; rfl)
        case hQ7 => exact fun _ _ _ h => h
        case hy7 => exact Or.inl ⟨by rfl, by intro wS hSw; (try dsimp only at hSw); go_simp; try first | (with_reducible rfl) | (simp only [*]; done) | omega⟩
        try simp only [Act.put, List.setIfInBounds_toArray, List.set_cons_zero, List.set_cons_succ]
        refine wpAnyH_take (i := 7) (oi := ?oo8) (v := ?vv8) ?hi8 (by kernel_rfl) (by kernel_rfl) (by kernel_rfl) ?hQ8 ?hy8 (by assumption) ?rest8
        case hi8 => (simp only [List.getElem?_toArray, List.getElem?_cons_zero, List.getElem?_cons_succ]; rfl)
        case hQ8 => exact fun _ _ _ h => h
        case hy8 => exact Or.inl ⟨by rfl, by intro wS hSw; (try dsimp only at hSw); go_simp; try first | (with_reducible rfl) | (simp only [*]; done) | omega⟩
        try simp only [Act.put, List.setIfInBounds_toArray, List.set_cons_zero, List.set_cons_succ]
        refine wpAnyH_take (i := 8) (oi := ?oo9) (v := ?vv9) ?hi9 (by kernel_rfl) (by kernel_rfl) (by kernel_rfl) ?hQ9 ?hy9 (by assumption) ?rest9
        case hi9 => (simp only [List.getElem?_toArray, List.getElem?_cons_zero, List.getElem?_cons_succ]; rfl)
        case hQ9 => exact fun _ _ _ h => h
        case hy9 => exact Or.inl ⟨by rfl, by intro wS hSw; (try dsimp only at hSw); go_simp; try first | (with_reducible rfl) | (simp only [*]; done) | omega⟩
        try simp only [Act.put, List.setIfInBounds_toArray, List.set_cons_zero, List.set_cons_succ]
        refine wpAnyH_take (i := 9) (oi := ?oo10) (v := ?vv10) ?hi10 (by kernel_rfl) (by kernel_rfl) (by kernel_rfl) ?hQ10 ?hy10 (by assumption) ?rest10
        case hi10 => (simp only [List.getElem?_toArray, List.getElem?_cons_zero, List.getElem?_cons_succ]; rfl)
        case hQ10 => exact fun _ _ _ h => h
        case hy10 => exact Or.inl ⟨by rfl, by intro wS hSw; (try dsimp only at hSw); go_simp; try first | (with_reducible rfl) | (simp only [*]; done) | omega⟩
        try simp only [Act.put, List.setIfInBounds_toArray, List.set_cons_zero, List.set_cons_succ]
        refine wpAnyH_take (i := 10) (oi := ?oo11) (v := ?vv11) ?hi11 (by kernel_rfl) (by kernel_rfl) (by kernel_rfl) ?hQ11 ?hy11 (by assumption) ?rest11
        case hi11 => (simp only [List.getElem?_toArray, List.getElem?_cons_zero, List.getElem?_cons_succ]; rfl)
        case hQ11 => exact fun _ _ _ h => h
        case hy11 => exact Or.inl ⟨by rfl, by intro wS hSw; (try dsimp only at hSw); go_simp; try first | (with_reducible rfl) | (simp only [*]; done) | omega⟩
        try simp only [Act.put, List.setIfInBounds_toArray, List.set_cons_zero, List.set_cons_succ]
        refine wpAnyH_done (by kernel_rfl) ?_ _
        have hb := hHeld
        clear hHeld
        have BB2 := bthen BB1 hb
        clear BB1
        have P0 := P0.keep hb
        clear hb
        have hcn : 3 * (remL x0 x1 x2).length ≤ 16777216 := by have h1 := remL_len x0 x1 x2; have h2 := bulkL_len verdictBulk x0; omega
        have hgd : (remG x0 x1 x2 != remG x0 x1 x2) = false := by simp
        generalize hRD : remL x0 x1 x2 = RD at *
        have HRD := hide hRD
        clear hRD
        generalize hGD : remG x0 x1 x2 = GD at *
        have HGD := hide hGD
        clear hGD
        obtain ⟨aS, kS, rfl⟩ := ys.form
        have hs := (ys.read verdictR_widens verdictO_read)
        clear ys
        go_wp2_with fail
        refine (mToVerdictS x0 All1 (.slice a0 x0.length k0) _ hbk0 ((unhide HR0).keep verdictR_keeps BB2)).mono ?_
        rintro e wx0 ⟨vx0, rfl, yx0, hbx0⟩
        obtain ⟨ax0, kx0, rfl⟩ := yx0.form
        have BB3 := bthen BB2 hbx0
        clear BB2
        have hs := hs.keep verdictR_keeps hbx0
        have P0 := P0.keep hbx0
        have sx0 := hbx0.size
        clear hbx0
        go_wp2_with (first | (refine wpl_load rfl 72 _ rfl _ 0 rfl [.int .i64 x1.trace, .int .i64 x1.stamp, .bool x1.keep] P0.inB rowLVerdict ?_))
        refine (mToVerdict x1 All1 [.int .i64 x1.trace, .int .i64 x1.stamp, .bool x1.keep] _ (Nat.zero_le _) rfl).mono ?_
        rintro e wx1 ⟨cx1, rfl, hx1, hbx1⟩
        obtain rfl := hx1
        have BB4 := bthen BB3 hbx1
        clear BB3
        have hs := hs.keep verdictR_keeps hbx1
        have yx0 := yx0.keep verdictO_keeps hbx1
        have P0 := P0.keep hbx1
        have sx1 := hbx1.size
        clear hbx1
        go_wp2_with fail
        refine (implRemember x0 x1 x2 _ (.slice ax0 x0.length kx0) _ (yx0.read verdictR_widens verdictO_read) hbk0).mono ?_
        rintro e wg ⟨vg, rfl, yg, hbg⟩
        rw [unhide HRD] at yg
        rw [unhide HGD]
        obtain ⟨ag, kg, rfl⟩ := yg.form
        have BB5 := bthen BB4 hbg
        clear BB4
        have hs := hs.keep verdictR_keeps hbg
        have yx0 := yx0.keep verdictO_keeps hbg
        have P0 := P0.keep hbg
        have sz2 := hbg.size
        clear hbg
        go_wp2_with fail
        refine (mEqVerdictS RD _ _ (.slice ag RD.length kg) (.slice aS RD.length kS) _ (yg.read verdictR_widens verdictO_read) hs).mono ?_
        rintro e we1 ⟨rfl, hbe1⟩
        have BB6 := bthen BB5 hbe1
        clear BB5
        have hs := hs.keep verdictR_keeps hbe1
        have yx0 := yx0.keep verdictO_keeps hbe1
        have yg := yg.keep verdictO_keeps hbe1
        have P0 := P0.keep hbe1
        have se1 := hbe1.size
        clear hbe1
        go_wp2_with fail
        refine (mToVerdictS x0 All1 (.slice a0 x0.length k0) _ hbk0 ((unhide HR0).keep verdictR_keeps BB6)).mono ?_
        rintro e wt0 ⟨vt0, rfl, yt0, hbt0⟩
        obtain ⟨at0, kt0, rfl⟩ := yt0.form
        have BB7 := bthen BB6 hbt0
        clear BB6
        have hs := hs.keep verdictR_keeps hbt0
        have yx0 := yx0.keep verdictO_keeps hbt0
        have yg := yg.keep verdictO_keeps hbt0
        have P0 := P0.keep hbt0
        have st0 := hbt0.size
        clear hbt0
        go_wp2_with fail
        refine (mEqVerdictS x0 _ _ (.slice ax0 x0.length kx0) (.slice at0 x0.length kt0) _ (yx0.read verdictR_widens verdictO_read) (yt0.read verdictR_widens verdictO_read)).mono ?_
        rintro e wu0 ⟨rfl, hbu0⟩
        have BB8 := bthen BB7 hbu0
        clear BB7
        have hs := hs.keep verdictR_keeps hbu0
        have yx0 := yx0.keep verdictO_keeps hbu0
        have yg := yg.keep verdictO_keeps hbu0
        have P0 := P0.keep hbu0
        have su0 := hbu0.size
        clear hbu0 yt0
        have hcx0 : 3 * x0.length ≤ 33554432 := by have := bulkL_len verdictBulk x0; omega
        go_wp2_with fail
        refine (mMarkVerdictS x0 _ (.slice ax0 x0.length kx0) (1) _ (by omega) (by omega) yx0).mono ?_
        rintro e wm0 ⟨rfl, tm0, ym0⟩
        have hs := hs.turn verdictR_keeps tm0 (fun k hk e => by have h1 := hk.1; have h2 := hk.2; have h3 := e.1; have h4 := e.2; omega)
        have yg := yg.turn verdictO_keeps tm0 (fun k hk e => by have h1 := hk.1; have h2 := hk.2; have h3 := e.1; have h4 := e.2; omega)
        have P0 := P0.turn tm0 (fun e => by have h3 := e.1; have h4 := e.2; omega)
        have BB9 := BB8.trans (tm0.belowFrom BB8.size (fun k hk => by have h1 := hk.1; omega))
        have sm0 := tm0.size
        clear tm0 ym0 yx0
        have hkk : ¬ 1 + 3 * (x0.length : Int) < 0 := by omega
        go_wp2_with fail
        refine (mEqVerdictS RD _ _ (.slice ag RD.length kg) (.slice aS RD.length kS) _ (yg.read verdictR_widens verdictO_read) hs).mono ?_
        rintro e we2 ⟨rfl, hbe2⟩
        have BB10 := bthen BB9 hbe2
        clear BB9
        have hs := hs.keep verdictR_keeps hbe2
        have yg := yg.keep verdictO_keeps hbe2
        have P0 := P0.keep hbe2
        have se2 := hbe2.size
        clear hbe2
        go_wp2_with fail
        refine (mMarkVerdictS RD _ (.slice ag RD.length kg) 1 _ (by omega) (by omega) yg).mono ?_
        rintro e wn ⟨rfl, tn, yn⟩
        have hs := hs.turn verdictR_keeps tn (fun k hk e => by have h1 := hk.1; have h2 := hk.2; have h3 := e.1; have h4 := e.2; omega)
        have P0 := P0.turn tn (fun e => by have h3 := e.1; have h4 := e.2; omega)
        have BB11 := BB10.trans (tn.belowFrom BB10.size (fun k hk => by have h1 := hk.1; omega))
        have sn := tn.size
        clear tn yg
        have hmm : ¬ 1 + 3 * (RD.length : Int) < 0 := by omega
        go_wp2_with fail
        refine (mHeldVerdictS RD.length _ (.slice ag RD.length kg) 1 _ (by omega) (by omega) (yn.read verdictR_widens verdictO_read)).mono ?_
        rintro e wh3 ⟨rfl, hbh3⟩
        have BB12 := bthen BB11 hbh3
        clear BB11
        have hs := hs.keep verdictR_keeps hbh3
        have yn := yn.keep verdictO_keeps hbh3
        have P0 := P0.keep hbh3
        clear hbh3
        go_upto_region 24 with fail
        refine wp_region_held_drew (S := fun w' => Below wh3.heap.size wh3 w') (by kernel_rfl) (Below.drew (Below.refl _ _)) (fun hHeld => ?_)
        refine wpAnyH_take (i := 0) (oi := ?oo12) (v := ?vv12) ?hi12 (by kernel_rfl) (by kernel_rfl) (by kernel_rfl) ?hQ12 ?hy12 (by assumption) ?rest12
        case hi12 => (simp only [List.getElem?_toArray, List.getElem?_cons_zero]; rfl)
        case hQ12 => exact fun _ _ _ h => h
        case hy12 => exact Or.inl ⟨by rfl, by intro wS hSw; (try dsimp only at hSw); go_simp; try first | (with_reducible rfl) | (simp only [*]; done) | omega⟩
        try simp only [Act.put, List.setIfInBounds_toArray, List.set_cons_zero, List.set_cons_succ]
        refine wpAnyH_take (i := 2) (oi := ?oo13) (v := .agg #[.int .i64 x1.trace, .int .i64 x1.stamp, .bool x1.keep]) ?hi13 (by kernel_rfl) (by kernel_rfl) (by kernel_rfl) ?hQ13 ?hy13 (by assumption) ?rest13
        case hi13 => (simp only [List.getElem?_toArray, List.getElem?_cons_zero, List.getElem?_cons_succ]; rfl)
        case hQ13 => exact fun _ _ _ h => h
        case hy13 => exact yld_load (by rfl) _ _ rfl _ 0 rfl [.int .i64 x1.trace, .int .i64 x1.stamp, .bool x1.keep] (fun w' hS => (P0.keep hS).inB) rowLVerdict
        try simp only [Act.put, List.setIfInBounds_toArray, List.set_cons_zero, List.set_cons_succ]
        refine wpAnyH_take (i := 4) (oi := ?oo14) (v := ?vv14) ?hi14 (by kernel_rfl) (by kernel_rfl) (by kernel_rfl) ?hQ14 ?hy14 (by assumption) ?rest14
        case hi14 => (simp only [List.getElem?_toArray, List.getElem?_cons_zero, List.getElem?_cons_succ]; rfl)
        case hQ14 => exact fun _ _ _ h => h
        case hy14 => exact Or.inl ⟨by rfl, by intro wS hSw; (try dsimp only at hSw); go_simp; try first | (with_reducible rfl) | (simp only [*]; done) | omega⟩
        try simp only [Act.put, List.setIfInBounds_toArray, List.set_cons_zero, List.set_cons_succ]
        refine wpAnyH_ready (rs := [1]) (by kernel_rfl) (by simp) ?_
        refine (AllReadyH.cons (o := ?bo15n1) ?bh15n1 (fun K hK => ?br15n1) AllReadyH.nil)
        case bh15n1 => (simp only [List.getElem?_toArray, List.getElem?_cons_zero, List.getElem?_cons_succ]; rfl)
        case br15n1 =>
          go_simp
          refine (mToVerdictS x0 All1 (.slice a0 x0.length k0) _ hbk0 ((unhide HR0).keep verdictR_keeps (bthen BB12 hHeld))).mono ?_
          rintro e wrk ⟨vrk, rfl, yyk, hbrk⟩
          obtain ⟨ark, krk, rfl⟩ := yyk.form
          have hHk := bthen hHeld hbrk
          have srk := hHeld.size
          clear hHeld hbrk
          go_wp2_with fail
          refine hK.out _ _ (hHk) (fun hHeld => ?_)
          clear hK
          refine wpAnyH_ready (rs := [3]) (by kernel_rfl) (by simp) ?_
          refine (AllReadyH.cons (o := ?bo16n3) ?bh16n3 (fun K hK => ?br16n3) AllReadyH.nil)
          case bh16n3 => (simp only [List.getElem?_toArray, List.getElem?_cons_zero, List.getElem?_cons_succ]; rfl)
          case br16n3 =>
            go_simp
            refine (mToVerdict x1 All1 [.int .i64 x1.trace, .int .i64 x1.stamp, .bool x1.keep] _ (Nat.zero_le _) rfl).mono ?_
            rintro e wqk ⟨cqk, rfl, hqk, hbqk⟩
            obtain rfl := hqk
            have yyk := yyk.keep verdictO_keeps hbqk
            have hHk := bthen hHeld hbqk
            clear hHeld hbqk
            go_wp2_with fail
            refine hK.out _ _ (hHk) (fun hHeld => ?_)
            clear hK
            refine wpAnyH_ready (rs := [5]) (by kernel_rfl) (by simp) ?_
            refine (AllReadyH.cons (o := ?bo17n5) ?bh17n5 (fun K hK => ?br17n5) AllReadyH.nil)
            case bh17n5 => (simp only [List.getElem?_toArray, List.getElem?_cons_zero, List.getElem?_cons_succ]; rfl)
            case br17n5 =>
              go_simp
              refine (implRemember x0 x1 x2 _ (.slice ark x0.length krk) _ (yyk.read verdictR_widens verdictO_read) hbk0).mono ?_
              rintro e wk ⟨vk, rfl, yk, hbk⟩
              have szk := hHeld.size
              have hHk := bthen hHeld hbk
              have syk := hbk.size
              clear hHeld hbk yyk
              go_wp2_with fail
              refine hK.out _ _ (hHk) (fun hHeld => ?_)
              clear hK
              refine wpAnyH_take (i := 6) (oi := ?oo18) (v := ?vv18) ?hi18 (by kernel_rfl) (by kernel_rfl) (by kernel_rfl) ?hQ18 ?hy18 (by assumption) ?rest18
              case hi18 => (simp only [List.getElem?_toArray, List.getElem?_cons_zero, List.getElem?_cons_succ]; rfl)
              case hQ18 => exact fun _ _ _ h => h
              case hy18 => exact Or.inl ⟨by rfl, by intro wS hSw; (try dsimp only at hSw); go_simp; try first | (with_reducible rfl) | (simp only [*]; done) | omega⟩
              try simp only [Act.put, List.setIfInBounds_toArray, List.set_cons_zero, List.set_cons_succ]
              refine wpAnyH_take (i := 7) (oi := ?oo19) (v := ?vv19) ?hi19 (by kernel_rfl) (by kernel_rfl) (by kernel_rfl) ?hQ19 ?hy19 (by assumption) ?rest19
              case hi19 => (simp only [List.getElem?_toArray, List.getElem?_cons_zero, List.getElem?_cons_succ]; rfl)
              case hQ19 => exact fun _ _ _ h => h
              case hy19 => exact Or.inl ⟨by rfl, by intro wS hSw; (try dsimp only at hSw); go_simp; try first | (with_reducible rfl) | (simp only [*]; done) | omega⟩
              try simp only [Act.put, List.setIfInBounds_toArray, List.set_cons_zero, List.set_cons_succ]
              refine wpAnyH_take (i := 8) (oi := ?oo20) (v := ?vv20) ?hi20 (by kernel_rfl) (by kernel_rfl) (by kernel_rfl) ?hQ20 ?hy20 (by assumption) ?rest20
              case hi20 => (simp only [List.getElem?_toArray, List.getElem?_cons_zero, List.getElem?_cons_succ]; rfl)
              case hQ20 => exact fun _ _ _ h => h
              case hy20 => exact Or.inl ⟨by rfl, by intro wS hSw; (try dsimp only at hSw); go_simp; try first | (with_reducible rfl) | (simp only [*]; done) | omega⟩
              try simp only [Act.put, List.setIfInBounds_toArray, List.set_cons_zero, List.set_cons_succ]
              refine wpAnyH_take (i := 9) (oi := ?oo21) (v := ?vv21) ?hi21 (by kernel_rfl) (by kernel_rfl) (by kernel_rfl) ?hQ21 ?hy21 (by assumption) ?rest21
              case hi21 => (simp only [List.getElem?_toArray, List.getElem?_cons_zero, List.getElem?_cons_succ]; rfl)
              case hQ21 => exact fun _ _ _ h => h
              case hy21 => exact Or.inl ⟨by rfl, by intro wS hSw; (try dsimp only at hSw); go_simp; try first | (with_reducible rfl) | (simp only [*]; done) | omega⟩
              try simp only [Act.put, List.setIfInBounds_toArray, List.set_cons_zero, List.set_cons_succ]
              refine wpAnyH_take (i := 10) (oi := ?oo22) (v := ?vv22) ?hi22 (by kernel_rfl) (by kernel_rfl) (by kernel_rfl) ?hQ22 ?hy22 (by assumption) ?rest22
              case hi22 => (simp only [List.getElem?_toArray, List.getElem?_cons_zero, List.getElem?_cons_succ]; rfl)
              case hQ22 => exact fun _ _ _ h => h
              case hy22 => exact Or.inl ⟨by rfl, by intro wS hSw; (try dsimp only at hSw); go_simp; try first | (with_reducible rfl) | (simp only [*]; done) | omega⟩
              try simp only [Act.put, List.setIfInBounds_toArray, List.set_cons_zero, List.set_cons_succ]
              refine wpAnyH_done (by kernel_rfl) ?_ _
              have hb := hHeld
              clear hHeld
              have BB13 := bthen BB12 hb
              clear BB12
              have hs := hs.keep verdictR_keeps hb
              have yn := yn.keep verdictO_keeps hb
              have P0 := P0.keep hb
              clear hb
              rw [unhide HRD] at yk
              obtain ⟨ah, kh, rfl⟩ := yk.form
              have HGQ := hide (unhide HGD)
              rw [unhide HGD]
              go_wp2_with fail
              refine (mEqVerdictS RD _ _ (.slice ah RD.length kh) (.slice aS RD.length kS) _ (yk.read verdictR_widens verdictO_read) hs).mono ?_
              rintro e we4 ⟨rfl, hbe4⟩
              have BB14 := bthen BB13 hbe4
              clear BB13
              have hs := hs.keep verdictR_keeps hbe4
              have yn := yn.keep verdictO_keeps hbe4
              have yk := yk.keep verdictO_keeps hbe4
              have P0 := P0.keep hbe4
              have se4 := hbe4.size
              clear hbe4
              clear yk
              go_wp2_with fail
              refine (mHeldVerdictS RD.length _ (.slice ag RD.length kg) 1 _ (by omega) (by omega) (yn.read verdictR_widens verdictO_read)).mono ?_
              rintro e wh5 ⟨rfl, hbh5⟩
              have BB15 := bthen BB14 hbh5
              clear BB14
              have hs := hs.keep verdictR_keeps hbh5
              have yn := yn.keep verdictO_keeps hbh5
              have P0 := P0.keep hbh5
              clear hbh5
              go_wp2
              go_ret
              exact ⟨rfl, bthen B0 BB15⟩

set_option maxRecDepth 100000 in
theorem lifted (os : Os) (started : os.Started) (H : Type) (enc : TypeId × Value → H) :
    ReturnsInHanded {} Try.checked os 8 .any (Rows.fnExactRememberSpec.pre6 enc Try.prog Try.f8 Rows.fnExactRememberRow.domain false) (Rows.fnExactRememberSpec.post enc Try.prog Try.f8 false true false false) := by
  refine returnsInHanded_of_change (C := Try.checked) own started (by kernel_rfl) Try.func8
    (ChangeSpec.witness6 (enc := enc) (C := Try.checked) false ⟨#[], #[.slice none 0 0, .agg #[.int .i64 0, .int .i64 0, .bool false], .int .i64 0], []⟩ 8 (by kernel_rfl) (by kernel_rfl) (by kernel_rfl) (by kernel_rfl)) ?_
  intro W base args ds gs before hval0 hW hcnd _
  have hval : ∀ (j : Nat) t v, Try.f8.params[j]? = some t → args[j]? = some v → Value.okWide Try.prog W .any base t v := hval0
  have hW' := hW
  obtain ⟨p, q, hA0, hV, rfl, hfz, hnd⟩ := hW
  have hA : DataW.TrodAll enc Try.prog W 0 (fun _ => true) true Try.f8.params.toList args.toList ds p := hA0
  rw [Try.params8] at hA hval
  obtain ⟨v0, vs0, d0, ds0, p0, q0, hargs0, rfl, rfl, k0, r0⟩ := trodAll_cons hA
  obtain ⟨v1, vs1, d1, ds1, p1, q1, rfl, rfl, rfl, k1, r1⟩ := trodAll_cons r0
  obtain ⟨v2, vs2, d2, ds2, p2, q2, rfl, rfl, rfl, k2, r2⟩ := trodAll_cons r1
  obtain ⟨rfl, rfl, rfl⟩ := trodAll_nil r2
  obtain rfl : args = #[v0, v1, v2] := by cases args; simp_all
  obtain ⟨rfl, rfl⟩ := trodVars_none hV
  have lt0 : ∀ x ∈ p0, x.block < W.heap.size := by obtain ⟨m, hm⟩ := k0; exact DataW.trod_lt m _ _ _ hm
  have h0 : AtVerdictS W v0 := openAtVerdictS (hval 0 _ v0 rfl rfl) k0
  have lt1 : ∀ x ∈ p1, x.block < W.heap.size := by obtain ⟨m, hm⟩ := k1; exact DataW.trod_lt m _ _ _ hm
  have h1 : AtVerdict W v1 := openAtVerdict (hval 1 _ v1 rfl rfl) k1
  have lt2 : ∀ x ∈ p2, x.block < W.heap.size := by obtain ⟨m, hm⟩ := k2; exact DataW.trod_lt m _ _ _ hm
  have h2 : IsInt W v2 := openIsInt (hval 2 _ v2 rfl rfl) k2
  clear hA0 hval0
  refine (walk v0 v1 v2 W h0 h1 h2).mono fun e W' ⟨he, bel⟩ => ?_
  subst he
  exact ⟨_, rfl, _, _, _, [], _, [], hW', trodAll_mk1 (shut_bool Try.underlying4 _), (trodAll_cons_mk (Below.trod laidOut (by kernel_rfl) (of_decide_eq_true (by kernel_rfl)) k0 bel lt0) (trodAll_cons_mk (Below.trod laidOut (by kernel_rfl) (of_decide_eq_true (by kernel_rfl)) k1 bel lt1) (trodAll_cons_mk (Below.trod laidOut (by kernel_rfl) (of_decide_eq_true (by kernel_rfl)) k2 bel lt2) trodAll_mk0))), rfl, bel.frame _, fun h => by cases h⟩

theorem over : Rows.fnExactRememberRow.holds Try.pinned (OpenSpec.ofChange Rows.fnExactRememberSpec) :=
  OpenClaim.holds_of_wide 8 Try.f8 rfl rfl rfl rfl rfl rfl rfl ⟨rfl, rfl, rfl, rfl, rfl⟩ rfl rfl rfl rfl rfl (by kernel_rfl) Try.func8 (by kernel_rfl)
    (of_decide_eq_true (by kernel_rfl)) (by unfold Func.isWrapper; first | (rw [if_pos (by decide +kernel)]; kernel_rfl) | (rw [if_neg (by decide +kernel)]; exact ⟨rfl, rfl⟩))
    (fun os started H enc _ => lifted os started H enc)

/-- The statement. -/
theorem proved : Rows.FnExactRememberSaid := over
#print axioms proved
end Go.Proofs.Ytlhjhnjpmafceab.fnExactRemember
