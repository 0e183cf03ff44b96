/-
  Bound of the program and of the specification.
-/
import Derived.Test.YtopngelgpfjdeaaCnt4
import Derived.Test.YtopngelgpfjdeaaWorld1
import Derived.Test.YtopngelgpfjdeaaTim0
import Derived.Test.YtopngelgpfjdeaaTim1
import Derived.Test.YtopngelgpfjdeaaAWheel
import Derived.Test.YtopngelgpfjdeaaToSt
namespace Go.Proofs.Ytopngelgpfjdeaa
open Go.ChangeShapes Go.WideShapes Go.ChangeAt Go.RowKit
set_option linter.unusedVariables false
set_option maxRecDepth 100000

def workV (x : WorldD) : Int := (IntKind.i64.wrap (IntKind.i64.wrap ((busyv x.tasks : Int) + (x.due.length : Int)) + ((allT x.w).length : Int)))
def boundV (x : WorldD) : Int := IntKind.i64.wrap ((IntKind.i64.wrap (20 + IntKind.i64.wrap (2 * (IntKind.i64.wrap ((countOf x).held + (countOf x).moving))))) + IntKind.i64.wrap (6 * workV x))
theorem plTimerS : PlainT Try.prog 51 := fun w a v h => by simp [loadVar, go_sem, h]
set_option maxHeartbeats 4000000 in
theorem specBound (x : WorldD) (S0 : Nat → Prop) (c0 : List Value) (w : World) (h0 : worldR w S0 c0 x) (b0 : worldBulk x ≤ 1048576) :
    Calls Try.prog 11 #[.agg c0.toArray] w fun e w' => e = .returned (.int .i64 (boundV x)) ∧ Below w.heap.size w w' := by
  have P0 := Held.new w c0 58
  have B0 := bnew w (.cells c0.toArray 58)
  have r0 : RowT Try.prog 58 c0.length := by rw [worldR_len h0]; exact rowIWorld
  obtain ⟨aU, kU, hcU, hU⟩ := worldR_c26 h0
  obtain ⟨cw, hw, hsw⟩ := worldR_sub_w h0
  have rw_ : RowT Try.prog 53 cw.length := by rw [wheelR_len hw]; exact rowIWheel
  have bw : wheelBulk x.w ≤ 1048576 := by unfold worldBulk at b0; unfold wheelBulk; omega
  have HCU := hide hcU
  have HSW := hide hsw
  have HW := hide hw
  have HR := hide h0
  clear h0 hcU hU hw hsw
  go_enter Try.func11, Try.ntmps11
  go_upto_region 1 with fail
  generalize World.alloc w _ = w0 at *
  go_wp2_with (first | (refine wpl_load rfl 58 _ rfl _ 0 rfl c0 P0.inB r0 ?_))
  refine (specCountOf x S0 c0 _ (worldR_keeps _ _ _ None1 _ _ (Below.turn B0) none_off (unhide HR)) b0).mono ?_
  rintro e w1 ⟨rfl, hb1⟩
  have hbn := bnew w1 (.cells (countC (countOf x)).toArray 90)
  have PC := Held.new w1 (countC (countOf x)) 90
  have P2 := (P0.keep hb1).keep hbn
  have B2 := bthen (bthen B0 hb1) hbn
  clear hb1 hbn P0 B0
  go_upto_region 2 with (first | (refine wpl_store_new rfl _ _ _ rfl _ (countC (countOf x)) rfl rfl rfl (countC_one _) rowCnt ?_))
  generalize hW2 : World.alloc w1 _ = w2 at *
  clear hW2
  refine wp_region_held_drew (S := fun w' => Below w2.heap.size w2 w') (by kernel_rfl) (Below.drew (Below.refl _ _)) (fun hHeld => ?_)
  refine wpAnyH_take (i := 0) (oi := ?oo1) (v := ?vv1) ?hi1 (by kernel_rfl) (by kernel_rfl) (by kernel_rfl) ?hQ1 ?hy1 (by assumption) ?rest1
  case hi1 => (simp only [List.getElem?_toArray, List.getElem?_cons_zero]; rfl)
  case hQ1 => exact fun _ _ _ h => h
  case hy1 => exact Or.inl ⟨by rfl, by intro wS hSw; (try dsimp only at hSw); go_simp; try first | (with_reducible rfl) | (simp only [*]; done) | omega⟩
  try simp only [Act.put, List.setIfInBounds_toArray, List.set_cons_zero, List.set_cons_succ]
  refine wpAnyH_take (i := 1) (oi := ?oo2) (v := .int .i64 (countOf x).held) ?hi2 (by kernel_rfl) (by kernel_rfl) (by kernel_rfl) ?hQ2 ?hy2 (by assumption) ?rest2
  case hi2 => (simp only [List.getElem?_toArray, List.getElem?_cons_zero, List.getElem?_cons_succ]; rfl)
  case hQ2 => exact fun _ _ _ h => h
  case hy2 => exact yld_cell (by rfl) _ _ rfl _ _ rfl _ (fun w' hS => (PC.keep hS).2 3 _ rfl) plainInt
  try simp only [Act.put, List.setIfInBounds_toArray, List.set_cons_zero, List.set_cons_succ]
  refine wpAnyH_take (i := 2) (oi := ?oo3) (v := ?vv3) ?hi3 (by kernel_rfl) (by kernel_rfl) (by kernel_rfl) ?hQ3 ?hy3 (by assumption) ?rest3
  case hi3 => (simp only [List.getElem?_toArray, List.getElem?_cons_zero, List.getElem?_cons_succ]; rfl)
  case hQ3 => exact fun _ _ _ h => h
  case hy3 => exact Or.inl ⟨by rfl, by intro wS hSw; (try dsimp only at hSw); go_simp; try first | (with_reducible rfl) | (simp only [*]; done) | omega⟩
  try simp only [Act.put, List.setIfInBounds_toArray, List.set_cons_zero, List.set_cons_succ]
  refine wpAnyH_take (i := 3) (oi := ?oo4) (v := .int .i64 (countOf x).moving) ?hi4 (by kernel_rfl) (by kernel_rfl) (by kernel_rfl) ?hQ4 ?hy4 (by assumption) ?rest4
  case hi4 => (simp only [List.getElem?_toArray, List.getElem?_cons_zero, List.getElem?_cons_succ]; rfl)
  case hQ4 => exact fun _ _ _ h => h
  case hy4 => exact yld_cell (by rfl) _ _ rfl _ _ rfl _ (fun w' hS => (PC.keep hS).2 2 _ rfl) plainInt
  try simp only [Act.put, List.setIfInBounds_toArray, List.set_cons_zero, List.set_cons_succ]
  refine wpAnyH_take (i := 4) (oi := ?oo5) (v := .int .i64 (IntKind.i64.wrap ((countOf x).held + (countOf x).moving))) ?hi5 (by kernel_rfl) (by kernel_rfl) (by kernel_rfl) ?hQ5 ?hy5 (by assumption) ?rest5
  case hi5 => (simp only [List.getElem?_toArray, List.getElem?_cons_zero, List.getElem?_cons_succ]; rfl)
  case hQ5 => exact fun _ _ _ h => h
  case hy5 => exact Or.inl ⟨by rfl, by intro wS hSw; (try dsimp only at hSw); go_simp; try first | (with_reducible rfl) | rfl | (simp only [IntWalk.i64_left]; done) | (simp only [*]; done)⟩
  try simp only [Act.put, List.setIfInBounds_toArray, List.set_cons_zero, List.set_cons_succ]
  refine wpAnyH_take (i := 5) (oi := ?oo6) (v := .int .i64 (IntKind.i64.wrap (2 * (IntKind.i64.wrap ((countOf x).held + (countOf x).moving))))) ?hi6 (by kernel_rfl) (by kernel_rfl) (by kernel_rfl) ?hQ6 ?hy6 (by assumption) ?rest6
  case hi6 => (simp only [List.getElem?_toArray, List.getElem?_cons_zero, List.getElem?_cons_succ]; rfl)
  case hQ6 => exact fun _ _ _ h => h
  case hy6 => exact Or.inl ⟨by rfl, by intro wS hSw; (try dsimp only at hSw); go_simp; try first | (with_reducible rfl) | rfl | (simp only [IntWalk.i64_left]; done) | (simp only [*]; done)⟩
  try simp only [Act.put, List.setIfInBounds_toArray, List.set_cons_zero, List.set_cons_succ]
  refine wpAnyH_take (i := 6) (oi := ?oo7) (v := .int .i64 (IntKind.i64.wrap (20 + IntKind.i64.wrap (2 * (IntKind.i64.wrap ((countOf x).held + (countOf x).moving)))))) ?hi7 (by kernel_rfl) (by kernel_rfl) (by kernel_rfl) ?hQ7 ?hy7 (by assumption) ?rest7
  case hi7 => (simp only [List.getElem?_toArray, List.getElem?_cons_zero, List.getElem?_cons_succ]; rfl)
  case hQ7 => exact fun _ _ _ h => h
  case hy7 => exact Or.inl ⟨by rfl, by intro wS hSw; (try dsimp only at hSw); go_simp; try first | (with_reducible rfl) | rfl | (simp only [IntWalk.i64_left]; done) | (simp only [*]; done)⟩
  try simp only [Act.put, List.setIfInBounds_toArray, List.set_cons_zero, List.set_cons_succ]
  refine wpAnyH_take (i := 7) (oi := ?oo8) (v := .agg c0.toArray) ?hi8 (by kernel_rfl) (by kernel_rfl) (by kernel_rfl) ?hQ8 ?hy8 (by assumption) ?rest8
  case hi8 => (simp only [List.getElem?_toArray, List.getElem?_cons_zero, List.getElem?_cons_succ]; rfl)
  case hQ8 => exact fun _ _ _ h => h
  case hy8 => exact yld_load (by rfl) _ _ rfl _ 0 rfl c0 (fun w' hS => (P2.keep hS).inB) r0
  try simp only [Act.put, List.setIfInBounds_toArray, List.set_cons_zero, List.set_cons_succ]
  refine wpAnyH_take (i := 9) (oi := ?oo9) (v := ?vv9) ?hi9 (by kernel_rfl) (by kernel_rfl) (by kernel_rfl) ?hQ9 ?hy9 (by assumption) ?rest9
  case hi9 => (simp only [List.getElem?_toArray, List.getElem?_cons_zero, List.getElem?_cons_succ]; rfl)
  case hQ9 => exact fun _ _ _ h => h
  case hy9 => exact Or.inl ⟨by rfl, by intro wS hSw; (try dsimp only at hSw); go_simp; try first | (with_reducible rfl) | (simp only [*]; done) | omega⟩
  try simp only [Act.put, List.setIfInBounds_toArray, List.set_cons_zero, List.set_cons_succ]
  refine wpAnyH_take (i := 10) (oi := ?oo10) (v := .slice aU x.due.length kU) ?hi10 (by kernel_rfl) (by kernel_rfl) (by kernel_rfl) ?hQ10 ?hy10 (by assumption) ?rest10
  case hi10 => (simp only [List.getElem?_toArray, List.getElem?_cons_zero, List.getElem?_cons_succ]; rfl)
  case hQ10 => exact fun _ _ _ h => h
  case hy10 => exact yld_cell (by rfl) _ _ rfl _ _ rfl _ (fun w' hS => (P2.keep hS).2 26 _ (unhide HCU)) plTimerS
  try simp only [Act.put, List.setIfInBounds_toArray, List.set_cons_zero, List.set_cons_succ]
  refine wpAnyH_take (i := 11) (oi := ?oo11) (v := .int .i64 (x.due.length : Int)) ?hi11 (by kernel_rfl) (by kernel_rfl) (by kernel_rfl) ?hQ11 ?hy11 (by assumption) ?rest11
  case hi11 => (simp only [List.getElem?_toArray, List.getElem?_cons_zero, List.getElem?_cons_succ]; rfl)
  case hQ11 => exact fun _ _ _ h => h
  case hy11 => exact Or.inl ⟨by rfl, by intro wS hSw; (try dsimp only at hSw); go_simp; try first | (with_reducible rfl) | rfl | (simp only [IntWalk.i64_left]; done) | (simp only [*]; done)⟩
  try simp only [Act.put, List.setIfInBounds_toArray, List.set_cons_zero, List.set_cons_succ]
  refine wpAnyH_take (i := 13) (oi := ?oo12) (v := ?vv12) ?hi12 (by kernel_rfl) (by kernel_rfl) (by kernel_rfl) ?hQ12 ?hy12 (by assumption) ?rest12
  case hi12 => (simp only [List.getElem?_toArray, List.getElem?_cons_zero, List.getElem?_cons_succ]; rfl)
  case hQ12 => exact fun _ _ _ h => h
  case hy12 => exact Or.inl ⟨by rfl, by intro wS hSw; (try dsimp only at hSw); go_simp; try first | (with_reducible rfl) | (simp only [*]; done) | omega⟩
  try simp only [Act.put, List.setIfInBounds_toArray, List.set_cons_zero, List.set_cons_succ]
  refine wpAnyH_take (i := 14) (oi := ?oo13) (v := .agg cw.toArray) ?hi13 (by kernel_rfl) (by kernel_rfl) (by kernel_rfl) ?hQ13 ?hy13 (by assumption) ?rest13
  case hi13 => (simp only [List.getElem?_toArray, List.getElem?_cons_zero, List.getElem?_cons_succ]; rfl)
  case hQ13 => exact fun _ _ _ h => h
  case hy13 => exact yld_load (by rfl) _ _ rfl _ 22 rfl cw (fun w' hS => sub_in (P2.keep hS) 22 (unhide HSW)) rw_
  try simp only [Act.put, List.setIfInBounds_toArray, List.set_cons_zero, List.set_cons_succ]
  refine wpAnyH_ready (rs := [8]) (by kernel_rfl) (by simp) ?_
  refine (AllReadyH.cons (o := ?bo14n8) ?bh14n8 (fun K hK => ?br14n8) AllReadyH.nil)
  case bh14n8 => (simp only [List.getElem?_toArray, List.getElem?_cons_zero, List.getElem?_cons_succ]; rfl)
  case br14n8 =>
    go_simp
    refine (specBusy x S0 c0 _ (worldR_keeps _ _ _ None1 _ _ (Below.turn (bthen B2 hHeld)) none_off (unhide HR)) b0).mono ?_
    rintro e w5 ⟨rfl, hb5⟩
    have hH5 := bthen hHeld hb5
    clear hHeld hb5
    go_wp2_with fail
    refine hK.out _ _ (hH5) (fun hHeld => ?_)
    clear hK
    refine wpAnyH_take (i := 12) (oi := ?oo15) (v := .int .i64 (IntKind.i64.wrap ((busyv x.tasks : Int) + (x.due.length : Int)))) ?hi15 (by kernel_rfl) (by kernel_rfl) (by kernel_rfl) ?hQ15 ?hy15 (by assumption) ?rest15
    case hi15 => (simp only [List.getElem?_toArray, List.getElem?_cons_zero, List.getElem?_cons_succ]; rfl)
    case hQ15 => exact fun _ _ _ h => h
    case hy15 => exact Or.inl ⟨by rfl, by intro wS hSw; (try dsimp only at hSw); go_simp; try first | (with_reducible rfl) | rfl | (simp only [IntWalk.i64_left]; done) | (simp only [*]; done)⟩
    try simp only [Act.put, List.setIfInBounds_toArray, List.set_cons_zero, List.set_cons_succ]
    refine wpAnyH_ready (rs := [15]) (by kernel_rfl) (by simp) ?_
    refine (AllReadyH.cons (o := ?bo16n15) ?bh16n15 (fun K hK => ?br16n15) AllReadyH.nil)
    case bh16n15 => (simp only [List.getElem?_toArray, List.getElem?_cons_zero, List.getElem?_cons_succ]; rfl)
    case br16n15 =>
      go_simp
      refine (specTimers x.w S0 cw _ (wheelR_keeps _ _ _ None1 _ _ (Below.turn (bthen B2 hHeld)) none_off (unhide HW)) bw).mono ?_
      rintro e w6 ⟨v6, rfl, hL6, hb6⟩
      obtain ⟨a6, k6, rfl⟩ := hL6.form
      have hH6 := bthen hHeld hb6
      clear hHeld hb6 hL6
      go_wp2_with fail
      refine hK.out _ _ (hH6) (fun hHeld => ?_)
      clear hK
      refine wpAnyH_take (i := 16) (oi := ?oo17) (v := .int .i64 ((allT x.w).length : Int)) ?hi17 (by kernel_rfl) (by kernel_rfl) (by kernel_rfl) ?hQ17 ?hy17 (by assumption) ?rest17
      case hi17 => (simp only [List.getElem?_toArray, List.getElem?_cons_zero, List.getElem?_cons_succ]; rfl)
      case hQ17 => exact fun _ _ _ h => h
      case hy17 => exact Or.inl ⟨by rfl, by intro wS hSw; (try dsimp only at hSw); go_simp; try first | (with_reducible rfl) | rfl | (simp only [IntWalk.i64_left]; done) | (simp only [*]; done)⟩
      try simp only [Act.put, List.setIfInBounds_toArray, List.set_cons_zero, List.set_cons_succ]
      refine wpAnyH_take (i := 17) (oi := ?oo18) (v := .int .i64 (workV x)) ?hi18 (by kernel_rfl) (by kernel_rfl) (by kernel_rfl) ?hQ18 ?hy18 (by assumption) ?rest18
      case hi18 => (simp only [List.getElem?_toArray, List.getElem?_cons_zero, List.getElem?_cons_succ]; rfl)
      case hQ18 => exact fun _ _ _ h => h
      case hy18 => exact Or.inl ⟨by rfl, by intro wS hSw; (try dsimp only at hSw); go_simp; try first | (with_reducible rfl) | rfl | (simp only [IntWalk.i64_left]; done) | (simp only [*]; done)⟩
      try simp only [Act.put, List.setIfInBounds_toArray, List.set_cons_zero, List.set_cons_succ]
      refine wpAnyH_take (i := 18) (oi := ?oo19) (v := .int .i64 (IntKind.i64.wrap (6 * workV x))) ?hi19 (by kernel_rfl) (by kernel_rfl) (by kernel_rfl) ?hQ19 ?hy19 (by assumption) ?rest19
      case hi19 => (simp only [List.getElem?_toArray, List.getElem?_cons_zero, List.getElem?_cons_succ]; rfl)
      case hQ19 => exact fun _ _ _ h => h
      case hy19 => exact Or.inl ⟨by rfl, by intro wS hSw; (try dsimp only at hSw); go_simp; try first | (with_reducible rfl) | rfl | (simp only [IntWalk.i64_left]; done) | (simp only [*]; done)⟩
      try simp only [Act.put, List.setIfInBounds_toArray, List.set_cons_zero, List.set_cons_succ]
      refine wpAnyH_take (i := 19) (oi := ?oo20) (v := .int .i64 (boundV x)) ?hi20 (by kernel_rfl) (by kernel_rfl) (by kernel_rfl) ?hQ20 ?hy20 (by assumption) ?rest20
      case hi20 => (simp only [List.getElem?_toArray, List.getElem?_cons_zero, List.getElem?_cons_succ]; rfl)
      case hQ20 => exact fun _ _ _ h => h
      case hy20 => exact Or.inl ⟨by rfl, by intro wS hSw; (try dsimp only at hSw); go_simp; try first | (with_reducible rfl) | rfl | (simp only [IntWalk.i64_left]; done) | (simp only [*]; done)⟩
      try simp only [Act.put, List.setIfInBounds_toArray, List.set_cons_zero, List.set_cons_succ]
      refine wpAnyH_take (i := 20) (oi := ?oo21) (v := ?vv21) ?hi21 (by kernel_rfl) (by kernel_rfl) (by kernel_rfl) ?hQ21 ?hy21 (by assumption) ?rest21
      case hi21 => (simp only [List.getElem?_toArray, List.getElem?_cons_zero, List.getElem?_cons_succ]; rfl)
      case hQ21 => exact fun _ _ _ h => h
      case hy21 => exact Or.inl ⟨by rfl, by intro wS hSw; (try dsimp only at hSw); go_simp; try first | (with_reducible rfl) | (simp only [*]; done) | omega⟩
      try simp only [Act.put, List.setIfInBounds_toArray, List.set_cons_zero, List.set_cons_succ]
      refine wpAnyH_done (by kernel_rfl) ?_ _
      go_wp2
      go_ret
      exact ⟨rfl, bthen B2 hHeld⟩
set_option maxHeartbeats 4000000 in
theorem implBound (x : WorldD) (S0 : Nat → Prop) (c0 : List Value) (w : World) (h0 : worldR w S0 c0 x) (b0 : worldBulk x ≤ 1048576) :
    Calls Try.prog 13 #[.agg c0.toArray] w fun e w' => e = .returned (.int .i64 (boundV x)) ∧ Below w.heap.size w w' := by
  have P0 := Held.new w c0 58
  have B0 := bnew w (.cells c0.toArray 58)
  have r0 : RowT Try.prog 58 c0.length := by rw [worldR_len h0]; exact rowIWorld
  obtain ⟨aU, kU, hcU, hU⟩ := worldR_c26 h0
  obtain ⟨cw, hw, hsw⟩ := worldR_sub_w h0
  have rw_ : RowT Try.prog 53 cw.length := by rw [wheelR_len hw]; exact rowIWheel
  have bw : wheelBulk x.w ≤ 1048576 := by unfold worldBulk at b0; unfold wheelBulk; omega
  have HCU := hide hcU
  have HSW := hide hsw
  have HW := hide hw
  have HR := hide h0
  clear h0 hcU hU hw hsw
  go_enter Try.func13, Try.ntmps13
  go_upto_region 1 with fail
  generalize World.alloc w _ = w0 at *
  go_wp2_with (first | (refine wpl_load rfl 58 _ rfl _ 0 rfl c0 P0.inB r0 ?_))
  refine (implCountOf x S0 c0 _ (worldR_keeps _ _ _ None1 _ _ (Below.turn B0) none_off (unhide HR)) b0).mono ?_
  rintro e w1 ⟨rfl, hb1⟩
  have hbn := bnew w1 (.cells (countC (countOf x)).toArray 90)
  have PC := Held.new w1 (countC (countOf x)) 90
  have P2 := (P0.keep hb1).keep hbn
  have B2 := bthen (bthen B0 hb1) hbn
  clear hb1 hbn P0 B0
  go_upto_region 2 with (first | (refine wpl_store_new rfl _ _ _ rfl _ (countC (countOf x)) rfl rfl rfl (countC_one _) rowCnt ?_))
  generalize hW2 : World.alloc w1 _ = w2 at *
  clear hW2
  simp only [Act.put]
  go_cut [4] from 7 to 17 (fun s wc => s = .int .i64 (workV x) ∧ Below w2.heap.size w2 wc)
  case first =>
    refine wp_region_held_drew (S := fun w' => Below w2.heap.size w2 w') (by kernel_rfl) (Below.drew (Below.refl _ _)) (fun hHeld => ?_)
    refine wpAnyH_take (i := 0) (oi := ?oo22) (v := .agg c0.toArray) ?hi22 (by kernel_rfl) (by kernel_rfl) (by kernel_rfl) ?hQ22 ?hy22 (by assumption) ?rest22
    case hi22 => (simp only [List.getElem?_toArray, List.getElem?_cons_zero]; rfl)
    case hQ22 => exact fun _ _ _ h => h
    case hy22 => exact yld_load (by rfl) _ _ rfl _ 0 rfl c0 (fun w' hS => (P2.keep hS).inB) r0
    try simp only [Act.put, List.setIfInBounds_toArray, List.set_cons_zero, List.set_cons_succ]
    refine wpAnyH_take (i := 2) (oi := ?oo23) (v := ?vv23) ?hi23 (by kernel_rfl) (by kernel_rfl) (by kernel_rfl) ?hQ23 ?hy23 (by assumption) ?rest23
    case hi23 => (simp only [List.getElem?_toArray, List.getElem?_cons_zero, List.getElem?_cons_succ]; rfl)
    case hQ23 => exact fun _ _ _ h => h
    case hy23 => exact Or.inl ⟨by rfl, by intro wS hSw; (try dsimp only at hSw); go_simp; try first | (with_reducible rfl) | (simp only [*]; done) | omega⟩
    try simp only [Act.put, List.setIfInBounds_toArray, List.set_cons_zero, List.set_cons_succ]
    refine wpAnyH_take (i := 3) (oi := ?oo24) (v := .slice aU x.due.length kU) ?hi24 (by kernel_rfl) (by kernel_rfl) (by kernel_rfl) ?hQ24 ?hy24 (by assumption) ?rest24
    case hi24 => (simp only [List.getElem?_toArray, List.getElem?_cons_zero, List.getElem?_cons_succ]; rfl)
    case hQ24 => exact fun _ _ _ h => h
    case hy24 => exact yld_cell (by rfl) _ _ rfl _ _ rfl _ (fun w' hS => (P2.keep hS).2 26 _ (unhide HCU)) plTimerS
    try simp only [Act.put, List.setIfInBounds_toArray, List.set_cons_zero, List.set_cons_succ]
    refine wpAnyH_take (i := 4) (oi := ?oo25) (v := .int .i64 (x.due.length : Int)) ?hi25 (by kernel_rfl) (by kernel_rfl) (by kernel_rfl) ?hQ25 ?hy25 (by assumption) ?rest25
    case hi25 => (simp only [List.getElem?_toArray, List.getElem?_cons_zero, List.getElem?_cons_succ]; rfl)
    case hQ25 => exact fun _ _ _ h => h
    case hy25 => exact Or.inl ⟨by rfl, by intro wS hSw; (try dsimp only at hSw); go_simp; try first | (with_reducible rfl) | rfl | (simp only [IntWalk.i64_left]; done) | (simp only [*]; done)⟩
    try simp only [Act.put, List.setIfInBounds_toArray, List.set_cons_zero, List.set_cons_succ]
    refine wpAnyH_take (i := 6) (oi := ?oo26) (v := ?vv26) ?hi26 (by kernel_rfl) (by kernel_rfl) (by kernel_rfl) ?hQ26 ?hy26 (by assumption) ?rest26
    case hi26 => (simp only [List.getElem?_toArray, List.getElem?_cons_zero, List.getElem?_cons_succ]; rfl)
    case hQ26 => exact fun _ _ _ h => h
    case hy26 => exact Or.inl ⟨by rfl, by intro wS hSw; (try dsimp only at hSw); go_simp; try first | (with_reducible rfl) | (simp only [*]; done) | omega⟩
    try simp only [Act.put, List.setIfInBounds_toArray, List.set_cons_zero, List.set_cons_succ]
    refine wpAnyH_take (i := 7) (oi := ?oo27) (v := .agg cw.toArray) ?hi27 (by kernel_rfl) (by kernel_rfl) (by kernel_rfl) ?hQ27 ?hy27 (by assumption) ?rest27
    case hi27 => (simp only [List.getElem?_toArray, List.getElem?_cons_zero, List.getElem?_cons_succ]; rfl)
    case hQ27 => exact fun _ _ _ h => h
    case hy27 => exact yld_load (by rfl) _ _ rfl _ 22 rfl cw (fun w' hS => sub_in (P2.keep hS) 22 (unhide HSW)) rw_
    try simp only [Act.put, List.setIfInBounds_toArray, List.set_cons_zero, List.set_cons_succ]
    refine wpAnyH_ready (rs := [1]) (by kernel_rfl) (by simp) ?_
    refine (AllReadyH.cons (o := ?bo28n1) ?bh28n1 (fun K hK => ?br28n1) AllReadyH.nil)
    case bh28n1 => (simp only [List.getElem?_toArray, List.getElem?_cons_zero, List.getElem?_cons_succ]; rfl)
    case br28n1 =>
      go_simp
      refine (implBusy x S0 c0 _ (worldR_keeps _ _ _ None1 _ _ (Below.turn (bthen B2 hHeld)) none_off (unhide HR)) b0).mono ?_
      rintro e w5 ⟨rfl, hb5⟩
      have hH5 := bthen hHeld hb5
      clear hHeld hb5
      go_wp2_with fail
      refine hK.out _ _ (hH5) (fun hHeld => ?_)
      clear hK
      refine wpAnyH_take (i := 5) (oi := ?oo29) (v := .int .i64 (IntKind.i64.wrap ((busyv x.tasks : Int) + (x.due.length : Int)))) ?hi29 (by kernel_rfl) (by kernel_rfl) (by kernel_rfl) ?hQ29 ?hy29 (by assumption) ?rest29
      case hi29 => (simp only [List.getElem?_toArray, List.getElem?_cons_zero, List.getElem?_cons_succ]; rfl)
      case hQ29 => exact fun _ _ _ h => h
      case hy29 => exact Or.inl ⟨by rfl, by intro wS hSw; (try dsimp only at hSw); go_simp; try first | (with_reducible rfl) | rfl | (simp only [IntWalk.i64_left]; done) | (simp only [*]; done)⟩
      try simp only [Act.put, List.setIfInBounds_toArray, List.set_cons_zero, List.set_cons_succ]
      refine wpAnyH_ready (rs := [8]) (by kernel_rfl) (by simp) ?_
      refine (AllReadyH.cons (o := ?bo30n8) ?bh30n8 (fun K hK => ?br30n8) AllReadyH.nil)
      case bh30n8 => (simp only [List.getElem?_toArray, List.getElem?_cons_zero, List.getElem?_cons_succ]; rfl)
      case br30n8 =>
        go_simp
        refine (implTimers x.w S0 cw _ (wheelR_keeps _ _ _ None1 _ _ (Below.turn (bthen B2 hHeld)) none_off (unhide HW)) bw).mono ?_
        rintro e w6 ⟨v6, rfl, hL6, hb6⟩
        obtain ⟨a6, k6, rfl⟩ := hL6.form
        have hH6 := bthen hHeld hb6
        clear hHeld hb6 hL6
        go_wp2_with fail
        refine hK.out _ _ (hH6) (fun hHeld => ?_)
        clear hK
        refine wpAnyH_take (i := 9) (oi := ?oo31) (v := .int .i64 ((allT x.w).length : Int)) ?hi31 (by kernel_rfl) (by kernel_rfl) (by kernel_rfl) ?hQ31 ?hy31 (by assumption) ?rest31
        case hi31 => (simp only [List.getElem?_toArray, List.getElem?_cons_zero, List.getElem?_cons_succ]; rfl)
        case hQ31 => exact fun _ _ _ h => h
        case hy31 => exact Or.inl ⟨by rfl, by intro wS hSw; (try dsimp only at hSw); go_simp; try first | (with_reducible rfl) | rfl | (simp only [IntWalk.i64_left]; done) | (simp only [*]; done)⟩
        try simp only [Act.put, List.setIfInBounds_toArray, List.set_cons_zero, List.set_cons_succ]
        refine wpAnyH_take (i := 10) (oi := ?oo32) (v := .int .i64 (workV x)) ?hi32 (by kernel_rfl) (by kernel_rfl) (by kernel_rfl) ?hQ32 ?hy32 (by assumption) ?rest32
        case hi32 => (simp only [List.getElem?_toArray, List.getElem?_cons_zero, List.getElem?_cons_succ]; rfl)
        case hQ32 => exact fun _ _ _ h => h
        case hy32 => exact Or.inl ⟨by rfl, by intro wS hSw; (try dsimp only at hSw); go_simp; try first | (with_reducible rfl) | rfl | (simp only [IntWalk.i64_left]; done) | (simp only [*]; done)⟩
        try simp only [Act.put, List.setIfInBounds_toArray, List.set_cons_zero, List.set_cons_succ]
        refine wpAnyH_take (i := 11) (oi := ?oo33) (v := ?vv33) ?hi33 (by kernel_rfl) (by kernel_rfl) (by kernel_rfl) ?hQ33 ?hy33 (by assumption) ?rest33
        case hi33 => (simp only [List.getElem?_toArray, List.getElem?_cons_zero, List.getElem?_cons_succ]; rfl)
        case hQ33 => exact fun _ _ _ h => h
        case hy33 => exact Or.inl ⟨by rfl, by intro wS hSw; (try dsimp only at hSw); go_simp; try first | (with_reducible rfl) | (simp only [*]; done) | omega⟩
        try simp only [Act.put, List.setIfInBounds_toArray, List.set_cons_zero, List.set_cons_succ]
        refine wpAnyH_done (by kernel_rfl) ?_ _
        go_wp2_with fail
        go_meet
        exact ⟨rfl, hHeld⟩
  case rest =>
  obtain ⟨rfl, hbc⟩ := hcut
  have n3 := (PC.keep hbc).2 3 _ rfl
  have n2 := (PC.keep hbc).2 2 _ rfl
  have HF := hide (show boundV x = IntKind.i64.wrap ((IntKind.i64.wrap (20 + IntKind.i64.wrap (2 * (IntKind.i64.wrap ((countOf x).held + (countOf x).moving))))) + IntKind.i64.wrap (6 * workV x)) from rfl)
  generalize workV x = K at *
  generalize (countOf x).held = H at *
  generalize (countOf x).moving = M at *
  go_wp2
  go_ret
  exact ⟨by rw [unhide HF]; simp only [IntWalk.i64_left]; rfl, bthen B2 hbc⟩
end Go.Proofs.Ytopngelgpfjdeaa
