/-
  SameConf of the program and of the specification.
-/
import Derived.Test.YtlhjhnjpmafceaaSCf0
import Derived.Test.YtlhjhnjpmafceaaWk7
import Derived.Test.YtlhjhnjpmafceaaWk9
import Derived.Deep.RegionHeld3
namespace Go.Proofs.Ytlhjhnjpmafceaa
open Go.ChangeShapes Go.WideShapes Go.ChangeAt Go.RowKit
set_option linter.unusedVariables false
set_option maxRecDepth 100000

def SameC (x y : ConfD) : Prop := x.stripes = y.stripes ∧ x.wait = y.wait ∧ x.budget = y.budget ∧ x.cache = y.cache ∧ x.queue = y.queue ∧ x.rate = y.rate ∧ x.burst = y.burst ∧ x.rule = y.rule
theorem nums_same (x y : ConfD) : eqM sameN (nums x) (nums y) = true ↔ x.stripes = y.stripes ∧ x.wait = y.wait ∧ x.budget = y.budget ∧ x.cache = y.cache ∧ x.queue = y.queue ∧ x.rate = y.rate ∧ x.burst = y.burst := by
  simp [eqM, nums, sameN]
theorem held_sub {w : World} {b n : Nat} {cs c : List Value} (h : Held w b cs) (hc : (cs.drop n).take c.length = c) : InB w b n c := fun i v hv => by
  have hi := (List.getElem?_eq_some_iff.1 hv).1
  refine h.2 (n + i) v ?_
  rw [← hc, List.getElem?_take_of_lt hi, List.getElem?_drop] at hv
  exact hv
set_option maxHeartbeats 4000000 in
theorem implSameConf (x0 x1 : ConfD) (S0 : Nat → Prop) (c0 : List Value) (S1 : Nat → Prop) (c1 : List Value) (w : World) (h0 : confX w S0 c0 x0) (b0 : confBulk x0 ≤ 1048576) (h1 : confX w S1 c1 x1) (b1 : confBulk x1 ≤ 1048576) :
    Calls Try.prog 28 #[.agg c0.toArray, .agg c1.toArray] w fun e w' => e = .returned (.bool (@decide (SameC x0 x1) (Classical.propDecidable _))) ∧ Below w.heap.size w w' := by
  have hr0 : polBulk x0.rule ≤ 1048576 := by unfold confBulk at b0; rw [polBulk_eq]; omega
  have hr1 : polBulk x1.rule ≤ 1048576 := by unfold confBulk at b1; rw [polBulk_eq]; omega
  have bx := bnew w (.cells c0.toArray 47)
  have by' := bnew (w.alloc (.cells c0.toArray 47)) (.cells c1.toArray 47)
  have P0 := (Held.new w c0 47).keep by'
  have P1 := Held.new (w.alloc (.cells c0.toArray 47)) c1 47
  have B0 := bthen bx by'
  have rx0 : RowT Try.prog 47 c0.length := by rw [confX_len h0]; exact rowIConf
  have rx1 : RowT Try.prog 47 c1.length := by rw [confX_len h1]; exact rowIConf
  have HX := hide (And.intro (confX_keeps _ _ _ _ _ _ (Below.turn B0) none_off h0) (confX_keeps _ _ _ _ _ _ (Below.turn B0) none_off h1))
  obtain ⟨e0, y0, z0⟩ := confX_sub (unhide HX).1
  obtain ⟨e1, y1, z1⟩ := confX_sub (unhide HX).2
  have HY := hide (And.intro y0 y1)
  have HZ := hide (And.intro z0 z1)
  have re0 : RowT Try.prog 29 e0.length := by rw [polX_len y0]; exact rowIPol
  have re1 : RowT Try.prog 29 e1.length := by rw [polX_len y1]; exact rowIPol
  rw [show (w.alloc (.cells c0.toArray 47)).heap.size = w.heap.size + 1 by simp] at P1
  clear h0 h1 bx by' y0 y1 z0 z1
  by_cases hn : eqM sameN (nums x0) (nums x1) = true
  case pos =>
    have HV : Hid (@decide (SameC x0 x1) (Classical.propDecidable _) = @decide (x0.rule = x1.rule) (Classical.propDecidable _)) := hide (by rw [Bool.eq_iff_iff, @decide_eq_true_iff _ (Classical.propDecidable _), @decide_eq_true_iff _ (Classical.propDecidable _)]; obtain ⟨h1, h2, h3, h4, h5, h6, h7⟩ := (nums_same x0 x1).1 hn; exact ⟨fun h => h.2.2.2.2.2.2.2, fun h => ⟨h1, h2, h3, h4, h5, h6, h7, h⟩⟩)
    go_enter Try.func28, Try.ntmps28
    go_upto_region 1 with fail
    generalize World.alloc (World.alloc w _) _ = w0 at *
    refine wp_region_held_drew (S := fun w' => Below w0.heap.size w0 w') (by kernel_rfl) (Below.drew (Below.refl _ _)) (fun hHeld => ?_)
    refine wpAnyH_take (i := 0) (oi := ?oo1) (v := .agg c0.toArray) ?hi1 (by kernel_rfl) (by kernel_rfl) (by kernel_rfl) ?hQ1 ?hy1 (by assumption) ?rest1
    case hi1 => (simp only [List.getElem?_toArray, List.getElem?_cons_zero]; rfl)
    case hQ1 => exact fun _ _ _ h => h
    case hy1 => exact yld_load (by rfl) _ _ rfl _ 0 rfl c0 (fun w' hS => (P0.keep hS).inB) rx0
    try simp only [Act.put, List.setIfInBounds_toArray, List.set_cons_zero, List.set_cons_succ]
    refine wpAnyH_take (i := 2) (oi := ?oo2) (v := .agg c1.toArray) ?hi2 (by kernel_rfl) (by kernel_rfl) (by kernel_rfl) ?hQ2 ?hy2 (by assumption) ?rest2
    case hi2 => (simp only [List.getElem?_toArray, List.getElem?_cons_zero, List.getElem?_cons_succ]; rfl)
    case hQ2 => exact fun _ _ _ h => h
    case hy2 => exact yld_load (by rfl) _ _ rfl _ 0 rfl c1 (fun w' hS => (P1.keep hS).inB) rx1
    try simp only [Act.put, List.setIfInBounds_toArray, List.set_cons_zero, List.set_cons_succ]
    refine wpAnyH_ready (rs := [1]) (by kernel_rfl) (by simp) ?_
    refine (AllReadyH.cons (o := ?bo3n1) ?bh3n1 (fun K hK => ?br3n1) AllReadyH.nil)
    case bh3n1 => (simp only [List.getElem?_toArray, List.getElem?_cons_zero, List.getElem?_cons_succ]; rfl)
    case br3n1 =>
      go_simp
      refine (implConfNumbers x0 _ c0 _ (confX_read _ _ _ _ (confX_keeps _ _ _ _ _ _ (Below.turn hHeld) none_off (unhide HX).1))).mono ?_
      rintro e wn0 ⟨vn0, rfl, hn0, hbn0⟩
      have hHn0 := bthen hHeld hbn0
      go_wp2_with fail
      refine hK.out _ _ (hHn0) (fun hHeld => ?_)
      clear hK
      refine wpAnyH_ready (rs := [3]) (by kernel_rfl) (by simp) ?_
      refine (AllReadyH.cons (o := ?bo4n3) ?bh4n3 (fun K hK => ?br4n3) AllReadyH.nil)
      case bh4n3 => (simp only [List.getElem?_toArray, List.getElem?_cons_zero, List.getElem?_cons_succ]; rfl)
      case br4n3 =>
        go_simp
        refine (implConfNumbers x1 _ c1 _ (confX_read _ _ _ _ (confX_keeps _ _ _ _ _ _ (Below.turn hHeld) none_off (unhide HX).2))).mono ?_
        rintro e wn1 ⟨vn1, rfl, hn1, hbn1⟩
        have hn0 := hn0.keep cnR_keeps hbn1
        have hHn1 := bthen hHeld hbn1
        go_wp2_with fail
        refine hK.out _ _ (hHn1) (fun hHeld => ?_)
        clear hK
        refine wpAnyH_ready (rs := [4]) (by kernel_rfl) (by simp) ?_
        refine (AllReadyH.cons (o := ?bo5n4) ?bh5n4 (fun K hK => ?br5n4) AllReadyH.nil)
        case bh5n4 => (simp only [List.getElem?_toArray, List.getElem?_cons_zero, List.getElem?_cons_succ]; rfl)
        case br5n4 =>
          go_simp
          refine (implEqualN (nums x0) (nums x1) _ vn0 _ vn1 _ hn0 hn1 rfl).mono ?_
          rintro e wq ⟨rfl, hbq⟩
          rw [hn]
          have hHq := bthen hHeld hbq
          go_wp2_with fail
          refine hK.out _ _ (hHq) (fun hHeld => ?_)
          clear hK
          refine wpAnyH_take (i := 5) (oi := ?oo6) (v := ?vv6) ?hi6 (by kernel_rfl) (by kernel_rfl) (by kernel_rfl) ?hQ6 ?hy6 (by assumption) ?rest6
          case hi6 => (simp only [List.getElem?_toArray, List.getElem?_cons_zero, List.getElem?_cons_succ]; rfl)
          case hQ6 => exact fun _ _ _ h => h
          case hy6 => exact Or.inl ⟨by rfl, by intro wS hSw; (try dsimp only at hSw); go_simp; try first | (with_reducible rfl) | (simp only [*]; done) | omega⟩
          try simp only [Act.put, List.setIfInBounds_toArray, List.set_cons_zero, List.set_cons_succ]
          refine wpAnyH_take (i := 6) (oi := ?oo7) (v := ?vv7) ?hi7 (by kernel_rfl) (by kernel_rfl) (by kernel_rfl) ?hQ7 ?hy7 (by assumption) ?rest7
          case hi7 => (simp only [List.getElem?_toArray, List.getElem?_cons_zero, List.getElem?_cons_succ]; rfl)
          case hQ7 => exact fun _ _ _ h => h
          case hy7 => exact Or.inl ⟨by rfl, by intro wS hSw; (try dsimp only at hSw); go_simp; try first | (with_reducible rfl) | (simp only [*]; done) | omega⟩
          try simp only [Act.put, List.setIfInBounds_toArray, List.set_cons_zero, List.set_cons_succ]
          refine wpAnyH_take (i := 7) (oi := ?oo8) (v := .agg e0.toArray) ?hi8 (by kernel_rfl) (by kernel_rfl) (by kernel_rfl) ?hQ8 ?hy8 (by assumption) ?rest8
          case hi8 => (simp only [List.getElem?_toArray, List.getElem?_cons_zero, List.getElem?_cons_succ]; rfl)
          case hQ8 => exact fun _ _ _ h => h
          case hy8 => exact yld_load (by rfl) _ _ rfl _ 7 rfl e0 (fun w' hS => held_sub (P0.keep hS) (unhide HZ).1) re0
          try simp only [Act.put, List.setIfInBounds_toArray, List.set_cons_zero, List.set_cons_succ]
          refine wpAnyH_take (i := 8) (oi := ?oo9) (v := ?vv9) ?hi9 (by kernel_rfl) (by kernel_rfl) (by kernel_rfl) ?hQ9 ?hy9 (by assumption) ?rest9
          case hi9 => (simp only [List.getElem?_toArray, List.getElem?_cons_zero, List.getElem?_cons_succ]; rfl)
          case hQ9 => exact fun _ _ _ h => h
          case hy9 => exact Or.inl ⟨by rfl, by intro wS hSw; (try dsimp only at hSw); go_simp; try first | (with_reducible rfl) | (simp only [*]; done) | omega⟩
          try simp only [Act.put, List.setIfInBounds_toArray, List.set_cons_zero, List.set_cons_succ]
          refine wpAnyH_take (i := 9) (oi := ?oo10) (v := .agg e1.toArray) ?hi10 (by kernel_rfl) (by kernel_rfl) (by kernel_rfl) ?hQ10 ?hy10 (by assumption) ?rest10
          case hi10 => (simp only [List.getElem?_toArray, List.getElem?_cons_zero, List.getElem?_cons_succ]; rfl)
          case hQ10 => exact fun _ _ _ h => h
          case hy10 => exact yld_load (by rfl) _ _ rfl _ 7 rfl e1 (fun w' hS => held_sub (P1.keep hS) (unhide HZ).2) re1
          try simp only [Act.put, List.setIfInBounds_toArray, List.set_cons_zero, List.set_cons_succ]
          refine wpAnyH_ready (rs := [10]) (by kernel_rfl) (by simp) ?_
          refine (AllReadyH.cons (o := ?bo11n10) ?bh11n10 (fun K hK => ?br11n10) AllReadyH.nil)
          case bh11n10 => (simp only [List.getElem?_toArray, List.getElem?_cons_zero, List.getElem?_cons_succ]; rfl)
          case br11n10 =>
            go_simp
            refine (implSamePol x0.rule x1.rule _ e0 _ e1 _ (polX_keeps _ _ _ _ _ _ (Below.turn hHeld) none_off (unhide HY).1) hr0 (polX_keeps _ _ _ _ _ _ (Below.turn hHeld) none_off (unhide HY).2) hr1).mono ?_
            rintro e wp ⟨rfl, hbp⟩
            have hHp := bthen hHeld hbp
            go_wp2_with fail
            refine hK.out _ _ (hHp) (fun hHeld => ?_)
            clear hK
            refine wpAnyH_take (i := 11) (oi := ?oo12) (v := ?vv12) ?hi12 (by kernel_rfl) (by kernel_rfl) (by kernel_rfl) ?hQ12 ?hy12 (by assumption) ?rest12
            case hi12 => (simp only [List.getElem?_toArray, List.getElem?_cons_zero, List.getElem?_cons_succ]; rfl)
            case hQ12 => exact fun _ _ _ h => h
            case hy12 => exact Or.inl ⟨by rfl, by intro wS hSw; (try dsimp only at hSw); go_simp; try first | (with_reducible rfl) | (simp only [*]; done) | omega⟩
            try simp only [Act.put, List.setIfInBounds_toArray, List.set_cons_zero, List.set_cons_succ]
            refine wpAnyH_take (i := 12) (oi := ?oo13) (v := ?vv13) ?hi13 (by kernel_rfl) (by kernel_rfl) (by kernel_rfl) ?hQ13 ?hy13 (by assumption) ?rest13
            case hi13 => (simp only [List.getElem?_toArray, List.getElem?_cons_zero, List.getElem?_cons_succ]; rfl)
            case hQ13 => exact fun _ _ _ h => h
            case hy13 => exact Or.inl ⟨by rfl, by intro wS hSw; (try dsimp only at hSw); go_simp; try first | (with_reducible rfl) | (simp only [*]; done) | omega⟩
            try simp only [Act.put, List.setIfInBounds_toArray, List.set_cons_zero, List.set_cons_succ]
            refine wpAnyH_done (by kernel_rfl) ?_ _
            go_wp2
            go_ret
            exact ⟨ret_bool (unhide HV).symm, bthen B0 hHeld⟩
  have hn : eqM sameN (nums x0) (nums x1) = false := by simpa using hn
  have HV : Hid (@decide (SameC x0 x1) (Classical.propDecidable _) = false) := hide (@decide_eq_false _ (Classical.propDecidable _) (fun h => by have := (nums_same x0 x1).2 ⟨h.1, h.2.1, h.2.2.1, h.2.2.2.1, h.2.2.2.2.1, h.2.2.2.2.2.1, h.2.2.2.2.2.2.1⟩; rw [hn] at this; cases this))
  go_enter Try.func28, Try.ntmps28
  go_upto_region 1 with fail
  generalize World.alloc (World.alloc w _) _ = w0 at *
  refine wp_region_held_drew (S := fun w' => Below w0.heap.size w0 w') (by kernel_rfl) (Below.drew (Below.refl _ _)) (fun hHeld => ?_)
  refine wpAnyH_take (i := 0) (oi := ?oo14) (v := .agg c0.toArray) ?hi14 (by kernel_rfl) (by kernel_rfl) (by kernel_rfl) ?hQ14 ?hy14 (by assumption) ?rest14
  case hi14 => (simp only [List.getElem?_toArray, List.getElem?_cons_zero]; rfl)
  case hQ14 => exact fun _ _ _ h => h
  case hy14 => exact yld_load (by rfl) _ _ rfl _ 0 rfl c0 (fun w' hS => (P0.keep hS).inB) rx0
  try simp only [Act.put, List.setIfInBounds_toArray, List.set_cons_zero, List.set_cons_succ]
  refine wpAnyH_take (i := 2) (oi := ?oo15) (v := .agg c1.toArray) ?hi15 (by kernel_rfl) (by kernel_rfl) (by kernel_rfl) ?hQ15 ?hy15 (by assumption) ?rest15
  case hi15 => (simp only [List.getElem?_toArray, List.getElem?_cons_zero, List.getElem?_cons_succ]; rfl)
  case hQ15 => exact fun _ _ _ h => h
  case hy15 => exact yld_load (by rfl) _ _ rfl _ 0 rfl c1 (fun w' hS => (P1.keep hS).inB) rx1
  try simp only [Act.put, List.setIfInBounds_toArray, List.set_cons_zero, List.set_cons_succ]
  refine wpAnyH_ready (rs := [1]) (by kernel_rfl) (by simp) ?_
  refine (AllReadyH.cons (o := ?bo16n1) ?bh16n1 (fun K hK => ?br16n1) AllReadyH.nil)
  case bh16n1 => (simp only [List.getElem?_toArray, List.getElem?_cons_zero, List.getElem?_cons_succ]; rfl)
  case br16n1 =>
    go_simp
    refine (implConfNumbers x0 _ c0 _ (confX_read _ _ _ _ (confX_keeps _ _ _ _ _ _ (Below.turn hHeld) none_off (unhide HX).1))).mono ?_
    rintro e wn0 ⟨vn0, rfl, hn0, hbn0⟩
    have hHn0 := bthen hHeld hbn0
    go_wp2_with fail
    refine hK.out _ _ (hHn0) (fun hHeld => ?_)
    clear hK
    refine wpAnyH_ready (rs := [3]) (by kernel_rfl) (by simp) ?_
    refine (AllReadyH.cons (o := ?bo17n3) ?bh17n3 (fun K hK => ?br17n3) AllReadyH.nil)
    case bh17n3 => (simp only [List.getElem?_toArray, List.getElem?_cons_zero, List.getElem?_cons_succ]; rfl)
    case br17n3 =>
      go_simp
      refine (implConfNumbers x1 _ c1 _ (confX_read _ _ _ _ (confX_keeps _ _ _ _ _ _ (Below.turn hHeld) none_off (unhide HX).2))).mono ?_
      rintro e wn1 ⟨vn1, rfl, hn1, hbn1⟩
      have hn0 := hn0.keep cnR_keeps hbn1
      have hHn1 := bthen hHeld hbn1
      go_wp2_with fail
      refine hK.out _ _ (hHn1) (fun hHeld => ?_)
      clear hK
      refine wpAnyH_ready (rs := [4]) (by kernel_rfl) (by simp) ?_
      refine (AllReadyH.cons (o := ?bo18n4) ?bh18n4 (fun K hK => ?br18n4) AllReadyH.nil)
      case bh18n4 => (simp only [List.getElem?_toArray, List.getElem?_cons_zero, List.getElem?_cons_succ]; rfl)
      case br18n4 =>
        go_simp
        refine (implEqualN (nums x0) (nums x1) _ vn0 _ vn1 _ hn0 hn1 rfl).mono ?_
        rintro e wq ⟨rfl, hbq⟩
        rw [hn]
        have hHq := bthen hHeld hbq
        go_wp2_with fail
        refine hK.out _ _ (hHq) (fun hHeld => ?_)
        clear hK
        refine wpAnyH_take (i := 5) (oi := ?oo19) (v := ?vv19) ?hi19 (by kernel_rfl) (by kernel_rfl) (by kernel_rfl) ?hQ19 ?hy19 (by assumption) ?rest19
        case hi19 => (simp only [List.getElem?_toArray, List.getElem?_cons_zero, List.getElem?_cons_succ]; rfl)
        case hQ19 => exact fun _ _ _ h => h
        case hy19 => exact Or.inl ⟨by rfl, by intro wS hSw; (try dsimp only at hSw); go_simp; try first | (with_reducible rfl) | (simp only [*]; done) | omega⟩
        try simp only [Act.put, List.setIfInBounds_toArray, List.set_cons_zero, List.set_cons_succ]
        refine wpAnyH_take (i := 6) (oi := ?oo20) (v := undef) ?hi20 (by kernel_rfl) (by kernel_rfl) (by kernel_rfl) ?hQ20 ?hy20 (by assumption) ?rest20
        case hi20 => (simp only [List.getElem?_toArray, List.getElem?_cons_zero, List.getElem?_cons_succ]; rfl)
        case hQ20 => exact fun _ _ _ h => h
        case hy20 => exact Or.inr ⟨by rfl, rfl⟩
        try simp only [Act.put, List.setIfInBounds_toArray, List.set_cons_zero, List.set_cons_succ]
        refine wpAnyH_take (i := 7) (oi := ?oo21) (v := undef) ?hi21 (by kernel_rfl) (by kernel_rfl) (by kernel_rfl) ?hQ21 ?hy21 (by assumption) ?rest21
        case hi21 => (simp only [List.getElem?_toArray, List.getElem?_cons_zero, List.getElem?_cons_succ]; rfl)
        case hQ21 => exact fun _ _ _ h => h
        case hy21 => exact Or.inr ⟨by rfl, rfl⟩
        try simp only [Act.put, List.setIfInBounds_toArray, List.set_cons_zero, List.set_cons_succ]
        refine wpAnyH_take (i := 8) (oi := ?oo22) (v := undef) ?hi22 (by kernel_rfl) (by kernel_rfl) (by kernel_rfl) ?hQ22 ?hy22 (by assumption) ?rest22
        case hi22 => (simp only [List.getElem?_toArray, List.getElem?_cons_zero, List.getElem?_cons_succ]; rfl)
        case hQ22 => exact fun _ _ _ h => h
        case hy22 => exact Or.inr ⟨by rfl, rfl⟩
        try simp only [Act.put, List.setIfInBounds_toArray, List.set_cons_zero, List.set_cons_succ]
        refine wpAnyH_take (i := 9) (oi := ?oo23) (v := undef) ?hi23 (by kernel_rfl) (by kernel_rfl) (by kernel_rfl) ?hQ23 ?hy23 (by assumption) ?rest23
        case hi23 => (simp only [List.getElem?_toArray, List.getElem?_cons_zero, List.getElem?_cons_succ]; rfl)
        case hQ23 => exact fun _ _ _ h => h
        case hy23 => exact Or.inr ⟨by rfl, rfl⟩
        try simp only [Act.put, List.setIfInBounds_toArray, List.set_cons_zero, List.set_cons_succ]
        refine wpAnyH_take (i := 10) (oi := ?oo24) (v := undef) ?hi24 (by kernel_rfl) (by kernel_rfl) (by kernel_rfl) ?hQ24 ?hy24 (by assumption) ?rest24
        case hi24 => (simp only [List.getElem?_toArray, List.getElem?_cons_zero, List.getElem?_cons_succ]; rfl)
        case hQ24 => exact fun _ _ _ h => h
        case hy24 => exact Or.inr ⟨by rfl, rfl⟩
        try simp only [Act.put, List.setIfInBounds_toArray, List.set_cons_zero, List.set_cons_succ]
        refine wpAnyH_take (i := 11) (oi := ?oo25) (v := ?vv25) ?hi25 (by kernel_rfl) (by kernel_rfl) (by kernel_rfl) ?hQ25 ?hy25 (by assumption) ?rest25
        case hi25 => (simp only [List.getElem?_toArray, List.getElem?_cons_zero, List.getElem?_cons_succ]; rfl)
        case hQ25 => exact fun _ _ _ h => h
        case hy25 => exact Or.inl ⟨by rfl, by intro wS hSw; (try dsimp only at hSw); go_simp; try first | (with_reducible rfl) | (simp only [*]; done) | omega⟩
        try simp only [Act.put, List.setIfInBounds_toArray, List.set_cons_zero, List.set_cons_succ]
        refine wpAnyH_take (i := 12) (oi := ?oo26) (v := ?vv26) ?hi26 (by kernel_rfl) (by kernel_rfl) (by kernel_rfl) ?hQ26 ?hy26 (by assumption) ?rest26
        case hi26 => (simp only [List.getElem?_toArray, List.getElem?_cons_zero, List.getElem?_cons_succ]; rfl)
        case hQ26 => exact fun _ _ _ h => h
        case hy26 => exact Or.inl ⟨by rfl, by intro wS hSw; (try dsimp only at hSw); go_simp; try first | (with_reducible rfl) | (simp only [*]; done) | omega⟩
        try simp only [Act.put, List.setIfInBounds_toArray, List.set_cons_zero, List.set_cons_succ]
        refine wpAnyH_done (by kernel_rfl) ?_ _
        go_wp2
        go_ret
        exact ⟨ret_bool (unhide HV).symm, bthen B0 hHeld⟩
set_option maxHeartbeats 4000000 in
theorem specSameConf (x0 x1 : ConfD) (S0 : Nat → Prop) (c0 : List Value) (S1 : Nat → Prop) (c1 : List Value) (w : World) (h0 : confR w S0 c0 x0) (b0 : confBulk x0 ≤ 1048576) (h1 : confR w S1 c1 x1) (b1 : confBulk x1 ≤ 1048576) :
    Calls Try.prog 26 #[.agg c0.toArray, .agg c1.toArray] w fun e w' => e = .returned (.bool (@decide (SameC x0 x1) (Classical.propDecidable _))) ∧ Below w.heap.size w w' := by
  have hr0 : polBulk x0.rule ≤ 1048576 := by unfold confBulk at b0; rw [polBulk_eq]; omega
  have hr1 : polBulk x1.rule ≤ 1048576 := by unfold confBulk at b1; rw [polBulk_eq]; omega
  have bx := bnew w (.cells c0.toArray 47)
  have by' := bnew (w.alloc (.cells c0.toArray 47)) (.cells c1.toArray 47)
  have P0 := (Held.new w c0 47).keep by'
  have P1 := Held.new (w.alloc (.cells c0.toArray 47)) c1 47
  have B0 := bthen bx by'
  have h0 := confR_keeps _ _ _ _ _ _ (Below.turn B0) none_off h0
  have h1 := confR_keeps _ _ _ _ _ _ (Below.turn B0) none_off h1
  obtain ⟨e0, y0, z0⟩ := confR_sub_rule h0
  obtain ⟨e1, y1, z1⟩ := confR_sub_rule h1
  have re0 : RowT Try.prog 29 e0.length := by rw [polR_len y0]; exact rowIPol
  have re1 : RowT Try.prog 29 e1.length := by rw [polR_len y1]; exact rowIPol
  rw [show (w.alloc (.cells c0.toArray 47)).heap.size = w.heap.size + 1 by simp] at P1
  have u0 := confR_c0 h0
  have v0 := confR_c0 h1
  have u1 := confR_c1 h0
  have v1 := confR_c1 h1
  have u2 := confR_c2 h0
  have v2 := confR_c2 h1
  have u3 := confR_c3 h0
  have v3 := confR_c3 h1
  have u4 := confR_c4 h0
  have v4 := confR_c4 h1
  have u5 := confR_c5 h0
  have v5 := confR_c5 h1
  have u6 := confR_c6 h0
  have v6 := confR_c6 h1
  have HU := hide (And.intro (And.intro u0 v0) (And.intro (And.intro u1 v1) (And.intro (And.intro u2 v2) (And.intro (And.intro u3 v3) (And.intro (And.intro u4 v4) (And.intro (And.intro u5 v5) (And.intro (And.intro u6 v6) (And.intro z0 z1))))))))
  have HC := hide (fun (wr : World) (hb : Below ((w.alloc (.cells c0.toArray 47)).alloc (.cells c1.toArray 47)).heap.size ((w.alloc (.cells c0.toArray 47)).alloc (.cells c1.toArray 47)) wr) => specSamePol x0.rule x1.rule S0 e0 S1 e1 wr (polR_keeps _ _ _ _ _ _ (Below.turn hb) none_off y0) hr0 (polR_keeps _ _ _ _ _ _ (Below.turn hb) none_off y1) hr1)
  clear h0 h1 bx by' y0 y1 z0 z1 u0 v0 u1 v1 u2 v2 u3 v3 u4 v4 u5 v5 u6 v6
  by_cases k0 : x0.stripes = x1.stripes
  case neg =>
    have d0 : (x0.stripes == x1.stripes) = false := by simpa using k0
    have HV : Hid (@decide (SameC x0 x1) (Classical.propDecidable _) = false) := hide (@decide_eq_false _ (Classical.propDecidable _) (fun h => k0 h.1))
    clear k0
    go_enter Try.func26, Try.ntmps26
    go_upto_region 1 with fail
    generalize World.alloc (World.alloc w _) _ = w0 at *
    have p0 := P0.2 0 _ (unhide HU).1.1
    have p1 := P0.2 1 _ (unhide HU).2.1.1
    have p2 := P0.2 2 _ (unhide HU).2.2.1.1
    have p3 := P0.2 3 _ (unhide HU).2.2.2.1.1
    have p4 := P0.2 4 _ (unhide HU).2.2.2.2.1.1
    have p5 := P0.2 5 _ (unhide HU).2.2.2.2.2.1.1
    have p6 := P0.2 6 _ (unhide HU).2.2.2.2.2.2.1.1
    have r0 := P1.2 0 _ (unhide HU).1.2
    have r1 := P1.2 1 _ (unhide HU).2.1.2
    have r2 := P1.2 2 _ (unhide HU).2.2.1.2
    have r3 := P1.2 3 _ (unhide HU).2.2.2.1.2
    have r4 := P1.2 4 _ (unhide HU).2.2.2.2.1.2
    have r5 := P1.2 5 _ (unhide HU).2.2.2.2.2.1.2
    have r6 := P1.2 6 _ (unhide HU).2.2.2.2.2.2.1.2
    go_wp2
    go_ret
    exact ⟨ret_bool (unhide HV).symm, B0⟩
  have d0 : (x0.stripes == x1.stripes) = true := by simpa using k0
  have K0 := hide k0
  clear k0
  by_cases k1 : x0.wait = x1.wait
  case neg =>
    have d1 : (x0.wait == x1.wait) = false := by simpa using k1
    have HV : Hid (@decide (SameC x0 x1) (Classical.propDecidable _) = false) := hide (@decide_eq_false _ (Classical.propDecidable _) (fun h => k1 h.2.1))
    clear k1
    go_enter Try.func26, Try.ntmps26
    go_upto_region 1 with fail
    generalize World.alloc (World.alloc w _) _ = w0 at *
    have p0 := P0.2 0 _ (unhide HU).1.1
    have p1 := P0.2 1 _ (unhide HU).2.1.1
    have p2 := P0.2 2 _ (unhide HU).2.2.1.1
    have p3 := P0.2 3 _ (unhide HU).2.2.2.1.1
    have p4 := P0.2 4 _ (unhide HU).2.2.2.2.1.1
    have p5 := P0.2 5 _ (unhide HU).2.2.2.2.2.1.1
    have p6 := P0.2 6 _ (unhide HU).2.2.2.2.2.2.1.1
    have r0 := P1.2 0 _ (unhide HU).1.2
    have r1 := P1.2 1 _ (unhide HU).2.1.2
    have r2 := P1.2 2 _ (unhide HU).2.2.1.2
    have r3 := P1.2 3 _ (unhide HU).2.2.2.1.2
    have r4 := P1.2 4 _ (unhide HU).2.2.2.2.1.2
    have r5 := P1.2 5 _ (unhide HU).2.2.2.2.2.1.2
    have r6 := P1.2 6 _ (unhide HU).2.2.2.2.2.2.1.2
    go_wp2
    go_ret
    exact ⟨ret_bool (unhide HV).symm, B0⟩
  have d1 : (x0.wait == x1.wait) = true := by simpa using k1
  have K1 := hide k1
  clear k1
  by_cases k2 : x0.budget = x1.budget
  case neg =>
    have d2 : (x0.budget == x1.budget) = false := by simpa using k2
    have HV : Hid (@decide (SameC x0 x1) (Classical.propDecidable _) = false) := hide (@decide_eq_false _ (Classical.propDecidable _) (fun h => k2 h.2.2.1))
    clear k2
    go_enter Try.func26, Try.ntmps26
    go_upto_region 1 with fail
    generalize World.alloc (World.alloc w _) _ = w0 at *
    have p0 := P0.2 0 _ (unhide HU).1.1
    have p1 := P0.2 1 _ (unhide HU).2.1.1
    have p2 := P0.2 2 _ (unhide HU).2.2.1.1
    have p3 := P0.2 3 _ (unhide HU).2.2.2.1.1
    have p4 := P0.2 4 _ (unhide HU).2.2.2.2.1.1
    have p5 := P0.2 5 _ (unhide HU).2.2.2.2.2.1.1
    have p6 := P0.2 6 _ (unhide HU).2.2.2.2.2.2.1.1
    have r0 := P1.2 0 _ (unhide HU).1.2
    have r1 := P1.2 1 _ (unhide HU).2.1.2
    have r2 := P1.2 2 _ (unhide HU).2.2.1.2
    have r3 := P1.2 3 _ (unhide HU).2.2.2.1.2
    have r4 := P1.2 4 _ (unhide HU).2.2.2.2.1.2
    have r5 := P1.2 5 _ (unhide HU).2.2.2.2.2.1.2
    have r6 := P1.2 6 _ (unhide HU).2.2.2.2.2.2.1.2
    go_wp2
    go_ret
    exact ⟨ret_bool (unhide HV).symm, B0⟩
  have d2 : (x0.budget == x1.budget) = true := by simpa using k2
  have K2 := hide k2
  clear k2
  by_cases k3 : x0.cache = x1.cache
  case neg =>
    have d3 : (x0.cache == x1.cache) = false := by simpa using k3
    have HV : Hid (@decide (SameC x0 x1) (Classical.propDecidable _) = false) := hide (@decide_eq_false _ (Classical.propDecidable _) (fun h => k3 h.2.2.2.1))
    clear k3
    go_enter Try.func26, Try.ntmps26
    go_upto_region 1 with fail
    generalize World.alloc (World.alloc w _) _ = w0 at *
    have p0 := P0.2 0 _ (unhide HU).1.1
    have p1 := P0.2 1 _ (unhide HU).2.1.1
    have p2 := P0.2 2 _ (unhide HU).2.2.1.1
    have p3 := P0.2 3 _ (unhide HU).2.2.2.1.1
    have p4 := P0.2 4 _ (unhide HU).2.2.2.2.1.1
    have p5 := P0.2 5 _ (unhide HU).2.2.2.2.2.1.1
    have p6 := P0.2 6 _ (unhide HU).2.2.2.2.2.2.1.1
    have r0 := P1.2 0 _ (unhide HU).1.2
    have r1 := P1.2 1 _ (unhide HU).2.1.2
    have r2 := P1.2 2 _ (unhide HU).2.2.1.2
    have r3 := P1.2 3 _ (unhide HU).2.2.2.1.2
    have r4 := P1.2 4 _ (unhide HU).2.2.2.2.1.2
    have r5 := P1.2 5 _ (unhide HU).2.2.2.2.2.1.2
    have r6 := P1.2 6 _ (unhide HU).2.2.2.2.2.2.1.2
    go_wp2
    go_ret
    exact ⟨ret_bool (unhide HV).symm, B0⟩
  have d3 : (x0.cache == x1.cache) = true := by simpa using k3
  have K3 := hide k3
  clear k3
  by_cases k4 : x0.queue = x1.queue
  case neg =>
    have d4 : (x0.queue == x1.queue) = false := by simpa using k4
    have HV : Hid (@decide (SameC x0 x1) (Classical.propDecidable _) = false) := hide (@decide_eq_false _ (Classical.propDecidable _) (fun h => k4 h.2.2.2.2.1))
    clear k4
    go_enter Try.func26, Try.ntmps26
    go_upto_region 1 with fail
    generalize World.alloc (World.alloc w _) _ = w0 at *
    have p0 := P0.2 0 _ (unhide HU).1.1
    have p1 := P0.2 1 _ (unhide HU).2.1.1
    have p2 := P0.2 2 _ (unhide HU).2.2.1.1
    have p3 := P0.2 3 _ (unhide HU).2.2.2.1.1
    have p4 := P0.2 4 _ (unhide HU).2.2.2.2.1.1
    have p5 := P0.2 5 _ (unhide HU).2.2.2.2.2.1.1
    have p6 := P0.2 6 _ (unhide HU).2.2.2.2.2.2.1.1
    have r0 := P1.2 0 _ (unhide HU).1.2
    have r1 := P1.2 1 _ (unhide HU).2.1.2
    have r2 := P1.2 2 _ (unhide HU).2.2.1.2
    have r3 := P1.2 3 _ (unhide HU).2.2.2.1.2
    have r4 := P1.2 4 _ (unhide HU).2.2.2.2.1.2
    have r5 := P1.2 5 _ (unhide HU).2.2.2.2.2.1.2
    have r6 := P1.2 6 _ (unhide HU).2.2.2.2.2.2.1.2
    go_wp2
    go_ret
    exact ⟨ret_bool (unhide HV).symm, B0⟩
  have d4 : (x0.queue == x1.queue) = true := by simpa using k4
  have K4 := hide k4
  clear k4
  by_cases k5 : x0.rate = x1.rate
  case neg =>
    have d5 : (x0.rate == x1.rate) = false := by simpa using k5
    have HV : Hid (@decide (SameC x0 x1) (Classical.propDecidable _) = false) := hide (@decide_eq_false _ (Classical.propDecidable _) (fun h => k5 h.2.2.2.2.2.1))
    clear k5
    go_enter Try.func26, Try.ntmps26
    go_upto_region 1 with fail
    generalize World.alloc (World.alloc w _) _ = w0 at *
    have p0 := P0.2 0 _ (unhide HU).1.1
    have p1 := P0.2 1 _ (unhide HU).2.1.1
    have p2 := P0.2 2 _ (unhide HU).2.2.1.1
    have p3 := P0.2 3 _ (unhide HU).2.2.2.1.1
    have p4 := P0.2 4 _ (unhide HU).2.2.2.2.1.1
    have p5 := P0.2 5 _ (unhide HU).2.2.2.2.2.1.1
    have p6 := P0.2 6 _ (unhide HU).2.2.2.2.2.2.1.1
    have r0 := P1.2 0 _ (unhide HU).1.2
    have r1 := P1.2 1 _ (unhide HU).2.1.2
    have r2 := P1.2 2 _ (unhide HU).2.2.1.2
    have r3 := P1.2 3 _ (unhide HU).2.2.2.1.2
    have r4 := P1.2 4 _ (unhide HU).2.2.2.2.1.2
    have r5 := P1.2 5 _ (unhide HU).2.2.2.2.2.1.2
    have r6 := P1.2 6 _ (unhide HU).2.2.2.2.2.2.1.2
    go_wp2
    go_ret
    exact ⟨ret_bool (unhide HV).symm, B0⟩
  have d5 : (x0.rate == x1.rate) = true := by simpa using k5
  have K5 := hide k5
  clear k5
  by_cases k6 : x0.burst = x1.burst
  case neg =>
    have d6 : (x0.burst == x1.burst) = false := by simpa using k6
    have HV : Hid (@decide (SameC x0 x1) (Classical.propDecidable _) = false) := hide (@decide_eq_false _ (Classical.propDecidable _) (fun h => k6 h.2.2.2.2.2.2.1))
    clear k6
    go_enter Try.func26, Try.ntmps26
    go_upto_region 1 with fail
    generalize World.alloc (World.alloc w _) _ = w0 at *
    have p0 := P0.2 0 _ (unhide HU).1.1
    have p1 := P0.2 1 _ (unhide HU).2.1.1
    have p2 := P0.2 2 _ (unhide HU).2.2.1.1
    have p3 := P0.2 3 _ (unhide HU).2.2.2.1.1
    have p4 := P0.2 4 _ (unhide HU).2.2.2.2.1.1
    have p5 := P0.2 5 _ (unhide HU).2.2.2.2.2.1.1
    have p6 := P0.2 6 _ (unhide HU).2.2.2.2.2.2.1.1
    have r0 := P1.2 0 _ (unhide HU).1.2
    have r1 := P1.2 1 _ (unhide HU).2.1.2
    have r2 := P1.2 2 _ (unhide HU).2.2.1.2
    have r3 := P1.2 3 _ (unhide HU).2.2.2.1.2
    have r4 := P1.2 4 _ (unhide HU).2.2.2.2.1.2
    have r5 := P1.2 5 _ (unhide HU).2.2.2.2.2.1.2
    have r6 := P1.2 6 _ (unhide HU).2.2.2.2.2.2.1.2
    go_wp2
    go_ret
    exact ⟨ret_bool (unhide HV).symm, B0⟩
  have d6 : (x0.burst == x1.burst) = true := by simpa using k6
  have K6 := hide k6
  clear k6
  have HV : Hid (@decide (SameC x0 x1) (Classical.propDecidable _) = @decide (x0.rule = x1.rule) (Classical.propDecidable _)) := hide (by rw [Bool.eq_iff_iff, @decide_eq_true_iff _ (Classical.propDecidable _), @decide_eq_true_iff _ (Classical.propDecidable _)]; exact ⟨fun h => h.2.2.2.2.2.2.2, fun h => ⟨unhide K0, unhide K1, unhide K2, unhide K3, unhide K4, unhide K5, unhide K6, h⟩⟩)
  go_enter Try.func26, Try.ntmps26
  go_upto_region 1 with fail
  generalize World.alloc (World.alloc w _) _ = w0 at *
  have p0 := P0.2 0 _ (unhide HU).1.1
  have p1 := P0.2 1 _ (unhide HU).2.1.1
  have p2 := P0.2 2 _ (unhide HU).2.2.1.1
  have p3 := P0.2 3 _ (unhide HU).2.2.2.1.1
  have p4 := P0.2 4 _ (unhide HU).2.2.2.2.1.1
  have p5 := P0.2 5 _ (unhide HU).2.2.2.2.2.1.1
  have p6 := P0.2 6 _ (unhide HU).2.2.2.2.2.2.1.1
  have r0 := P1.2 0 _ (unhide HU).1.2
  have r1 := P1.2 1 _ (unhide HU).2.1.2
  have r2 := P1.2 2 _ (unhide HU).2.2.1.2
  have r3 := P1.2 3 _ (unhide HU).2.2.2.1.2
  have r4 := P1.2 4 _ (unhide HU).2.2.2.2.1.2
  have r5 := P1.2 5 _ (unhide HU).2.2.2.2.2.1.2
  have r6 := P1.2 6 _ (unhide HU).2.2.2.2.2.2.1.2
  have i0 := held_sub P0 (unhide HU).2.2.2.2.2.2.2.1
  have i1 := held_sub P1 (unhide HU).2.2.2.2.2.2.2.2
  go_wp2_with (first | (refine wpl_loadG (by rfl) 29 _ rfl _ 7 rfl e0 i0 re0 ?_) | (refine wpl_loadG (by rfl) 29 _ rfl _ 7 rfl e1 i1 re1 ?_))
  refine (unhide HC _ (Below.refl _ _)).mono ?_
  rintro e wp ⟨rfl, hbp⟩
  go_wp2
  go_ret
  exact ⟨ret_bool (unhide HV).symm, bthen B0 hbp⟩
end Go.Proofs.Ytlhjhnjpmafceaa
