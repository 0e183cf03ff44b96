/-
  Contracts of SameItem, of the program (by numbers that are compared at once) and of the specification.
-/
import Derived.Test.YtklhljknkcmecaaPlain6
import Derived.Test.YtklhljknkcmecaaToSt
namespace Go.Proofs.Ytklhljknkcmecaa
open Go.ChangeShapes Go.WideShapes Go.ChangeAt Go.RowKit
set_option linter.unusedVariables false
set_option maxRecDepth 100000

theorem implBareOf (x : ItemD) (S0 : Nat → Prop) (c0 : List Value) (w : World) (h0 : itemR w S0 c0 x) :
    Calls Try.prog 83 #[.agg c0.toArray] w fun e w' => e = .returned (.agg #[.int .i64 x.stamp, .int .i64 x.s.1, .int .i64 x.s.2.1, .int .i64 x.s.2.2.1, .int .i64 x.s.2.2.2.1, .bool x.s.2.2.2.2.1, .int .i64 (x.s.2.2.2.2.2.length : Int)]) ∧ Below w.heap.size w w' := by
  obtain ⟨s, rfl, g⟩ := h0
  obtain ⟨a, k, rfl⟩ := g.form
  go_enter Try.func83, Try.ntmps83
  go_wp2
  exact bodyPost_ret (v := .agg #[.int .i64 x.stamp, .int .i64 x.s.1, .int .i64 x.s.2.1, .int .i64 x.s.2.2.1, .int .i64 x.s.2.2.2.1, .bool x.s.2.2.2.2.1, .int .i64 (x.s.2.2.2.2.2.length : Int)]) (by simp [results, Try.results83, go_sem]) rfl ⟨rfl, by (repeat (first | with_reducible assumption | with_reducible exact Below.refl _ _ | with_reducible refine Below.drew ?_ | with_reducible refine bdrewN ?_ _ | (with_reducible refine Below.alloc ?_ ?side _; case side => (first | omega | (simp [go_sem]; done) | (simp [go_sem]; omega))) | (with_reducible refine Below.setCell ?_ ?side _; case side => (first | omega | (simp [go_sem]; done) | (simp [go_sem]; omega)))))⟩
theorem eqBare (a b c d e g a' b' c' d' e' g' : Int) (f f' : Bool) (w : World) :
    (Op.equalIn 10000 99 (.agg #[.int .i64 a, .int .i64 b, .int .i64 c, .int .i64 d, .int .i64 e, .bool f, .int .i64 g]) (.agg #[.int .i64 a', .int .i64 b', .int .i64 c', .int .i64 d', .int .i64 e', .bool f', .int .i64 g'])).run Try.prog w = .ok (decide (a = a' ∧ b = b' ∧ c = c' ∧ d = d' ∧ e = e' ∧ f = f' ∧ g = g')) w := by
  by_cases h0 : a = a'
  case neg => go_simp
  by_cases h1 : b = b'
  case neg => go_simp
  by_cases h2 : c = c'
  case neg => go_simp
  by_cases h3 : d = d'
  case neg => go_simp
  by_cases h4 : e = e'
  case neg => go_simp
  by_cases h5 : f = f'
  case neg => go_simp
  by_cases h6 : g = g'
  case neg => go_simp
  go_simp
def bareB (x y : ItemD) : Bool := decide (x.stamp = y.stamp ∧ x.s.1 = y.s.1 ∧ x.s.2.1 = y.s.2.1 ∧ x.s.2.2.1 = y.s.2.2.1 ∧ x.s.2.2.2.1 = y.s.2.2.2.1 ∧ x.s.2.2.2.2.1 = y.s.2.2.2.2.1 ∧ (x.s.2.2.2.2.2.length : Int) = (y.s.2.2.2.2.2.length : Int))
def sameIB (x y : ItemD) : Bool := decide (x.stamp = y.stamp) && sameSB x.s y.s
theorem sameIB_eq (x y : ItemD) : sameIB x y = (bareB x y && decide (x.s.2.2.2.2.2 = y.s.2.2.2.2.2)) := by
  rw [Bool.eq_iff_iff]
  simp only [sameIB, bareB, sameSB, sameD, Bool.and_eq_true, decide_eq_true_eq]
  constructor
  · rintro ⟨h1, h2, h3, h4, h5, h6, h7⟩
    exact ⟨⟨h1, h2, h3, h4, h5, h6, by rw [h7]⟩, h7⟩
  · rintro ⟨⟨h1, h2, h3, h4, h5, h6, _⟩, h7⟩
    exact ⟨h1, h2, h3, h4, h5, h6, h7⟩
set_option maxHeartbeats 2000000 in
theorem implSameItem (x y : ItemD) (S0 : Nat → Prop) (c0 : List Value) (S1 : Nat → Prop) (c1 : List Value) (w : World) (h0 : itemR w S0 c0 x) (b0 : itemBulk x ≤ 1048576) (h1 : itemR w S1 c1 y) (b1 : itemBulk y ≤ 1048576) :
    Calls Try.prog 51 #[.agg c0.toArray, .agg c1.toArray] w fun e w' => e = .returned (.bool (sameIB x y)) ∧ Below w.heap.size w w' := by
  have HR := hide h0
  have HS := hide h1
  obtain ⟨a, k, z, g⟩ := itemR_c6 h0
  obtain ⟨a', k', z', g'⟩ := itemR_c6 h1
  have HQ := hide z
  have HQ2 := hide z'
  have HG := hide g
  have HG2 := hide g'
  have P0 := (Held.new w c0 66).keep (bnew _ (.cells c1.toArray 66))
  have P1 := Held.new (w.alloc (.cells c0.toArray 66)) c1 66
  rw [show (w.alloc (.cells c0.toArray 66)).heap.size = w.heap.size + 1 by simp] at P1
  have B0 := bthen (bnew w (.cells c0.toArray 66)) (bnew _ (.cells c1.toArray 66))
  have r0 : RowT Try.prog 66 c0.length := by rw [itemR_len h0]; exact rowIItem
  have r1 : RowT Try.prog 66 c1.length := by rw [itemR_len h1]; exact rowIItem
  clear z z' g g' h0 h1
  go_enter Try.func51, Try.ntmps51
  go_upto_region 1 with fail
  generalize World.alloc (World.alloc w _) _ = w0 at *
  cases hbb : bareB x y
  ·
    refine wp_region_held_drew (S := fun w' => Below w0.heap.size w0 w') (by kernel_rfl) (Below.drew (Below.refl _ _)) (fun hHeld => ?_)
    refine wpAnyH_take (i := 0) (oi := ?oo1) (v := .agg c0.toArray) ?hi1 (by kernel_rfl) (by kernel_rfl) (by kernel_rfl) ?hQ1 ?hy1 (by assumption) ?rest1
    case hi1 => (simp only [List.getElem?_toArray, List.getElem?_cons_zero]; rfl)
    case hQ1 => exact fun _ _ _ h => h
    case hy1 => exact yld_load (by rfl) _ _ rfl _ 0 rfl c0 (fun w' hS => (P0.keep hS).inB) r0
    try simp only [Act.put, List.setIfInBounds_toArray, List.set_cons_zero, List.set_cons_succ]
    refine wpAnyH_take (i := 2) (oi := ?oo2) (v := .agg c1.toArray) ?hi2 (by kernel_rfl) (by kernel_rfl) (by kernel_rfl) ?hQ2 ?hy2 (by assumption) ?rest2
    case hi2 => (simp only [List.getElem?_toArray, List.getElem?_cons_zero, List.getElem?_cons_succ]; rfl)
    case hQ2 => exact fun _ _ _ h => h
    case hy2 => exact yld_load (by rfl) _ _ rfl _ 0 rfl c1 (fun w' hS => (P1.keep hS).inB) r1
    try simp only [Act.put, List.setIfInBounds_toArray, List.set_cons_zero, List.set_cons_succ]
    refine wpAnyH_ready (rs := [1]) (by kernel_rfl) (by simp) ?_
    refine (AllReadyH.cons (o := ?bo3n1) ?bh3n1 (fun K hK => ?br3n1) AllReadyH.nil)
    case bh3n1 => (simp only [List.getElem?_toArray, List.getElem?_cons_zero, List.getElem?_cons_succ]; rfl)
    case br3n1 =>
      go_simp
      refine (implBareOf x _ c0 _ (itemR_keeps _ _ _ None1 _ _ (Below.turn (bthen B0 hHeld)) none_off (unhide HR))).mono ?_
      rintro e w5 ⟨rfl, hb5⟩
      have hH5 := bthen hHeld hb5
      clear hHeld hb5
      go_wp2_with fail
      refine hK.out _ _ (hH5) (fun hHeld => ?_)
      clear hK
      refine wpAnyH_ready (rs := [3]) (by kernel_rfl) (by simp) ?_
      refine (AllReadyH.cons (o := ?bo4n3) ?bh4n3 (fun K hK => ?br4n3) AllReadyH.nil)
      case bh4n3 => (simp only [List.getElem?_toArray, List.getElem?_cons_zero, List.getElem?_cons_succ]; rfl)
      case br4n3 =>
        go_simp
        refine (implBareOf y _ c1 _ (itemR_keeps _ _ _ None1 _ _ (Below.turn (bthen B0 hHeld)) none_off (unhide HS))).mono ?_
        rintro e w5 ⟨rfl, hb5⟩
        have hH5 := bthen hHeld hb5
        clear hHeld hb5
        go_wp2_with fail
        refine hK.out _ _ (hH5) (fun hHeld => ?_)
        clear hK
        refine wpAnyH_take (i := 4) (oi := ?oo5) (v := .bool false) ?hi5 (by kernel_rfl) (by kernel_rfl) (by kernel_rfl) ?hQ5 ?hy5 (by assumption) ?rest5
        case hi5 => (simp only [List.getElem?_toArray, List.getElem?_cons_zero, List.getElem?_cons_succ]; rfl)
        case hQ5 => exact fun _ _ _ h => h
        case hy5 => exact Or.inl ⟨by rfl, by intro wS hSw; have hb' := of_decide_eq_false hbb; clear hbb; go_simp; intro a1 a2 a3 a4 a5 a6 a7; exact hb' ⟨a1, a2, a3, a4, a5, a6, a7⟩⟩
        try simp only [Act.put, List.setIfInBounds_toArray, List.set_cons_zero, List.set_cons_succ]
        refine wpAnyH_take (i := 5) (oi := ?oo6) (v := ?vv6) ?hi6 (by kernel_rfl) (by kernel_rfl) (by kernel_rfl) ?hQ6 ?hy6 (by assumption) ?rest6
        case hi6 => (simp only [List.getElem?_toArray, List.getElem?_cons_zero, List.getElem?_cons_succ]; rfl)
        case hQ6 => exact fun _ _ _ h => h
        case hy6 => exact Or.inl ⟨by rfl, by intro wS hSw; (try dsimp only at hSw); go_simp; try first | (with_reducible rfl) | (simp only [*]; done) | omega⟩
        try simp only [Act.put, List.setIfInBounds_toArray, List.set_cons_zero, List.set_cons_succ]
        refine wpAnyH_take (i := 6) (oi := ?oo7) (v := undef) ?hi7 (by kernel_rfl) (by kernel_rfl) (by kernel_rfl) ?hQ7 ?hy7 (by assumption) ?rest7
        case hi7 => (simp only [List.getElem?_toArray, List.getElem?_cons_zero, List.getElem?_cons_succ]; rfl)
        case hQ7 => exact fun _ _ _ h => h
        case hy7 => exact Or.inr ⟨by rfl, rfl⟩
        try simp only [Act.put, List.setIfInBounds_toArray, List.set_cons_zero, List.set_cons_succ]
        refine wpAnyH_take (i := 7) (oi := ?oo8) (v := undef) ?hi8 (by kernel_rfl) (by kernel_rfl) (by kernel_rfl) ?hQ8 ?hy8 (by assumption) ?rest8
        case hi8 => (simp only [List.getElem?_toArray, List.getElem?_cons_zero, List.getElem?_cons_succ]; rfl)
        case hQ8 => exact fun _ _ _ h => h
        case hy8 => exact Or.inr ⟨by rfl, rfl⟩
        try simp only [Act.put, List.setIfInBounds_toArray, List.set_cons_zero, List.set_cons_succ]
        refine wpAnyH_take (i := 8) (oi := ?oo9) (v := undef) ?hi9 (by kernel_rfl) (by kernel_rfl) (by kernel_rfl) ?hQ9 ?hy9 (by assumption) ?rest9
        case hi9 => (simp only [List.getElem?_toArray, List.getElem?_cons_zero, List.getElem?_cons_succ]; rfl)
        case hQ9 => exact fun _ _ _ h => h
        case hy9 => exact Or.inr ⟨by rfl, rfl⟩
        try simp only [Act.put, List.setIfInBounds_toArray, List.set_cons_zero, List.set_cons_succ]
        refine wpAnyH_take (i := 9) (oi := ?oo10) (v := undef) ?hi10 (by kernel_rfl) (by kernel_rfl) (by kernel_rfl) ?hQ10 ?hy10 (by assumption) ?rest10
        case hi10 => (simp only [List.getElem?_toArray, List.getElem?_cons_zero, List.getElem?_cons_succ]; rfl)
        case hQ10 => exact fun _ _ _ h => h
        case hy10 => exact Or.inr ⟨by rfl, rfl⟩
        try simp only [Act.put, List.setIfInBounds_toArray, List.set_cons_zero, List.set_cons_succ]
        refine wpAnyH_take (i := 10) (oi := ?oo11) (v := undef) ?hi11 (by kernel_rfl) (by kernel_rfl) (by kernel_rfl) ?hQ11 ?hy11 (by assumption) ?rest11
        case hi11 => (simp only [List.getElem?_toArray, List.getElem?_cons_zero, List.getElem?_cons_succ]; rfl)
        case hQ11 => exact fun _ _ _ h => h
        case hy11 => exact Or.inr ⟨by rfl, rfl⟩
        try simp only [Act.put, List.setIfInBounds_toArray, List.set_cons_zero, List.set_cons_succ]
        refine wpAnyH_take (i := 11) (oi := ?oo12) (v := undef) ?hi12 (by kernel_rfl) (by kernel_rfl) (by kernel_rfl) ?hQ12 ?hy12 (by assumption) ?rest12
        case hi12 => (simp only [List.getElem?_toArray, List.getElem?_cons_zero, List.getElem?_cons_succ]; rfl)
        case hQ12 => exact fun _ _ _ h => h
        case hy12 => exact Or.inr ⟨by rfl, rfl⟩
        try simp only [Act.put, List.setIfInBounds_toArray, List.set_cons_zero, List.set_cons_succ]
        refine wpAnyH_take (i := 12) (oi := ?oo13) (v := undef) ?hi13 (by kernel_rfl) (by kernel_rfl) (by kernel_rfl) ?hQ13 ?hy13 (by assumption) ?rest13
        case hi13 => (simp only [List.getElem?_toArray, List.getElem?_cons_zero, List.getElem?_cons_succ]; rfl)
        case hQ13 => exact fun _ _ _ h => h
        case hy13 => exact Or.inr ⟨by rfl, rfl⟩
        try simp only [Act.put, List.setIfInBounds_toArray, List.set_cons_zero, List.set_cons_succ]
        refine wpAnyH_take (i := 13) (oi := ?oo14) (v := ?vv14) ?hi14 (by kernel_rfl) (by kernel_rfl) (by kernel_rfl) ?hQ14 ?hy14 (by assumption) ?rest14
        case hi14 => (simp only [List.getElem?_toArray, List.getElem?_cons_zero, List.getElem?_cons_succ]; rfl)
        case hQ14 => exact fun _ _ _ h => h
        case hy14 => exact Or.inl ⟨by rfl, by intro wS hSw; (try dsimp only at hSw); go_simp; try first | (with_reducible rfl) | (simp only [*]; done) | omega⟩
        try simp only [Act.put, List.setIfInBounds_toArray, List.set_cons_zero, List.set_cons_succ]
        refine wpAnyH_take (i := 14) (oi := ?oo15) (v := ?vv15) ?hi15 (by kernel_rfl) (by kernel_rfl) (by kernel_rfl) ?hQ15 ?hy15 (by assumption) ?rest15
        case hi15 => (simp only [List.getElem?_toArray, List.getElem?_cons_zero, List.getElem?_cons_succ]; rfl)
        case hQ15 => exact fun _ _ _ h => h
        case hy15 => exact Or.inl ⟨by rfl, by intro wS hSw; (try dsimp only at hSw); go_simp; try first | (with_reducible rfl) | (simp only [*]; done) | omega⟩
        try simp only [Act.put, List.setIfInBounds_toArray, List.set_cons_zero, List.set_cons_succ]
        refine wpAnyH_done (by kernel_rfl) ?_ _
        go_wp2
        go_ret
        exact ⟨ret_bool (by rw [sameIB_eq, hbb]; simp), bthen B0 hHeld⟩
  ·
    refine wp_region_held_drew (S := fun w' => Below w0.heap.size w0 w') (by kernel_rfl) (Below.drew (Below.refl _ _)) (fun hHeld => ?_)
    refine wpAnyH_take (i := 0) (oi := ?oo16) (v := .agg c0.toArray) ?hi16 (by kernel_rfl) (by kernel_rfl) (by kernel_rfl) ?hQ16 ?hy16 (by assumption) ?rest16
    case hi16 => (simp only [List.getElem?_toArray, List.getElem?_cons_zero]; rfl)
    case hQ16 => exact fun _ _ _ h => h
    case hy16 => exact yld_load (by rfl) _ _ rfl _ 0 rfl c0 (fun w' hS => (P0.keep hS).inB) r0
    try simp only [Act.put, List.setIfInBounds_toArray, List.set_cons_zero, List.set_cons_succ]
    refine wpAnyH_take (i := 2) (oi := ?oo17) (v := .agg c1.toArray) ?hi17 (by kernel_rfl) (by kernel_rfl) (by kernel_rfl) ?hQ17 ?hy17 (by assumption) ?rest17
    case hi17 => (simp only [List.getElem?_toArray, List.getElem?_cons_zero, List.getElem?_cons_succ]; rfl)
    case hQ17 => exact fun _ _ _ h => h
    case hy17 => exact yld_load (by rfl) _ _ rfl _ 0 rfl c1 (fun w' hS => (P1.keep hS).inB) r1
    try simp only [Act.put, List.setIfInBounds_toArray, List.set_cons_zero, List.set_cons_succ]
    refine wpAnyH_ready (rs := [1]) (by kernel_rfl) (by simp) ?_
    refine (AllReadyH.cons (o := ?bo18n1) ?bh18n1 (fun K hK => ?br18n1) AllReadyH.nil)
    case bh18n1 => (simp only [List.getElem?_toArray, List.getElem?_cons_zero, List.getElem?_cons_succ]; rfl)
    case br18n1 =>
      go_simp
      refine (implBareOf x _ c0 _ (itemR_keeps _ _ _ None1 _ _ (Below.turn (bthen B0 hHeld)) none_off (unhide HR))).mono ?_
      rintro e w5 ⟨rfl, hb5⟩
      have hH5 := bthen hHeld hb5
      clear hHeld hb5
      go_wp2_with fail
      refine hK.out _ _ (hH5) (fun hHeld => ?_)
      clear hK
      refine wpAnyH_ready (rs := [3]) (by kernel_rfl) (by simp) ?_
      refine (AllReadyH.cons (o := ?bo19n3) ?bh19n3 (fun K hK => ?br19n3) AllReadyH.nil)
      case bh19n3 => (simp only [List.getElem?_toArray, List.getElem?_cons_zero, List.getElem?_cons_succ]; rfl)
      case br19n3 =>
        go_simp
        refine (implBareOf y _ c1 _ (itemR_keeps _ _ _ None1 _ _ (Below.turn (bthen B0 hHeld)) none_off (unhide HS))).mono ?_
        rintro e w5 ⟨rfl, hb5⟩
        have hH5 := bthen hHeld hb5
        clear hHeld hb5
        go_wp2_with fail
        refine hK.out _ _ (hH5) (fun hHeld => ?_)
        clear hK
        refine wpAnyH_take (i := 4) (oi := ?oo20) (v := .bool true) ?hi20 (by kernel_rfl) (by kernel_rfl) (by kernel_rfl) ?hQ20 ?hy20 (by assumption) ?rest20
        case hi20 => (simp only [List.getElem?_toArray, List.getElem?_cons_zero, List.getElem?_cons_succ]; rfl)
        case hQ20 => exact fun _ _ _ h => h
        case hy20 => exact Or.inl ⟨by rfl, by intro wS hSw; obtain ⟨a1, a2, a3, a4, a5, a6, a7⟩ := of_decide_eq_true hbb; clear hbb; go_simp⟩
        try simp only [Act.put, List.setIfInBounds_toArray, List.set_cons_zero, List.set_cons_succ]
        refine wpAnyH_take (i := 5) (oi := ?oo21) (v := ?vv21) ?hi21 (by kernel_rfl) (by kernel_rfl) (by kernel_rfl) ?hQ21 ?hy21 (by assumption) ?rest21
        case hi21 => (simp only [List.getElem?_toArray, List.getElem?_cons_zero, List.getElem?_cons_succ]; rfl)
        case hQ21 => exact fun _ _ _ h => h
        case hy21 => exact Or.inl ⟨by rfl, by intro wS hSw; (try dsimp only at hSw); go_simp; try first | (with_reducible rfl) | (simp only [*]; done) | omega⟩
        try simp only [Act.put, List.setIfInBounds_toArray, List.set_cons_zero, List.set_cons_succ]
        refine wpAnyH_take (i := 6) (oi := ?oo22) (v := ?vv22) ?hi22 (by kernel_rfl) (by kernel_rfl) (by kernel_rfl) ?hQ22 ?hy22 (by assumption) ?rest22
        case hi22 => (simp only [List.getElem?_toArray, List.getElem?_cons_zero, List.getElem?_cons_succ]; rfl)
        case hQ22 => exact fun _ _ _ h => h
        case hy22 => exact Or.inl ⟨by rfl, by intro wS hSw; (try dsimp only at hSw); go_simp; try first | (with_reducible rfl) | (simp only [*]; done) | omega⟩
        try simp only [Act.put, List.setIfInBounds_toArray, List.set_cons_zero, List.set_cons_succ]
        refine wpAnyH_take (i := 7) (oi := ?oo23) (v := ?vv23) ?hi23 (by kernel_rfl) (by kernel_rfl) (by kernel_rfl) ?hQ23 ?hy23 (by assumption) ?rest23
        case hi23 => (simp only [List.getElem?_toArray, List.getElem?_cons_zero, List.getElem?_cons_succ]; rfl)
        case hQ23 => exact fun _ _ _ h => h
        case hy23 => exact Or.inl ⟨by rfl, by intro wS hSw; (try dsimp only at hSw); go_simp; try first | (with_reducible rfl) | (simp only [*]; done) | omega⟩
        try simp only [Act.put, List.setIfInBounds_toArray, List.set_cons_zero, List.set_cons_succ]
        refine wpAnyH_take (i := 8) (oi := ?oo24) (v := .slice a x.s.2.2.2.2.2.length k) ?hi24 (by kernel_rfl) (by kernel_rfl) (by kernel_rfl) ?hQ24 ?hy24 (by assumption) ?rest24
        case hi24 => (simp only [List.getElem?_toArray, List.getElem?_cons_zero, List.getElem?_cons_succ]; rfl)
        case hQ24 => exact fun _ _ _ h => h
        case hy24 => exact yld_cell (by rfl) _ _ rfl _ _ rfl _ (fun w' hS => (P0.keep hS).2 6 _ (unhide HQ)) plainAttrS
        try simp only [Act.put, List.setIfInBounds_toArray, List.set_cons_zero, List.set_cons_succ]
        refine wpAnyH_take (i := 9) (oi := ?oo25) (v := ?vv25) ?hi25 (by kernel_rfl) (by kernel_rfl) (by kernel_rfl) ?hQ25 ?hy25 (by assumption) ?rest25
        case hi25 => (simp only [List.getElem?_toArray, List.getElem?_cons_zero, List.getElem?_cons_succ]; rfl)
        case hQ25 => exact fun _ _ _ h => h
        case hy25 => exact Or.inl ⟨by rfl, by intro wS hSw; (try dsimp only at hSw); go_simp; try first | (with_reducible rfl) | (simp only [*]; done) | omega⟩
        try simp only [Act.put, List.setIfInBounds_toArray, List.set_cons_zero, List.set_cons_succ]
        refine wpAnyH_take (i := 10) (oi := ?oo26) (v := ?vv26) ?hi26 (by kernel_rfl) (by kernel_rfl) (by kernel_rfl) ?hQ26 ?hy26 (by assumption) ?rest26
        case hi26 => (simp only [List.getElem?_toArray, List.getElem?_cons_zero, List.getElem?_cons_succ]; rfl)
        case hQ26 => exact fun _ _ _ h => h
        case hy26 => exact Or.inl ⟨by rfl, by intro wS hSw; (try dsimp only at hSw); go_simp; try first | (with_reducible rfl) | (simp only [*]; done) | omega⟩
        try simp only [Act.put, List.setIfInBounds_toArray, List.set_cons_zero, List.set_cons_succ]
        refine wpAnyH_take (i := 11) (oi := ?oo27) (v := (.slice a' y.s.2.2.2.2.2.length k')) ?hi27 (by kernel_rfl) (by kernel_rfl) (by kernel_rfl) ?hQ27 ?hy27 (by assumption) ?rest27
        case hi27 => (simp only [List.getElem?_toArray, List.getElem?_cons_zero, List.getElem?_cons_succ]; rfl)
        case hQ27 => exact fun _ _ _ h => h
        case hy27 => exact yld_cell (by rfl) _ _ rfl _ _ rfl _ (fun w' hS => (P1.keep hS).2 6 _ (unhide HQ2)) plainAttrS
        try simp only [Act.put, List.setIfInBounds_toArray, List.set_cons_zero, List.set_cons_succ]
        refine wpAnyH_ready (rs := [12]) (by kernel_rfl) (by simp) ?_
        refine (AllReadyH.cons (o := ?bo28n12) ?bh28n12 (fun K hK => ?br28n12) AllReadyH.nil)
        case bh28n12 => (simp only [List.getElem?_toArray, List.getElem?_cons_zero, List.getElem?_cons_succ]; rfl)
        case br28n12 =>
          go_simp
          refine (implEqual x.s.2.2.2.2.2 y.s.2.2.2.2.2 _ _ _ (attrs_old ((unhide HG).keep attrR_keeps (bthen B0 hHeld))) (attrs_old ((unhide HG2).keep attrR_keeps (bthen B0 hHeld)))).mono ?_
          rintro e w6 ⟨rfl, hb6⟩
          have hH6 := bthen hHeld hb6
          clear hHeld hb6
          go_wp2_with fail
          refine hK.out _ _ (hH6) (fun hHeld => ?_)
          clear hK
          refine wpAnyH_take (i := 13) (oi := ?oo29) (v := ?vv29) ?hi29 (by kernel_rfl) (by kernel_rfl) (by kernel_rfl) ?hQ29 ?hy29 (by assumption) ?rest29
          case hi29 => (simp only [List.getElem?_toArray, List.getElem?_cons_zero, List.getElem?_cons_succ]; rfl)
          case hQ29 => exact fun _ _ _ h => h
          case hy29 => exact Or.inl ⟨by rfl, by intro wS hSw; (try dsimp only at hSw); go_simp; try first | (with_reducible rfl) | (simp only [*]; done) | omega⟩
          try simp only [Act.put, List.setIfInBounds_toArray, List.set_cons_zero, List.set_cons_succ]
          refine wpAnyH_take (i := 14) (oi := ?oo30) (v := ?vv30) ?hi30 (by kernel_rfl) (by kernel_rfl) (by kernel_rfl) ?hQ30 ?hy30 (by assumption) ?rest30
          case hi30 => (simp only [List.getElem?_toArray, List.getElem?_cons_zero, List.getElem?_cons_succ]; rfl)
          case hQ30 => exact fun _ _ _ h => h
          case hy30 => exact Or.inl ⟨by rfl, by intro wS hSw; (try dsimp only at hSw); go_simp; try first | (with_reducible rfl) | (simp only [*]; done) | omega⟩
          try simp only [Act.put, List.setIfInBounds_toArray, List.set_cons_zero, List.set_cons_succ]
          refine wpAnyH_done (by kernel_rfl) ?_ _
          go_wp2
          go_ret
          exact ⟨ret_bool (by rw [sameIB_eq, hbb]; simp), bthen B0 hHeld⟩
set_option maxHeartbeats 1000000 in
theorem specSameItem (x y : ItemD) (S0 : Nat → Prop) (c0 : List Value) (S1 : Nat → Prop) (c1 : List Value) (w : World) (h0 : itemR w S0 c0 x) (b0 : itemBulk x ≤ 1048576) (h1 : itemR w S1 c1 y) (b1 : itemBulk y ≤ 1048576) :
    Calls Try.prog 50 #[.agg c0.toArray, .agg c1.toArray] w fun e w' => e = .returned (.bool (sameIB x y)) ∧ Below w.heap.size w w' := by
  have HQ := hide (itemR_c0 h0)
  have HQ2 := hide (itemR_c0 h1)
  obtain ⟨d0, z0, y0⟩ := itemR_sub_s h0
  obtain ⟨d1, z1, y1⟩ := itemR_sub_s h1
  have P0 := (Held.new w c0 66).keep (bnew _ (.cells c1.toArray 66))
  have P1 := Held.new (w.alloc (.cells c0.toArray 66)) c1 66
  rw [show (w.alloc (.cells c0.toArray 66)).heap.size = w.heap.size + 1 by simp] at P1
  have B0 := bthen (bnew w (.cells c0.toArray 66)) (bnew _ (.cells c1.toArray 66))
  have r0 : RowT Try.prog 41 d0.length := by rw [spanR_len z0]; exact rowISpan
  have r1 : RowT Try.prog 41 d1.length := by rw [spanR_len z1]; exact rowISpan
  have I0 := sub_in P0 1 y0
  have I1 := sub_in P1 1 y1
  clear y0 y1
  have z0 := spanR_keeps _ _ _ None1 _ _ (Below.turn B0) none_off z0
  have z1 := spanR_keeps _ _ _ None1 _ _ (Below.turn B0) none_off z1
  by_cases e0 : x.stamp = y.stamp
  case neg =>
    have n0 : (x.stamp == y.stamp) = false := by simpa using e0
    go_enter Try.func50, Try.ntmps50
    go_upto_region 1 with fail
    generalize World.alloc (World.alloc w _) _ = w0 at *
    have p0 := P0.2 0 _ (unhide HQ)
    have q0 := P1.2 0 _ (unhide HQ2)
    go_wp2
    go_ret
    exact ⟨ret_bool (by simp [sameIB, e0]), B0⟩
  have n0 : (x.stamp == y.stamp) = true := by simpa using e0
  have E0 := hide e0
  clear e0
  go_enter Try.func50, Try.ntmps50
  go_upto_region 1 with fail
  generalize World.alloc (World.alloc w _) _ = w0 at *
  have p0 := P0.2 0 _ (unhide HQ)
  have q0 := P1.2 0 _ (unhide HQ2)
  go_wp2_with (first | (refine wpl_loadG (by rfl) 41 _ rfl _ 1 rfl d0 I0 r0 ?_) | (refine wpl_loadG (by rfl) 41 _ rfl _ 1 rfl d1 I1 r1 ?_))
  refine (specSameSpanN x.s y.s _ d0 _ d1 _ z0 (by unfold itemBulk at b0; unfold spanBulk; omega) z1 (by unfold itemBulk at b1; unfold spanBulk; omega)).mono ?_
  rintro e w1 ⟨rfl, hb1⟩
  go_wp2
  go_ret
  exact ⟨ret_bool (by rw [sameIB, decide_eq_true (unhide E0), Bool.true_and]), bthen B0 hb1⟩
end Go.Proofs.Ytklhljknkcmecaa
