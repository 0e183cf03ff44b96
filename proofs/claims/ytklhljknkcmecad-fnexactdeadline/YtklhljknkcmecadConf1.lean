/-
  Contracts of Deadline and Fits, of the program and of the specification.
-/
import Derived.Test.YtklhljknkcmecadAConf
import Derived.Test.YtklhljknkcmecadASpan
import Derived.Test.YtklhljknkcmecadAbs2
import Derived.Test.YtklhljknkcmecadBridge
import Derived.Test.YtklhljknkcmecadSpanOk
import Derived.Test.YtklhljknkcmecadSizeOf
namespace Go.Proofs.Ytklhljknkcmecad
open Go.ChangeShapes Go.WideShapes Go.ChangeAt Go.RowKit
set_option linter.unusedVariables false
set_option maxRecDepth 100000

def okSpB (x : SpanD) : Bool := spanB x.1 x.2.1 x.2.2.1 x.2.2.2.1 x.2.2.2.2.2
def sizeV (x : SpanD) : Int := 12 + sumA x.2.2.2.2.2
def fitsB (c : ConfD) (x : SpanD) : Bool := okSpB x && decide (sizeV x ≤ c.budget)
theorem specOkN (x : SpanD) (S0 : Nat → Prop) (c0 : List Value) (w : World) (h0 : spanR w S0 c0 x) (b0 : spanBulk x ≤ 1048576) :
    Calls Try.prog 61 #[.agg c0.toArray] w fun e w' => e = .returned (.bool (okSpB x)) ∧ Below w.heap.size w w' := by
  obtain ⟨s, rfl, g⟩ := h0
  have q1 := bulk_span x
  exact specSpanOk x.1 x.2.1 x.2.2.1 x.2.2.2.1 x.2.2.2.2.1 x.2.2.2.2.2 s w (attrs_old g) (by omega) (by omega)
theorem specSzOfN (x : SpanD) (S0 : Nat → Prop) (c0 : List Value) (w : World) (h0 : spanR w S0 c0 x) (b0 : spanBulk x ≤ 1048576) :
    Calls Try.prog 62 #[.agg c0.toArray] w fun e w' => e = .returned (.int .i64 (sizeV x)) ∧ Below w.heap.size w w' := by
  obtain ⟨s, rfl, g⟩ := h0
  have q1 := bulk_span x
  exact specSizeOf x.1 x.2.1 x.2.2.1 x.2.2.2.1 x.2.2.2.2.1 x.2.2.2.2.2 s w (attrs_old g) (by omega) (by omega)
theorem specDeadline (x : ConfD) (n : Int) (S0 : Nat → Prop) (c0 : List Value) (w : World) (h0 : confR w S0 c0 x) (b0 : confBulk x ≤ 1048576) :
    Calls Try.prog 25 #[.agg c0.toArray, .int .i64 n] w fun e w' => e = .returned (.int .i64 (addv n x.wait)) ∧ Below w.heap.size w w' := by
  have q := confR_c1 h0
  have P0 := Held.new w c0 40
  have B0 := bnew w (.cells c0.toArray 40)
  have HQ := hide q
  clear q
  go_enter Try.func25, Try.ntmps25
  go_upto_region 1 with fail
  generalize World.alloc w _ = w0 at *
  have p1 := P0.2 1 _ (unhide HQ)
  go_wp2_with fail
  refine (specAdd n x.wait _).mono ?_
  rintro e w1 ⟨rfl, hb1⟩
  obtain rfl := hb1.symm
  have hb1 := Below.refl w0.heap.size w0
  clear p1
  go_wp2
  go_ret
  exact ⟨rfl, B0⟩
set_option maxHeartbeats 2000000 in
theorem specFits (x : ConfD) (y : SpanD) (S0 : Nat → Prop) (c0 : List Value) (S1 : Nat → Prop) (c1 : List Value) (w : World) (h0 : confR w S0 c0 x) (b0 : confBulk x ≤ 1048576) (h1 : spanR w S1 c1 y) (b1 : spanBulk y ≤ 1048576) :
    Calls Try.prog 30 #[.agg c0.toArray, .agg c1.toArray] w fun e w' => e = .returned (.bool (fitsB x y)) ∧ Below w.heap.size w w' := by
  have HQ := hide (confR_c2 h0)
  have HS := hide h1
  have P0 := (Held.new w c0 40).keep (bnew _ (.cells c1.toArray 51))
  have P1 := Held.new (w.alloc (.cells c0.toArray 40)) c1 51
  rw [show (w.alloc (.cells c0.toArray 40)).heap.size = w.heap.size + 1 by simp] at P1
  have B0 := bthen (bnew w (.cells c0.toArray 40)) (bnew _ (.cells c1.toArray 51))
  have r1 : RowT Try.prog 51 c1.length := by rw [spanR_len h1]; exact rowISpan
  clear h0 h1
  go_enter Try.func30, Try.ntmps30
  go_upto_region 1 with fail
  generalize World.alloc (World.alloc w _) _ = w0 at *
  cases hok : okSpB y
  ·
    refine wp_region_held_drew (S := fun w' => Below w0.heap.size w0 w') (by kernel_rfl) (Below.drew (Below.refl _ _)) (fun hHeld => ?_)
    refine wpAnyH_take (i := 0) (oi := ?oo1) (v := .agg c1.toArray) ?hi1 (by kernel_rfl) (by kernel_rfl) (by kernel_rfl) ?hQ1 ?hy1 (by assumption) ?rest1
    case hi1 => (simp only [List.getElem?_toArray, List.getElem?_cons_zero]; rfl)
    case hQ1 => exact fun _ _ _ h => h
    case hy1 => exact yld_load (by rfl) _ _ rfl _ 0 rfl c1 (fun w' hS => (P1.keep hS).inB) r1
    try simp only [Act.put, List.setIfInBounds_toArray, List.set_cons_zero, List.set_cons_succ]
    refine wpAnyH_ready (rs := [1]) (by kernel_rfl) (by simp) ?_
    refine (AllReadyH.cons (o := ?bo2n1) ?bh2n1 (fun K hK => ?br2n1) AllReadyH.nil)
    case bh2n1 => (simp only [List.getElem?_toArray, List.getElem?_cons_zero, List.getElem?_cons_succ]; rfl)
    case br2n1 =>
      go_simp
      have hc := specOkN y _ c1 _ (spanR_keeps _ _ _ None1 _ _ (Below.turn (bthen B0 hHeld)) none_off (unhide HS)) b1
      rw [hok] at hc
      refine hc.mono ?_
      rintro e w5 ⟨rfl, hb5⟩
      have hH5 := bthen hHeld hb5
      clear hc hHeld hb5
      go_wp2_with fail
      refine hK.out _ _ (hH5) (fun hHeld => ?_)
      clear hK
      refine wpAnyH_take (i := 2) (oi := ?oo3) (v := ?vv3) ?hi3 (by kernel_rfl) (by kernel_rfl) (by kernel_rfl) ?hQ3 ?hy3 (by assumption) ?rest3
      case hi3 => (simp only [List.getElem?_toArray, List.getElem?_cons_zero, List.getElem?_cons_succ]; rfl)
      case hQ3 => exact fun _ _ _ h => h
      case hy3 => exact Or.inl ⟨by rfl, by intro wS hSw; (try dsimp only at hSw); go_simp; try first | (with_reducible rfl) | (simp only [*]; done) | omega⟩
      try simp only [Act.put, List.setIfInBounds_toArray, List.set_cons_zero, List.set_cons_succ]
      refine wpAnyH_take (i := 3) (oi := ?oo4) (v := undef) ?hi4 (by kernel_rfl) (by kernel_rfl) (by kernel_rfl) ?hQ4 ?hy4 (by assumption) ?rest4
      case hi4 => (simp only [List.getElem?_toArray, List.getElem?_cons_zero, List.getElem?_cons_succ]; rfl)
      case hQ4 => exact fun _ _ _ h => h
      case hy4 => exact Or.inr ⟨by rfl, rfl⟩
      try simp only [Act.put, List.setIfInBounds_toArray, List.set_cons_zero, List.set_cons_succ]
      refine wpAnyH_take (i := 4) (oi := ?oo5) (v := undef) ?hi5 (by kernel_rfl) (by kernel_rfl) (by kernel_rfl) ?hQ5 ?hy5 (by assumption) ?rest5
      case hi5 => (simp only [List.getElem?_toArray, List.getElem?_cons_zero, List.getElem?_cons_succ]; rfl)
      case hQ5 => exact fun _ _ _ h => h
      case hy5 => exact Or.inr ⟨by rfl, rfl⟩
      try simp only [Act.put, List.setIfInBounds_toArray, List.set_cons_zero, List.set_cons_succ]
      refine wpAnyH_take (i := 5) (oi := ?oo6) (v := undef) ?hi6 (by kernel_rfl) (by kernel_rfl) (by kernel_rfl) ?hQ6 ?hy6 (by assumption) ?rest6
      case hi6 => (simp only [List.getElem?_toArray, List.getElem?_cons_zero, List.getElem?_cons_succ]; rfl)
      case hQ6 => exact fun _ _ _ h => h
      case hy6 => exact Or.inr ⟨by rfl, rfl⟩
      try simp only [Act.put, List.setIfInBounds_toArray, List.set_cons_zero, List.set_cons_succ]
      refine wpAnyH_take (i := 6) (oi := ?oo7) (v := undef) ?hi7 (by kernel_rfl) (by kernel_rfl) (by kernel_rfl) ?hQ7 ?hy7 (by assumption) ?rest7
      case hi7 => (simp only [List.getElem?_toArray, List.getElem?_cons_zero, List.getElem?_cons_succ]; rfl)
      case hQ7 => exact fun _ _ _ h => h
      case hy7 => exact Or.inr ⟨by rfl, rfl⟩
      try simp only [Act.put, List.setIfInBounds_toArray, List.set_cons_zero, List.set_cons_succ]
      refine wpAnyH_take (i := 7) (oi := ?oo8) (v := undef) ?hi8 (by kernel_rfl) (by kernel_rfl) (by kernel_rfl) ?hQ8 ?hy8 (by assumption) ?rest8
      case hi8 => (simp only [List.getElem?_toArray, List.getElem?_cons_zero, List.getElem?_cons_succ]; rfl)
      case hQ8 => exact fun _ _ _ h => h
      case hy8 => exact Or.inr ⟨by rfl, rfl⟩
      try simp only [Act.put, List.setIfInBounds_toArray, List.set_cons_zero, List.set_cons_succ]
      refine wpAnyH_take (i := 8) (oi := ?oo9) (v := ?vv9) ?hi9 (by kernel_rfl) (by kernel_rfl) (by kernel_rfl) ?hQ9 ?hy9 (by assumption) ?rest9
      case hi9 => (simp only [List.getElem?_toArray, List.getElem?_cons_zero, List.getElem?_cons_succ]; rfl)
      case hQ9 => exact fun _ _ _ h => h
      case hy9 => exact Or.inl ⟨by rfl, by intro wS hSw; (try dsimp only at hSw); go_simp; try first | (with_reducible rfl) | (simp only [*]; done) | omega⟩
      try simp only [Act.put, List.setIfInBounds_toArray, List.set_cons_zero, List.set_cons_succ]
      refine wpAnyH_take (i := 9) (oi := ?oo10) (v := ?vv10) ?hi10 (by kernel_rfl) (by kernel_rfl) (by kernel_rfl) ?hQ10 ?hy10 (by assumption) ?rest10
      case hi10 => (simp only [List.getElem?_toArray, List.getElem?_cons_zero, List.getElem?_cons_succ]; rfl)
      case hQ10 => exact fun _ _ _ h => h
      case hy10 => exact Or.inl ⟨by rfl, by intro wS hSw; (try dsimp only at hSw); go_simp; try first | (with_reducible rfl) | (simp only [*]; done) | omega⟩
      try simp only [Act.put, List.setIfInBounds_toArray, List.set_cons_zero, List.set_cons_succ]
      refine wpAnyH_done (by kernel_rfl) ?_ _
      go_wp2
      go_ret
      exact ⟨ret_bool (by rw [fitsB, hok]; simp), bthen B0 hHeld⟩
  ·
    refine wp_region_held_drew (S := fun w' => Below w0.heap.size w0 w') (by kernel_rfl) (Below.drew (Below.refl _ _)) (fun hHeld => ?_)
    refine wpAnyH_take (i := 0) (oi := ?oo11) (v := .agg c1.toArray) ?hi11 (by kernel_rfl) (by kernel_rfl) (by kernel_rfl) ?hQ11 ?hy11 (by assumption) ?rest11
    case hi11 => (simp only [List.getElem?_toArray, List.getElem?_cons_zero]; rfl)
    case hQ11 => exact fun _ _ _ h => h
    case hy11 => exact yld_load (by rfl) _ _ rfl _ 0 rfl c1 (fun w' hS => (P1.keep hS).inB) r1
    try simp only [Act.put, List.setIfInBounds_toArray, List.set_cons_zero, List.set_cons_succ]
    refine wpAnyH_ready (rs := [1]) (by kernel_rfl) (by simp) ?_
    refine (AllReadyH.cons (o := ?bo12n1) ?bh12n1 (fun K hK => ?br12n1) AllReadyH.nil)
    case bh12n1 => (simp only [List.getElem?_toArray, List.getElem?_cons_zero, List.getElem?_cons_succ]; rfl)
    case br12n1 =>
      go_simp
      have hc := specOkN y _ c1 _ (spanR_keeps _ _ _ None1 _ _ (Below.turn (bthen B0 hHeld)) none_off (unhide HS)) b1
      rw [hok] at hc
      refine hc.mono ?_
      rintro e w5 ⟨rfl, hb5⟩
      have hH5 := bthen hHeld hb5
      clear hc hHeld hb5
      go_wp2_with fail
      refine hK.out _ _ (hH5) (fun hHeld => ?_)
      clear hK
      refine wpAnyH_take (i := 2) (oi := ?oo13) (v := ?vv13) ?hi13 (by kernel_rfl) (by kernel_rfl) (by kernel_rfl) ?hQ13 ?hy13 (by assumption) ?rest13
      case hi13 => (simp only [List.getElem?_toArray, List.getElem?_cons_zero, List.getElem?_cons_succ]; rfl)
      case hQ13 => exact fun _ _ _ h => h
      case hy13 => exact Or.inl ⟨by rfl, by intro wS hSw; (try dsimp only at hSw); go_simp; try first | (with_reducible rfl) | (simp only [*]; done) | omega⟩
      try simp only [Act.put, List.setIfInBounds_toArray, List.set_cons_zero, List.set_cons_succ]
      refine wpAnyH_take (i := 3) (oi := ?oo14) (v := .agg c1.toArray) ?hi14 (by kernel_rfl) (by kernel_rfl) (by kernel_rfl) ?hQ14 ?hy14 (by assumption) ?rest14
      case hi14 => (simp only [List.getElem?_toArray, List.getElem?_cons_zero, List.getElem?_cons_succ]; rfl)
      case hQ14 => exact fun _ _ _ h => h
      case hy14 => exact yld_load (by rfl) _ _ rfl _ 0 rfl c1 (fun w' hS => (P1.keep hS).inB) r1
      try simp only [Act.put, List.setIfInBounds_toArray, List.set_cons_zero, List.set_cons_succ]
      refine wpAnyH_take (i := 5) (oi := ?oo15) (v := ?vv15) ?hi15 (by kernel_rfl) (by kernel_rfl) (by kernel_rfl) ?hQ15 ?hy15 (by assumption) ?rest15
      case hi15 => (simp only [List.getElem?_toArray, List.getElem?_cons_zero, List.getElem?_cons_succ]; rfl)
      case hQ15 => exact fun _ _ _ h => h
      case hy15 => exact Or.inl ⟨by rfl, by intro wS hSw; (try dsimp only at hSw); go_simp; try first | (with_reducible rfl) | (simp only [*]; done) | omega⟩
      try simp only [Act.put, List.setIfInBounds_toArray, List.set_cons_zero, List.set_cons_succ]
      refine wpAnyH_take (i := 6) (oi := ?oo16) (v := .int .i64 x.budget) ?hi16 (by kernel_rfl) (by kernel_rfl) (by kernel_rfl) ?hQ16 ?hy16 (by assumption) ?rest16
      case hi16 => (simp only [List.getElem?_toArray, List.getElem?_cons_zero, List.getElem?_cons_succ]; rfl)
      case hQ16 => exact fun _ _ _ h => h
      case hy16 => exact yld_cell (by rfl) _ _ rfl _ _ rfl _ (fun w' hS => (P0.keep hS).2 2 _ (unhide HQ)) plainInt
      try simp only [Act.put, List.setIfInBounds_toArray, List.set_cons_zero, List.set_cons_succ]
      refine wpAnyH_ready (rs := [4]) (by kernel_rfl) (by simp) ?_
      refine (AllReadyH.cons (o := ?bo17n4) ?bh17n4 (fun K hK => ?br17n4) AllReadyH.nil)
      case bh17n4 => (simp only [List.getElem?_toArray, List.getElem?_cons_zero, List.getElem?_cons_succ]; rfl)
      case br17n4 =>
        go_simp
        refine (specSzOfN y _ c1 _ (spanR_keeps _ _ _ None1 _ _ (Below.turn (bthen B0 hHeld)) none_off (unhide HS)) b1).mono ?_
        rintro e w6 ⟨rfl, hb6⟩
        have hH6 := bthen hHeld hb6
        clear hHeld hb6
        go_wp2_with fail
        refine hK.out _ _ (hH6) (fun hHeld => ?_)
        clear hK
        refine wpAnyH_take (i := 7) (oi := ?oo18) (v := ?vv18) ?hi18 (by kernel_rfl) (by kernel_rfl) (by kernel_rfl) ?hQ18 ?hy18 (by assumption) ?rest18
        case hi18 => (simp only [List.getElem?_toArray, List.getElem?_cons_zero, List.getElem?_cons_succ]; rfl)
        case hQ18 => exact fun _ _ _ h => h
        case hy18 => exact Or.inl ⟨by rfl, by intro wS hSw; (try dsimp only at hSw); go_simp; try first | (with_reducible rfl) | (simp only [*]; done) | omega⟩
        try simp only [Act.put, List.setIfInBounds_toArray, List.set_cons_zero, List.set_cons_succ]
        refine wpAnyH_take (i := 8) (oi := ?oo19) (v := ?vv19) ?hi19 (by kernel_rfl) (by kernel_rfl) (by kernel_rfl) ?hQ19 ?hy19 (by assumption) ?rest19
        case hi19 => (simp only [List.getElem?_toArray, List.getElem?_cons_zero, List.getElem?_cons_succ]; rfl)
        case hQ19 => exact fun _ _ _ h => h
        case hy19 => exact Or.inl ⟨by rfl, by intro wS hSw; (try dsimp only at hSw); go_simp; try first | (with_reducible rfl) | (simp only [*]; done) | omega⟩
        try simp only [Act.put, List.setIfInBounds_toArray, List.set_cons_zero, List.set_cons_succ]
        refine wpAnyH_take (i := 9) (oi := ?oo20) (v := ?vv20) ?hi20 (by kernel_rfl) (by kernel_rfl) (by kernel_rfl) ?hQ20 ?hy20 (by assumption) ?rest20
        case hi20 => (simp only [List.getElem?_toArray, List.getElem?_cons_zero, List.getElem?_cons_succ]; rfl)
        case hQ20 => exact fun _ _ _ h => h
        case hy20 => exact Or.inl ⟨by rfl, by intro wS hSw; (try dsimp only at hSw); go_simp; try first | (with_reducible rfl) | (simp only [*]; done) | omega⟩
        try simp only [Act.put, List.setIfInBounds_toArray, List.set_cons_zero, List.set_cons_succ]
        refine wpAnyH_done (by kernel_rfl) ?_ _
        go_wp2
        go_ret
        exact ⟨ret_bool (by rw [fitsB, hok]; simp), bthen B0 hHeld⟩
theorem implOkN (x : SpanD) (S0 : Nat → Prop) (c0 : List Value) (w : World) (h0 : spanR w S0 c0 x) (b0 : spanBulk x ≤ 1048576) :
    Calls Try.prog 64 #[.agg c0.toArray] w fun e w' => e = .returned (.bool (okSpB x)) ∧ Below w.heap.size w w' := by
  obtain ⟨s, rfl, g⟩ := h0
  have q1 := bulk_span x
  exact implSpanOk x.1 x.2.1 x.2.2.1 x.2.2.2.1 x.2.2.2.2.1 x.2.2.2.2.2 s w (attrs_old g) (by omega) (by omega)
theorem implSzOfN (x : SpanD) (S0 : Nat → Prop) (c0 : List Value) (w : World) (h0 : spanR w S0 c0 x) (b0 : spanBulk x ≤ 1048576) :
    Calls Try.prog 65 #[.agg c0.toArray] w fun e w' => e = .returned (.int .i64 (sizeV x)) ∧ Below w.heap.size w w' := by
  obtain ⟨s, rfl, g⟩ := h0
  have q1 := bulk_span x
  exact implSizeOf x.1 x.2.1 x.2.2.1 x.2.2.2.1 x.2.2.2.2.1 x.2.2.2.2.2 s w (attrs_old g) (by omega) (by omega)
theorem implDeadline (x : ConfD) (n : Int) (S0 : Nat → Prop) (c0 : List Value) (w : World) (h0 : confR w S0 c0 x) (b0 : confBulk x ≤ 1048576) :
    Calls Try.prog 27 #[.agg c0.toArray, .int .i64 n] w fun e w' => e = .returned (.int .i64 (addv n x.wait)) ∧ Below w.heap.size w w' := by
  have q := confR_c1 h0
  have P0 := Held.new w c0 40
  have B0 := bnew w (.cells c0.toArray 40)
  have HQ := hide q
  clear q
  go_enter Try.func27, Try.ntmps27
  go_upto_region 1 with fail
  generalize World.alloc w _ = w0 at *
  have p1 := P0.2 1 _ (unhide HQ)
  go_wp2_with fail
  refine (implAdd n x.wait _).mono ?_
  rintro e w1 ⟨rfl, hb1⟩
  clear p1
  go_wp2
  go_ret
  exact ⟨rfl, bthen B0 hb1⟩
set_option maxHeartbeats 2000000 in
theorem implFits (x : ConfD) (y : SpanD) (S0 : Nat → Prop) (c0 : List Value) (S1 : Nat → Prop) (c1 : List Value) (w : World) (h0 : confR w S0 c0 x) (b0 : confBulk x ≤ 1048576) (h1 : spanR w S1 c1 y) (b1 : spanBulk y ≤ 1048576) :
    Calls Try.prog 32 #[.agg c0.toArray, .agg c1.toArray] w fun e w' => e = .returned (.bool (fitsB x y)) ∧ Below w.heap.size w w' := by
  have HQ := hide (confR_c2 h0)
  have HS := hide h1
  have P0 := (Held.new w c0 40).keep (bnew _ (.cells c1.toArray 51))
  have P1 := Held.new (w.alloc (.cells c0.toArray 40)) c1 51
  rw [show (w.alloc (.cells c0.toArray 40)).heap.size = w.heap.size + 1 by simp] at P1
  have B0 := bthen (bnew w (.cells c0.toArray 40)) (bnew _ (.cells c1.toArray 51))
  have r1 : RowT Try.prog 51 c1.length := by rw [spanR_len h1]; exact rowISpan
  clear h0 h1
  go_enter Try.func32, Try.ntmps32
  go_upto_region 1 with fail
  generalize World.alloc (World.alloc w _) _ = w0 at *
  cases hok : okSpB y
  ·
    refine wp_region_held_drew (S := fun w' => Below w0.heap.size w0 w') (by kernel_rfl) (Below.drew (Below.refl _ _)) (fun hHeld => ?_)
    refine wpAnyH_take (i := 0) (oi := ?oo21) (v := .agg c1.toArray) ?hi21 (by kernel_rfl) (by kernel_rfl) (by kernel_rfl) ?hQ21 ?hy21 (by assumption) ?rest21
    case hi21 => (simp only [List.getElem?_toArray, List.getElem?_cons_zero]; rfl)
    case hQ21 => exact fun _ _ _ h => h
    case hy21 => exact yld_load (by rfl) _ _ rfl _ 0 rfl c1 (fun w' hS => (P1.keep hS).inB) r1
    try simp only [Act.put, List.setIfInBounds_toArray, List.set_cons_zero, List.set_cons_succ]
    refine wpAnyH_ready (rs := [1]) (by kernel_rfl) (by simp) ?_
    refine (AllReadyH.cons (o := ?bo22n1) ?bh22n1 (fun K hK => ?br22n1) AllReadyH.nil)
    case bh22n1 => (simp only [List.getElem?_toArray, List.getElem?_cons_zero, List.getElem?_cons_succ]; rfl)
    case br22n1 =>
      go_simp
      have hc := implOkN y _ c1 _ (spanR_keeps _ _ _ None1 _ _ (Below.turn (bthen B0 hHeld)) none_off (unhide HS)) b1
      rw [hok] at hc
      refine hc.mono ?_
      rintro e w5 ⟨rfl, hb5⟩
      have hH5 := bthen hHeld hb5
      clear hc hHeld hb5
      go_wp2_with fail
      refine hK.out _ _ (hH5) (fun hHeld => ?_)
      clear hK
      refine wpAnyH_take (i := 2) (oi := ?oo23) (v := ?vv23) ?hi23 (by kernel_rfl) (by kernel_rfl) (by kernel_rfl) ?hQ23 ?hy23 (by assumption) ?rest23
      case hi23 => (simp only [List.getElem?_toArray, List.getElem?_cons_zero, List.getElem?_cons_succ]; rfl)
      case hQ23 => exact fun _ _ _ h => h
      case hy23 => exact Or.inl ⟨by rfl, by intro wS hSw; (try dsimp only at hSw); go_simp; try first | (with_reducible rfl) | (simp only [*]; done) | omega⟩
      try simp only [Act.put, List.setIfInBounds_toArray, List.set_cons_zero, List.set_cons_succ]
      refine wpAnyH_take (i := 3) (oi := ?oo24) (v := undef) ?hi24 (by kernel_rfl) (by kernel_rfl) (by kernel_rfl) ?hQ24 ?hy24 (by assumption) ?rest24
      case hi24 => (simp only [List.getElem?_toArray, List.getElem?_cons_zero, List.getElem?_cons_succ]; rfl)
      case hQ24 => exact fun _ _ _ h => h
      case hy24 => exact Or.inr ⟨by rfl, rfl⟩
      try simp only [Act.put, List.setIfInBounds_toArray, List.set_cons_zero, List.set_cons_succ]
      refine wpAnyH_take (i := 4) (oi := ?oo25) (v := undef) ?hi25 (by kernel_rfl) (by kernel_rfl) (by kernel_rfl) ?hQ25 ?hy25 (by assumption) ?rest25
      case hi25 => (simp only [List.getElem?_toArray, List.getElem?_cons_zero, List.getElem?_cons_succ]; rfl)
      case hQ25 => exact fun _ _ _ h => h
      case hy25 => exact Or.inr ⟨by rfl, rfl⟩
      try simp only [Act.put, List.setIfInBounds_toArray, List.set_cons_zero, List.set_cons_succ]
      refine wpAnyH_take (i := 5) (oi := ?oo26) (v := undef) ?hi26 (by kernel_rfl) (by kernel_rfl) (by kernel_rfl) ?hQ26 ?hy26 (by assumption) ?rest26
      case hi26 => (simp only [List.getElem?_toArray, List.getElem?_cons_zero, List.getElem?_cons_succ]; rfl)
      case hQ26 => exact fun _ _ _ h => h
      case hy26 => exact Or.inr ⟨by rfl, rfl⟩
      try simp only [Act.put, List.setIfInBounds_toArray, List.set_cons_zero, List.set_cons_succ]
      refine wpAnyH_take (i := 6) (oi := ?oo27) (v := undef) ?hi27 (by kernel_rfl) (by kernel_rfl) (by kernel_rfl) ?hQ27 ?hy27 (by assumption) ?rest27
      case hi27 => (simp only [List.getElem?_toArray, List.getElem?_cons_zero, List.getElem?_cons_succ]; rfl)
      case hQ27 => exact fun _ _ _ h => h
      case hy27 => exact Or.inr ⟨by rfl, rfl⟩
      try simp only [Act.put, List.setIfInBounds_toArray, List.set_cons_zero, List.set_cons_succ]
      refine wpAnyH_take (i := 7) (oi := ?oo28) (v := undef) ?hi28 (by kernel_rfl) (by kernel_rfl) (by kernel_rfl) ?hQ28 ?hy28 (by assumption) ?rest28
      case hi28 => (simp only [List.getElem?_toArray, List.getElem?_cons_zero, List.getElem?_cons_succ]; rfl)
      case hQ28 => exact fun _ _ _ h => h
      case hy28 => exact Or.inr ⟨by rfl, rfl⟩
      try simp only [Act.put, List.setIfInBounds_toArray, List.set_cons_zero, List.set_cons_succ]
      refine wpAnyH_take (i := 8) (oi := ?oo29) (v := ?vv29) ?hi29 (by kernel_rfl) (by kernel_rfl) (by kernel_rfl) ?hQ29 ?hy29 (by assumption) ?rest29
      case hi29 => (simp only [List.getElem?_toArray, List.getElem?_cons_zero, List.getElem?_cons_succ]; rfl)
      case hQ29 => exact fun _ _ _ h => h
      case hy29 => exact Or.inl ⟨by rfl, by intro wS hSw; (try dsimp only at hSw); go_simp; try first | (with_reducible rfl) | (simp only [*]; done) | omega⟩
      try simp only [Act.put, List.setIfInBounds_toArray, List.set_cons_zero, List.set_cons_succ]
      refine wpAnyH_take (i := 9) (oi := ?oo30) (v := ?vv30) ?hi30 (by kernel_rfl) (by kernel_rfl) (by kernel_rfl) ?hQ30 ?hy30 (by assumption) ?rest30
      case hi30 => (simp only [List.getElem?_toArray, List.getElem?_cons_zero, List.getElem?_cons_succ]; rfl)
      case hQ30 => exact fun _ _ _ h => h
      case hy30 => exact Or.inl ⟨by rfl, by intro wS hSw; (try dsimp only at hSw); go_simp; try first | (with_reducible rfl) | (simp only [*]; done) | omega⟩
      try simp only [Act.put, List.setIfInBounds_toArray, List.set_cons_zero, List.set_cons_succ]
      refine wpAnyH_done (by kernel_rfl) ?_ _
      go_wp2
      go_ret
      exact ⟨ret_bool (by rw [fitsB, hok]; simp), bthen B0 hHeld⟩
  ·
    refine wp_region_held_drew (S := fun w' => Below w0.heap.size w0 w') (by kernel_rfl) (Below.drew (Below.refl _ _)) (fun hHeld => ?_)
    refine wpAnyH_take (i := 0) (oi := ?oo31) (v := .agg c1.toArray) ?hi31 (by kernel_rfl) (by kernel_rfl) (by kernel_rfl) ?hQ31 ?hy31 (by assumption) ?rest31
    case hi31 => (simp only [List.getElem?_toArray, List.getElem?_cons_zero]; rfl)
    case hQ31 => exact fun _ _ _ h => h
    case hy31 => exact yld_load (by rfl) _ _ rfl _ 0 rfl c1 (fun w' hS => (P1.keep hS).inB) r1
    try simp only [Act.put, List.setIfInBounds_toArray, List.set_cons_zero, List.set_cons_succ]
    refine wpAnyH_ready (rs := [1]) (by kernel_rfl) (by simp) ?_
    refine (AllReadyH.cons (o := ?bo32n1) ?bh32n1 (fun K hK => ?br32n1) AllReadyH.nil)
    case bh32n1 => (simp only [List.getElem?_toArray, List.getElem?_cons_zero, List.getElem?_cons_succ]; rfl)
    case br32n1 =>
      go_simp
      have hc := implOkN y _ c1 _ (spanR_keeps _ _ _ None1 _ _ (Below.turn (bthen B0 hHeld)) none_off (unhide HS)) b1
      rw [hok] at hc
      refine hc.mono ?_
      rintro e w5 ⟨rfl, hb5⟩
      have hH5 := bthen hHeld hb5
      clear hc hHeld hb5
      go_wp2_with fail
      refine hK.out _ _ (hH5) (fun hHeld => ?_)
      clear hK
      refine wpAnyH_take (i := 2) (oi := ?oo33) (v := ?vv33) ?hi33 (by kernel_rfl) (by kernel_rfl) (by kernel_rfl) ?hQ33 ?hy33 (by assumption) ?rest33
      case hi33 => (simp only [List.getElem?_toArray, List.getElem?_cons_zero, List.getElem?_cons_succ]; rfl)
      case hQ33 => exact fun _ _ _ h => h
      case hy33 => exact Or.inl ⟨by rfl, by intro wS hSw; (try dsimp only at hSw); go_simp; try first | (with_reducible rfl) | (simp only [*]; done) | omega⟩
      try simp only [Act.put, List.setIfInBounds_toArray, List.set_cons_zero, List.set_cons_succ]
      refine wpAnyH_take (i := 3) (oi := ?oo34) (v := .agg c1.toArray) ?hi34 (by kernel_rfl) (by kernel_rfl) (by kernel_rfl) ?hQ34 ?hy34 (by assumption) ?rest34
      case hi34 => (simp only [List.getElem?_toArray, List.getElem?_cons_zero, List.getElem?_cons_succ]; rfl)
      case hQ34 => exact fun _ _ _ h => h
      case hy34 => exact yld_load (by rfl) _ _ rfl _ 0 rfl c1 (fun w' hS => (P1.keep hS).inB) r1
      try simp only [Act.put, List.setIfInBounds_toArray, List.set_cons_zero, List.set_cons_succ]
      refine wpAnyH_take (i := 5) (oi := ?oo35) (v := ?vv35) ?hi35 (by kernel_rfl) (by kernel_rfl) (by kernel_rfl) ?hQ35 ?hy35 (by assumption) ?rest35
      case hi35 => (simp only [List.getElem?_toArray, List.getElem?_cons_zero, List.getElem?_cons_succ]; rfl)
      case hQ35 => exact fun _ _ _ h => h
      case hy35 => exact Or.inl ⟨by rfl, by intro wS hSw; (try dsimp only at hSw); go_simp; try first | (with_reducible rfl) | (simp only [*]; done) | omega⟩
      try simp only [Act.put, List.setIfInBounds_toArray, List.set_cons_zero, List.set_cons_succ]
      refine wpAnyH_take (i := 6) (oi := ?oo36) (v := .int .i64 x.budget) ?hi36 (by kernel_rfl) (by kernel_rfl) (by kernel_rfl) ?hQ36 ?hy36 (by assumption) ?rest36
      case hi36 => (simp only [List.getElem?_toArray, List.getElem?_cons_zero, List.getElem?_cons_succ]; rfl)
      case hQ36 => exact fun _ _ _ h => h
      case hy36 => exact yld_cell (by rfl) _ _ rfl _ _ rfl _ (fun w' hS => (P0.keep hS).2 2 _ (unhide HQ)) plainInt
      try simp only [Act.put, List.setIfInBounds_toArray, List.set_cons_zero, List.set_cons_succ]
      refine wpAnyH_ready (rs := [4]) (by kernel_rfl) (by simp) ?_
      refine (AllReadyH.cons (o := ?bo37n4) ?bh37n4 (fun K hK => ?br37n4) AllReadyH.nil)
      case bh37n4 => (simp only [List.getElem?_toArray, List.getElem?_cons_zero, List.getElem?_cons_succ]; rfl)
      case br37n4 =>
        go_simp
        refine (implSzOfN y _ c1 _ (spanR_keeps _ _ _ None1 _ _ (Below.turn (bthen B0 hHeld)) none_off (unhide HS)) b1).mono ?_
        rintro e w6 ⟨rfl, hb6⟩
        have hH6 := bthen hHeld hb6
        clear hHeld hb6
        go_wp2_with fail
        refine hK.out _ _ (hH6) (fun hHeld => ?_)
        clear hK
        refine wpAnyH_take (i := 7) (oi := ?oo38) (v := ?vv38) ?hi38 (by kernel_rfl) (by kernel_rfl) (by kernel_rfl) ?hQ38 ?hy38 (by assumption) ?rest38
        case hi38 => (simp only [List.getElem?_toArray, List.getElem?_cons_zero, List.getElem?_cons_succ]; rfl)
        case hQ38 => exact fun _ _ _ h => h
        case hy38 => exact Or.inl ⟨by rfl, by intro wS hSw; (try dsimp only at hSw); go_simp; try first | (with_reducible rfl) | (simp only [*]; done) | omega⟩
        try simp only [Act.put, List.setIfInBounds_toArray, List.set_cons_zero, List.set_cons_succ]
        refine wpAnyH_take (i := 8) (oi := ?oo39) (v := ?vv39) ?hi39 (by kernel_rfl) (by kernel_rfl) (by kernel_rfl) ?hQ39 ?hy39 (by assumption) ?rest39
        case hi39 => (simp only [List.getElem?_toArray, List.getElem?_cons_zero, List.getElem?_cons_succ]; rfl)
        case hQ39 => exact fun _ _ _ h => h
        case hy39 => exact Or.inl ⟨by rfl, by intro wS hSw; (try dsimp only at hSw); go_simp; try first | (with_reducible rfl) | (simp only [*]; done) | omega⟩
        try simp only [Act.put, List.setIfInBounds_toArray, List.set_cons_zero, List.set_cons_succ]
        refine wpAnyH_take (i := 9) (oi := ?oo40) (v := ?vv40) ?hi40 (by kernel_rfl) (by kernel_rfl) (by kernel_rfl) ?hQ40 ?hy40 (by assumption) ?rest40
        case hi40 => (simp only [List.getElem?_toArray, List.getElem?_cons_zero, List.getElem?_cons_succ]; rfl)
        case hQ40 => exact fun _ _ _ h => h
        case hy40 => exact Or.inl ⟨by rfl, by intro wS hSw; (try dsimp only at hSw); go_simp; try first | (with_reducible rfl) | (simp only [*]; done) | omega⟩
        try simp only [Act.put, List.setIfInBounds_toArray, List.set_cons_zero, List.set_cons_succ]
        refine wpAnyH_done (by kernel_rfl) ?_ _
        go_wp2
        go_ret
        exact ⟨ret_bool (by rw [fitsB, hok]; simp), bthen B0 hHeld⟩
end Go.Proofs.Ytklhljknkcmecad
