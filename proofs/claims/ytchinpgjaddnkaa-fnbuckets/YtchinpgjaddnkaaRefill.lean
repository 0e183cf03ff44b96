/-
  Contracts of chapter 7's Refill, of the program and of the specification.
-/
import Derived.Test.YtchinpgjaddnkaaBucket
import Derived.Deep.RegionHeld3
namespace Go.Proofs.Ytchinpgjaddnkaa
open Go.ChangeShapes Go.WideShapes Go.ChangeAt Go.RowKit
set_option linter.unusedVariables false
set_option maxRecDepth 100000

def fillv (r b t a now : Int) : Int := if b < addv t (mulv r (subv now a)) then b else addv t (mulv r (subv now a))

theorem specRefill_no (r b t a now : Int) (w : World) (h : bokB r b t a = false ∨ now < a ∨ 2147483647 < now) :
    Calls Try.prog 21 #[.agg #[.int .i64 (r), .int .i64 (b), .int .i64 (t), .int .i64 (a)], .int .i64 now] w fun e w' => e = .returned (.agg #[.int .i64 (r), .int .i64 (b), .int .i64 (t), .int .i64 (a)]) ∧ Below w.heap.size w w' := by
  cases h1 : bokB r b t a
  case false =>
    go_enter Try.func21, Try.ntmps21
    go_wp2_with fail
    refine (specBucketOk r b t a _ h1 _).mono ?_
    rintro e w1 ⟨rfl, rfl⟩
    go_wp2
    exact bodyPost_ret (v := .agg #[.int .i64 (r), .int .i64 (b), .int .i64 (t), .int .i64 (a)]) (by simp [results, Try.results21, go_sem]) rfl ⟨rfl, by (repeat (first | with_reducible assumption | with_reducible exact Below.refl _ _ | with_reducible refine Below.drew ?_ | with_reducible refine bdrewN ?_ _ | (with_reducible refine Below.alloc ?_ ?side _; case side => (first | omega | (simp [go_sem]; done) | (simp [go_sem]; omega))) | (with_reducible refine Below.setCell ?_ ?side _; case side => (first | omega | (simp [go_sem]; done) | (simp [go_sem]; omega)))))⟩
  by_cases h2 : now < a
  case pos =>
    go_enter Try.func21, Try.ntmps21
    go_wp2_with fail
    refine (specBucketOk r b t a _ h1 _).mono ?_
    rintro e w1 ⟨rfl, rfl⟩
    go_wp2
    exact bodyPost_ret (v := .agg #[.int .i64 (r), .int .i64 (b), .int .i64 (t), .int .i64 (a)]) (by simp [results, Try.results21, go_sem]) rfl ⟨rfl, by (repeat (first | with_reducible assumption | with_reducible exact Below.refl _ _ | with_reducible refine Below.drew ?_ | with_reducible refine bdrewN ?_ _ | (with_reducible refine Below.alloc ?_ ?side _; case side => (first | omega | (simp [go_sem]; done) | (simp [go_sem]; omega))) | (with_reducible refine Below.setCell ?_ ?side _; case side => (first | omega | (simp [go_sem]; done) | (simp [go_sem]; omega)))))⟩
  have h3 : 2147483647 < now := by rcases h with h | h | h <;> simp_all
  go_enter Try.func21, Try.ntmps21
  go_wp2_with fail
  refine (specBucketOk r b t a _ h1 _).mono ?_
  rintro e w1 ⟨rfl, rfl⟩
  go_wp2
  exact bodyPost_ret (v := .agg #[.int .i64 (r), .int .i64 (b), .int .i64 (t), .int .i64 (a)]) (by simp [results, Try.results21, go_sem]) rfl ⟨rfl, by (repeat (first | with_reducible assumption | with_reducible exact Below.refl _ _ | with_reducible refine Below.drew ?_ | with_reducible refine bdrewN ?_ _ | (with_reducible refine Below.alloc ?_ ?side _; case side => (first | omega | (simp [go_sem]; done) | (simp [go_sem]; omega))) | (with_reducible refine Below.setCell ?_ ?side _; case side => (first | omega | (simp [go_sem]; done) | (simp [go_sem]; omega)))))⟩

theorem specRefill_yes (r b t a now : Int) (w : World) (h1 : bokB r b t a = true) (h2 : a ≤ now) (h3 : now ≤ 2147483647) :
    Calls Try.prog 21 #[.agg #[.int .i64 (r), .int .i64 (b), .int .i64 (t), .int .i64 (a)], .int .i64 now] w fun e w' => e = .returned (.agg #[.int .i64 (r), .int .i64 (b), .int .i64 (fillv r b t a now), .int .i64 (now)]) ∧ Below w.heap.size w w' := by
  unfold fillv
  generalize hx : addv t (mulv r (subv now a)) = x
  have HX := hide hx
  clear hx
  by_cases h4 : b < x
  · rw [if_pos h4]
    go_enter Try.func21, Try.ntmps21
    go_wp2_with fail
    refine (specBucketOk r b t a _ h1 _).mono ?_
    rintro e w1 ⟨rfl, rfl⟩
    go_wp2_with fail
    go_quiet (first | (go_at_call 42; exact Calls.quiet_of_same (specAdd _ _ _)) | (go_at_call 43; exact Calls.quiet_of_same (specMul _ _ _)) | (go_at_call 44; exact Calls.quiet_of_same (specSub _ _ _)))
    rw [unhide HX]
    have hbel : Below w.heap.size w (w.drewN nq) := bdrewN (Below.refl _ _) _
    have hs : w.heap.size = (w.drewN nq).heap.size := rfl
    rw [show ∀ o1 o2 o3 : Obj, (((w.alloc o1).alloc o2).alloc o3).drewN nq = (((w.drewN nq).alloc o1).alloc o2).alloc o3 from fun _ _ _ => rfl, hs]
    generalize w.drewN nq = u at *
    go_wp2
    exact bodyPost_ret (v := .agg #[.int .i64 (r), .int .i64 (b), .int .i64 (b), .int .i64 (now)]) (by simp [results, Try.results21, go_sem]) rfl ⟨rfl, by (repeat (first | with_reducible assumption | with_reducible exact Below.refl _ _ | with_reducible refine Below.drew ?_ | with_reducible refine bdrewN ?_ _ | (with_reducible refine Below.alloc ?_ ?side _; case side => (first | omega | (simp [go_sem]; done) | (simp [go_sem]; omega))) | (with_reducible refine Below.setCell ?_ ?side _; case side => (first | omega | (simp [go_sem]; done) | (simp [go_sem]; omega)))))⟩
  · rw [if_neg h4]
    go_enter Try.func21, Try.ntmps21
    go_wp2_with fail
    refine (specBucketOk r b t a _ h1 _).mono ?_
    rintro e w1 ⟨rfl, rfl⟩
    go_wp2_with fail
    go_quiet (first | (go_at_call 42; exact Calls.quiet_of_same (specAdd _ _ _)) | (go_at_call 43; exact Calls.quiet_of_same (specMul _ _ _)) | (go_at_call 44; exact Calls.quiet_of_same (specSub _ _ _)))
    rw [unhide HX]
    have hbel : Below w.heap.size w (w.drewN nq) := bdrewN (Below.refl _ _) _
    have hs : w.heap.size = (w.drewN nq).heap.size := rfl
    rw [show ∀ o1 o2 o3 : Obj, (((w.alloc o1).alloc o2).alloc o3).drewN nq = (((w.drewN nq).alloc o1).alloc o2).alloc o3 from fun _ _ _ => rfl, hs]
    generalize w.drewN nq = u at *
    go_wp2
    exact bodyPost_ret (v := .agg #[.int .i64 (r), .int .i64 (b), .int .i64 (x), .int .i64 (now)]) (by simp [results, Try.results21, go_sem]) rfl ⟨rfl, by (repeat (first | with_reducible assumption | with_reducible exact Below.refl _ _ | with_reducible refine Below.drew ?_ | with_reducible refine bdrewN ?_ _ | (with_reducible refine Below.alloc ?_ ?side _; case side => (first | omega | (simp [go_sem]; done) | (simp [go_sem]; omega))) | (with_reducible refine Below.setCell ?_ ?side _; case side => (first | omega | (simp [go_sem]; done) | (simp [go_sem]; omega)))))⟩

set_option maxHeartbeats 4000000 in
theorem implRefill_yes (r b t a now : Int) (w : World) (h1 : bokB r b t a = true) (h2 : a ≤ now) (h3 : now ≤ 2147483647) :
    Calls Try.prog 14 #[.agg #[.int .i64 (r), .int .i64 (b), .int .i64 (t), .int .i64 (a)], .int .i64 now] w fun e w' => e = .returned (.agg #[.int .i64 (r), .int .i64 (b), .int .i64 (fillv r b t a now), .int .i64 (now)]) ∧ Below w.heap.size w w' := by
  go_enter Try.func14, Try.ntmps14
  go_wp2_with fail
  go_enter Try.func38, Try.ntmps38
  go_wp2_with fail
  refine (implBucketOk r b t a _ h1 _).mono ?_
  rintro e w1 ⟨rfl, rfl⟩
  go_wp2_with fail
  go_enter Try.func39, Try.ntmps39
  go_wp2_with fail
  refine wp_region_held_drew (S := fun w' => w'.cell? ⟨w.heap.size, 0, none⟩ = some (.int .i64 r) ∧ w'.cell? ⟨w.heap.size, 1, none⟩ = some (.int .i64 b) ∧ w'.cell? ⟨w.heap.size, 3, none⟩ = some (.int .i64 a)) (by kernel_rfl) ?_ (fun hHeld => ?_)
  · (try dsimp only); go_keep
  refine wpAnyH_take (i := 0) (oi := ?oo0n1) (v := ?vv0n1) ?hi0n1 (by kernel_rfl) (by kernel_rfl) (by kernel_rfl) ?hQ0n1 ?hy0n1 (by assumption) ?rest0n1
  case hi0n1 => (simp only [List.getElem?_toArray, List.getElem?_cons_zero]; rfl)
  case hQ0n1 => exact fun _ _ _ h => h
  case hy0n1 => exact Or.inl ⟨by rfl, by intro wS hSw; (try dsimp only at hSw); go_simp; try first | (with_reducible rfl) | (simp only [*]; done) | omega⟩
  try simp only [Act.put, List.setIfInBounds_toArray, List.set_cons_zero, List.set_cons_succ]
  refine wpAnyH_take (i := 1) (oi := ?oo1n2) (v := ?vv1n2) ?hi1n2 (by kernel_rfl) (by kernel_rfl) (by kernel_rfl) ?hQ1n2 ?hy1n2 (by assumption) ?rest1n2
  case hi1n2 => (simp only [List.getElem?_toArray, List.getElem?_cons_zero, List.getElem?_cons_succ]; rfl)
  case hQ1n2 => exact fun _ _ _ h => h
  case hy1n2 => exact Or.inl ⟨by rfl, by intro wS hSw; (try dsimp only at hSw); go_simp; try first | (with_reducible rfl) | (simp only [*]; done) | omega⟩
  try simp only [Act.put, List.setIfInBounds_toArray, List.set_cons_zero, List.set_cons_succ]
  refine wpAnyH_take (i := 2) (oi := ?oo2n3) (v := ?vv2n3) ?hi2n3 (by kernel_rfl) (by kernel_rfl) (by kernel_rfl) ?hQ2n3 ?hy2n3 (by assumption) ?rest2n3
  case hi2n3 => (simp only [List.getElem?_toArray, List.getElem?_cons_zero, List.getElem?_cons_succ]; rfl)
  case hQ2n3 => exact fun _ _ _ h => h
  case hy2n3 => exact Or.inl ⟨by rfl, by intro wS hSw; (try dsimp only at hSw); go_simp; try first | (with_reducible rfl) | (simp only [*]; done) | omega⟩
  try simp only [Act.put, List.setIfInBounds_toArray, List.set_cons_zero, List.set_cons_succ]
  refine wpAnyH_take (i := 3) (oi := ?oo3n4) (v := ?vv3n4) ?hi3n4 (by kernel_rfl) (by kernel_rfl) (by kernel_rfl) ?hQ3n4 ?hy3n4 (by assumption) ?rest3n4
  case hi3n4 => (simp only [List.getElem?_toArray, List.getElem?_cons_zero, List.getElem?_cons_succ]; rfl)
  case hQ3n4 => exact fun _ _ _ h => h
  case hy3n4 => exact Or.inl ⟨by rfl, by intro wS hSw; (try dsimp only at hSw); go_simp; try first | (with_reducible rfl) | (simp only [*]; done) | omega⟩
  try simp only [Act.put, List.setIfInBounds_toArray, List.set_cons_zero, List.set_cons_succ]
  refine wpAnyH_take (i := 5) (oi := ?oo5n5) (v := ?vv5n5) ?hi5n5 (by kernel_rfl) (by kernel_rfl) (by kernel_rfl) ?hQ5n5 ?hy5n5 (by assumption) ?rest5n5
  case hi5n5 => (simp only [List.getElem?_toArray, List.getElem?_cons_zero, List.getElem?_cons_succ]; rfl)
  case hQ5n5 => exact fun _ _ _ h => h
  case hy5n5 => exact Or.inl ⟨by rfl, by intro wS hSw; (try dsimp only at hSw); go_simp; try first | (with_reducible rfl) | (simp only [*]; done) | omega⟩
  try simp only [Act.put, List.setIfInBounds_toArray, List.set_cons_zero, List.set_cons_succ]
  refine wpAnyH_take (i := 6) (oi := ?oo6n6) (v := ?vv6n6) ?hi6n6 (by kernel_rfl) (by kernel_rfl) (by kernel_rfl) ?hQ6n6 ?hy6n6 (by assumption) ?rest6n6
  case hi6n6 => (simp only [List.getElem?_toArray, List.getElem?_cons_zero, List.getElem?_cons_succ]; rfl)
  case hQ6n6 => exact fun _ _ _ h => h
  case hy6n6 => exact Or.inl ⟨by rfl, by intro wS hSw; (try dsimp only at hSw); go_simp; try first | (with_reducible rfl) | (simp only [*]; done) | omega⟩
  try simp only [Act.put, List.setIfInBounds_toArray, List.set_cons_zero, List.set_cons_succ]
  refine wpAnyH_take (i := 7) (oi := ?oo7n7) (v := ?vv7n7) ?hi7n7 (by kernel_rfl) (by kernel_rfl) (by kernel_rfl) ?hQ7n7 ?hy7n7 (by assumption) ?rest7n7
  case hi7n7 => (simp only [List.getElem?_toArray, List.getElem?_cons_zero, List.getElem?_cons_succ]; rfl)
  case hQ7n7 => exact fun _ _ _ h => h
  case hy7n7 => exact Or.inl ⟨by rfl, by intro wS hSw; (try dsimp only at hSw); go_simp; try first | (with_reducible rfl) | (simp only [*]; done) | omega⟩
  try simp only [Act.put, List.setIfInBounds_toArray, List.set_cons_zero, List.set_cons_succ]
  refine wpAnyH_take (i := 8) (oi := ?oo8n8) (v := ?vv8n8) ?hi8n8 (by kernel_rfl) (by kernel_rfl) (by kernel_rfl) ?hQ8n8 ?hy8n8 (by assumption) ?rest8n8
  case hi8n8 => (simp only [List.getElem?_toArray, List.getElem?_cons_zero, List.getElem?_cons_succ]; rfl)
  case hQ8n8 => exact fun _ _ _ h => h
  case hy8n8 => exact Or.inl ⟨by rfl, by intro wS hSw; (try dsimp only at hSw); go_simp; try first | (with_reducible rfl) | (simp only [*]; done) | omega⟩
  try simp only [Act.put, List.setIfInBounds_toArray, List.set_cons_zero, List.set_cons_succ]
  refine wpAnyH_take (i := 9) (oi := ?oo9n9) (v := ?vv9n9) ?hi9n9 (by kernel_rfl) (by kernel_rfl) (by kernel_rfl) ?hQ9n9 ?hy9n9 (by assumption) ?rest9n9
  case hi9n9 => (simp only [List.getElem?_toArray, List.getElem?_cons_zero, List.getElem?_cons_succ]; rfl)
  case hQ9n9 => exact fun _ _ _ h => h
  case hy9n9 => exact Or.inl ⟨by rfl, by intro wS hSw; (try dsimp only at hSw); go_simp; try first | (with_reducible rfl) | (simp only [*]; done) | omega⟩
  try simp only [Act.put, List.setIfInBounds_toArray, List.set_cons_zero, List.set_cons_succ]
  refine wpAnyH_take (i := 10) (oi := ?oo10n10) (v := ?vv10n10) ?hi10n10 (by kernel_rfl) (by kernel_rfl) (by kernel_rfl) ?hQ10n10 ?hy10n10 (by assumption) ?rest10n10
  case hi10n10 => (simp only [List.getElem?_toArray, List.getElem?_cons_zero, List.getElem?_cons_succ]; rfl)
  case hQ10n10 => exact fun _ _ _ h => h
  case hy10n10 => exact Or.inl ⟨by rfl, by intro wS hSw; (try dsimp only at hSw); go_simp; try first | (with_reducible rfl) | (simp only [*]; done) | omega⟩
  try simp only [Act.put, List.setIfInBounds_toArray, List.set_cons_zero, List.set_cons_succ]
  refine wpAnyH_take (i := 11) (oi := ?oo11n11) (v := ?vv11n11) ?hi11n11 (by kernel_rfl) (by kernel_rfl) (by kernel_rfl) ?hQ11n11 ?hy11n11 (by assumption) ?rest11n11
  case hi11n11 => (simp only [List.getElem?_toArray, List.getElem?_cons_zero, List.getElem?_cons_succ]; rfl)
  case hQ11n11 => exact fun _ _ _ h => h
  case hy11n11 => exact Or.inl ⟨by rfl, by intro wS hSw; (try dsimp only at hSw); go_simp; try first | (with_reducible rfl) | (simp only [*]; done) | omega⟩
  try simp only [Act.put, List.setIfInBounds_toArray, List.set_cons_zero, List.set_cons_succ]
  refine wpAnyH_take (i := 12) (oi := ?oo12n12) (v := ?vv12n12) ?hi12n12 (by kernel_rfl) (by kernel_rfl) (by kernel_rfl) ?hQ12n12 ?hy12n12 (by assumption) ?rest12n12
  case hi12n12 => (simp only [List.getElem?_toArray, List.getElem?_cons_zero, List.getElem?_cons_succ]; rfl)
  case hQ12n12 => exact fun _ _ _ h => h
  case hy12n12 => exact Or.inl ⟨by rfl, by intro wS hSw; (try dsimp only at hSw); go_simp; try first | (with_reducible rfl) | (simp only [*]; done) | omega⟩
  try simp only [Act.put, List.setIfInBounds_toArray, List.set_cons_zero, List.set_cons_succ]
  refine wpAnyH_take (i := 13) (oi := ?oo13n13) (v := ?vv13n13) ?hi13n13 (by kernel_rfl) (by kernel_rfl) (by kernel_rfl) ?hQ13n13 ?hy13n13 (by assumption) ?rest13n13
  case hi13n13 => (simp only [List.getElem?_toArray, List.getElem?_cons_zero, List.getElem?_cons_succ]; rfl)
  case hQ13n13 => exact fun _ _ _ h => h
  case hy13n13 => exact Or.inl ⟨by rfl, by intro wS hSw; (try dsimp only at hSw); go_simp; try first | (with_reducible rfl) | (simp only [*]; done) | omega⟩
  try simp only [Act.put, List.setIfInBounds_toArray, List.set_cons_zero, List.set_cons_succ]
  refine wpAnyH_take (i := 17) (oi := ?oo17n14) (v := ?vv17n14) ?hi17n14 (by kernel_rfl) (by kernel_rfl) (by kernel_rfl) ?hQ17n14 ?hy17n14 (by assumption) ?rest17n14
  case hi17n14 => (simp only [List.getElem?_toArray, List.getElem?_cons_zero, List.getElem?_cons_succ]; rfl)
  case hQ17n14 => exact fun _ _ _ h => h
  case hy17n14 => exact Or.inl ⟨by rfl, by intro wS hSw; (try dsimp only at hSw); go_simp; try first | (with_reducible rfl) | (simp only [*]; done) | omega⟩
  try simp only [Act.put, List.setIfInBounds_toArray, List.set_cons_zero, List.set_cons_succ]
  refine wpAnyH_take (i := 18) (oi := ?oo18n15) (v := ?vv18n15) ?hi18n15 (by kernel_rfl) (by kernel_rfl) (by kernel_rfl) ?hQ18n15 ?hy18n15 (by assumption) ?rest18n15
  case hi18n15 => (simp only [List.getElem?_toArray, List.getElem?_cons_zero, List.getElem?_cons_succ]; rfl)
  case hQ18n15 => exact fun _ _ _ h => h
  case hy18n15 => exact Or.inl ⟨by rfl, by intro wS hSw; (try dsimp only at hSw); go_simp; try first | (with_reducible rfl) | (simp only [*]; done) | omega⟩
  try simp only [Act.put, List.setIfInBounds_toArray, List.set_cons_zero, List.set_cons_succ]
  refine wpAnyH_take (i := 19) (oi := ?oo19n16) (v := ?vv19n16) ?hi19n16 (by kernel_rfl) (by kernel_rfl) (by kernel_rfl) ?hQ19n16 ?hy19n16 (by assumption) ?rest19n16
  case hi19n16 => (simp only [List.getElem?_toArray, List.getElem?_cons_zero, List.getElem?_cons_succ]; rfl)
  case hQ19n16 => exact fun _ _ _ h => h
  case hy19n16 => exact Or.inl ⟨by rfl, by intro wS hSw; (try dsimp only at hSw); go_simp; try first | (with_reducible rfl) | (simp only [*]; done) | omega⟩
  try simp only [Act.put, List.setIfInBounds_toArray, List.set_cons_zero, List.set_cons_succ]
  refine wpAnyH_take (i := 20) (oi := ?oo20n17) (v := ?vv20n17) ?hi20n17 (by kernel_rfl) (by kernel_rfl) (by kernel_rfl) ?hQ20n17 ?hy20n17 (by assumption) ?rest20n17
  case hi20n17 => (simp only [List.getElem?_toArray, List.getElem?_cons_zero, List.getElem?_cons_succ]; rfl)
  case hQ20n17 => exact fun _ _ _ h => h
  case hy20n17 => exact Or.inl ⟨by rfl, by intro wS hSw; (try dsimp only at hSw); go_simp; try first | (with_reducible rfl) | (simp only [*]; done) | omega⟩
  try simp only [Act.put, List.setIfInBounds_toArray, List.set_cons_zero, List.set_cons_succ]
  refine wpAnyH_ready (rs := [4, 14]) (by kernel_rfl) (by simp) ?_
  refine (AllReadyH.cons (o := ?bo1n4) ?bh1n4 (fun K hK => ?br1n4) (AllReadyH.cons (o := ?bo1n14) ?bh1n14 (fun K hK => ?br1n14) AllReadyH.nil))
  case bh1n4 => (simp only [List.getElem?_toArray, List.getElem?_cons_zero, List.getElem?_cons_succ]; rfl)
  case bh1n14 => (simp only [List.getElem?_toArray, List.getElem?_cons_zero, List.getElem?_cons_succ]; rfl)
  case br1n4 =>
    go_simp
    refine hK.out _ _ ?_ (fun hHeld => ?_)
    · (try dsimp only); go_keep
    clear hK
    refine wpAnyH_ready (rs := [14]) (by kernel_rfl) (by simp) ?_
    refine (AllReadyH.cons (o := ?bo2n14) ?bh2n14 (fun K hK => ?br2n14) AllReadyH.nil)
    case bh2n14 => (simp only [List.getElem?_toArray, List.getElem?_cons_zero, List.getElem?_cons_succ]; rfl)
    case br2n14 =>
      go_simp
      refine (implSub _ _ _).mono ?_
      rintro e w' ⟨rfl, rfl⟩
      go_wp2_with fail
      refine hK.out _ _ ?_ (fun hHeld => ?_)
      · (try dsimp only); go_keep
      clear hK
      refine wpAnyH_ready (rs := [15]) (by kernel_rfl) (by simp) ?_
      refine (AllReadyH.cons (o := ?bo3n15) ?bh3n15 (fun K hK => ?br3n15) AllReadyH.nil)
      case bh3n15 => (simp only [List.getElem?_toArray, List.getElem?_cons_zero, List.getElem?_cons_succ]; rfl)
      case br3n15 =>
        go_simp
        refine (implMul _ _ _).mono ?_
        rintro e w' ⟨rfl, rfl⟩
        go_wp2_with fail
        refine hK.out _ _ ?_ (fun hHeld => ?_)
        · (try dsimp only); go_keep
        clear hK
        refine wpAnyH_ready (rs := [16]) (by kernel_rfl) (by simp) ?_
        refine (AllReadyH.cons (o := ?bo4n16) ?bh4n16 (fun K hK => ?br4n16) AllReadyH.nil)
        case bh4n16 => (simp only [List.getElem?_toArray, List.getElem?_cons_zero, List.getElem?_cons_succ]; rfl)
        case br4n16 =>
          go_simp
          refine (implAdd' _ _ _).mono ?_
          rintro e w' ⟨rfl, rfl⟩
          go_wp2_with fail
          refine hK.out _ _ ?_ (fun hHeld => ?_)
          · (try dsimp only); go_keep
          clear hK
          refine wpAnyH_ready (rs := [21]) (by kernel_rfl) (by simp) ?_
          refine (AllReadyH.cons (o := ?bo5n21) ?bh5n21 (fun K hK => ?br5n21) AllReadyH.nil)
          case bh5n21 => (simp only [List.getElem?_toArray, List.getElem?_cons_zero, List.getElem?_cons_succ]; rfl)
          case br5n21 =>
            go_simp
            refine hK.out _ _ ?_ (fun hHeld => ?_)
            · (try dsimp only); go_keep
            clear hK
            refine wpAnyH_take (i := 22) (oi := ?oo22n18) (v := ?vv22n18) ?hi22n18 (by kernel_rfl) (by kernel_rfl) (by kernel_rfl) ?hQ22n18 ?hy22n18 (by assumption) ?rest22n18
            case hi22n18 => (simp only [List.getElem?_toArray, List.getElem?_cons_zero, List.getElem?_cons_succ]; rfl)
            case hQ22n18 => exact fun _ _ _ h => h
            case hy22n18 => exact Or.inl ⟨by rfl, by intro wS hSw; (try dsimp only at hSw); go_simp; try first | (with_reducible rfl) | (simp only [*]; done) | omega⟩
            try simp only [Act.put, List.setIfInBounds_toArray, List.set_cons_zero, List.set_cons_succ]
            refine wpAnyH_take (i := 23) (oi := ?oo23n19) (v := ?vv23n19) ?hi23n19 (by kernel_rfl) (by kernel_rfl) (by kernel_rfl) ?hQ23n19 ?hy23n19 (by assumption) ?rest23n19
            case hi23n19 => (simp only [List.getElem?_toArray, List.getElem?_cons_zero, List.getElem?_cons_succ]; rfl)
            case hQ23n19 => exact fun _ _ _ h => h
            case hy23n19 => exact Or.inl ⟨by rfl, by intro wS hSw; (try dsimp only at hSw); go_simp; try first | (with_reducible rfl) | (simp only [*]; done) | omega⟩
            try simp only [Act.put, List.setIfInBounds_toArray, List.set_cons_zero, List.set_cons_succ]
            refine wpAnyH_ready (rs := [24]) (by kernel_rfl) (by simp) ?_
            refine (AllReadyH.cons (o := ?bo6n24) ?bh6n24 (fun K hK => ?br6n24) AllReadyH.nil)
            case bh6n24 => (simp only [List.getElem?_toArray, List.getElem?_cons_zero, List.getElem?_cons_succ]; rfl)
            case br6n24 =>
              go_simp
              refine hK.out _ _ ?_ (fun hHeld => ?_)
              · (try dsimp only); go_keep
              clear hK
              refine wpAnyH_done (by kernel_rfl) ?_ _
              generalize hF : (if b < addv t (mulv r (subv now a)) then b else addv t (mulv r (subv now a))) = f
              have HF := hide hF
              clear hF hHeld
              go_wp2
              exact bodyPost_ret (v := .agg #[.int .i64 (r), .int .i64 (b), .int .i64 (f), .int .i64 (now)]) (by simp [results, Try.results14, go_sem]) rfl ⟨by rw [fillv, unhide HF], by (repeat (first | with_reducible assumption | with_reducible exact Below.refl _ _ | with_reducible refine Below.drew ?_ | with_reducible refine bdrewN ?_ _ | (with_reducible refine Below.alloc ?_ ?side _; case side => (first | omega | (simp [go_sem]; done) | (simp [go_sem]; omega))) | (with_reducible refine Below.setCell ?_ ?side _; case side => (first | omega | (simp [go_sem]; done) | (simp [go_sem]; omega)))))⟩
  case br1n14 =>
    go_simp
    refine (implSub _ _ _).mono ?_
    rintro e w' ⟨rfl, rfl⟩
    go_wp2_with fail
    refine hK.out _ _ ?_ (fun hHeld => ?_)
    · (try dsimp only); go_keep
    clear hK
    refine wpAnyH_ready (rs := [4, 15]) (by kernel_rfl) (by simp) ?_
    refine (AllReadyH.cons (o := ?bo7n4) ?bh7n4 (fun K hK => ?br7n4) (AllReadyH.cons (o := ?bo7n15) ?bh7n15 (fun K hK => ?br7n15) AllReadyH.nil))
    case bh7n4 => (simp only [List.getElem?_toArray, List.getElem?_cons_zero, List.getElem?_cons_succ]; rfl)
    case bh7n15 => (simp only [List.getElem?_toArray, List.getElem?_cons_zero, List.getElem?_cons_succ]; rfl)
    case br7n4 =>
      go_simp
      refine hK.out _ _ ?_ (fun hHeld => ?_)
      · (try dsimp only); go_keep
      clear hK
      refine wpAnyH_ready (rs := [15]) (by kernel_rfl) (by simp) ?_
      refine (AllReadyH.cons (o := ?bo8n15) ?bh8n15 (fun K hK => ?br8n15) AllReadyH.nil)
      case bh8n15 => (simp only [List.getElem?_toArray, List.getElem?_cons_zero, List.getElem?_cons_succ]; rfl)
      case br8n15 =>
        go_simp
        refine (implMul _ _ _).mono ?_
        rintro e w' ⟨rfl, rfl⟩
        go_wp2_with fail
        refine hK.out _ _ ?_ (fun hHeld => ?_)
        · (try dsimp only); go_keep
        clear hK
        refine wpAnyH_ready (rs := [16]) (by kernel_rfl) (by simp) ?_
        refine (AllReadyH.cons (o := ?bo9n16) ?bh9n16 (fun K hK => ?br9n16) AllReadyH.nil)
        case bh9n16 => (simp only [List.getElem?_toArray, List.getElem?_cons_zero, List.getElem?_cons_succ]; rfl)
        case br9n16 =>
          go_simp
          refine (implAdd' _ _ _).mono ?_
          rintro e w' ⟨rfl, rfl⟩
          go_wp2_with fail
          refine hK.out _ _ ?_ (fun hHeld => ?_)
          · (try dsimp only); go_keep
          clear hK
          refine wpAnyH_ready (rs := [21]) (by kernel_rfl) (by simp) ?_
          refine (AllReadyH.cons (o := ?bo10n21) ?bh10n21 (fun K hK => ?br10n21) AllReadyH.nil)
          case bh10n21 => (simp only [List.getElem?_toArray, List.getElem?_cons_zero, List.getElem?_cons_succ]; rfl)
          case br10n21 =>
            go_simp
            refine hK.out _ _ ?_ (fun hHeld => ?_)
            · (try dsimp only); go_keep
            clear hK
            refine wpAnyH_take (i := 22) (oi := ?oo22n20) (v := ?vv22n20) ?hi22n20 (by kernel_rfl) (by kernel_rfl) (by kernel_rfl) ?hQ22n20 ?hy22n20 (by assumption) ?rest22n20
            case hi22n20 => (simp only [List.getElem?_toArray, List.getElem?_cons_zero, List.getElem?_cons_succ]; rfl)
            case hQ22n20 => exact fun _ _ _ h => h
            case hy22n20 => exact Or.inl ⟨by rfl, by intro wS hSw; (try dsimp only at hSw); go_simp; try first | (with_reducible rfl) | (simp only [*]; done) | omega⟩
            try simp only [Act.put, List.setIfInBounds_toArray, List.set_cons_zero, List.set_cons_succ]
            refine wpAnyH_take (i := 23) (oi := ?oo23n21) (v := ?vv23n21) ?hi23n21 (by kernel_rfl) (by kernel_rfl) (by kernel_rfl) ?hQ23n21 ?hy23n21 (by assumption) ?rest23n21
            case hi23n21 => (simp only [List.getElem?_toArray, List.getElem?_cons_zero, List.getElem?_cons_succ]; rfl)
            case hQ23n21 => exact fun _ _ _ h => h
            case hy23n21 => exact Or.inl ⟨by rfl, by intro wS hSw; (try dsimp only at hSw); go_simp; try first | (with_reducible rfl) | (simp only [*]; done) | omega⟩
            try simp only [Act.put, List.setIfInBounds_toArray, List.set_cons_zero, List.set_cons_succ]
            refine wpAnyH_ready (rs := [24]) (by kernel_rfl) (by simp) ?_
            refine (AllReadyH.cons (o := ?bo11n24) ?bh11n24 (fun K hK => ?br11n24) AllReadyH.nil)
            case bh11n24 => (simp only [List.getElem?_toArray, List.getElem?_cons_zero, List.getElem?_cons_succ]; rfl)
            case br11n24 =>
              go_simp
              refine hK.out _ _ ?_ (fun hHeld => ?_)
              · (try dsimp only); go_keep
              clear hK
              refine wpAnyH_done (by kernel_rfl) ?_ _
              generalize hF : (if b < addv t (mulv r (subv now a)) then b else addv t (mulv r (subv now a))) = f
              have HF := hide hF
              clear hF hHeld
              go_wp2
              exact bodyPost_ret (v := .agg #[.int .i64 (r), .int .i64 (b), .int .i64 (f), .int .i64 (now)]) (by simp [results, Try.results14, go_sem]) rfl ⟨by rw [fillv, unhide HF], by (repeat (first | with_reducible assumption | with_reducible exact Below.refl _ _ | with_reducible refine Below.drew ?_ | with_reducible refine bdrewN ?_ _ | (with_reducible refine Below.alloc ?_ ?side _; case side => (first | omega | (simp [go_sem]; done) | (simp [go_sem]; omega))) | (with_reducible refine Below.setCell ?_ ?side _; case side => (first | omega | (simp [go_sem]; done) | (simp [go_sem]; omega)))))⟩
    case br7n15 =>
      go_simp
      refine (implMul _ _ _).mono ?_
      rintro e w' ⟨rfl, rfl⟩
      go_wp2_with fail
      refine hK.out _ _ ?_ (fun hHeld => ?_)
      · (try dsimp only); go_keep
      clear hK
      refine wpAnyH_ready (rs := [4]) (by kernel_rfl) (by simp) ?_
      refine (AllReadyH.cons (o := ?bo12n4) ?bh12n4 (fun K hK => ?br12n4) AllReadyH.nil)
      case bh12n4 => (simp only [List.getElem?_toArray, List.getElem?_cons_zero, List.getElem?_cons_succ]; rfl)
      case br12n4 =>
        go_simp
        refine hK.out _ _ ?_ (fun hHeld => ?_)
        · (try dsimp only); go_keep
        clear hK
        refine wpAnyH_ready (rs := [16]) (by kernel_rfl) (by simp) ?_
        refine (AllReadyH.cons (o := ?bo13n16) ?bh13n16 (fun K hK => ?br13n16) AllReadyH.nil)
        case bh13n16 => (simp only [List.getElem?_toArray, List.getElem?_cons_zero, List.getElem?_cons_succ]; rfl)
        case br13n16 =>
          go_simp
          refine (implAdd' _ _ _).mono ?_
          rintro e w' ⟨rfl, rfl⟩
          go_wp2_with fail
          refine hK.out _ _ ?_ (fun hHeld => ?_)
          · (try dsimp only); go_keep
          clear hK
          refine wpAnyH_ready (rs := [21]) (by kernel_rfl) (by simp) ?_
          refine (AllReadyH.cons (o := ?bo14n21) ?bh14n21 (fun K hK => ?br14n21) AllReadyH.nil)
          case bh14n21 => (simp only [List.getElem?_toArray, List.getElem?_cons_zero, List.getElem?_cons_succ]; rfl)
          case br14n21 =>
            go_simp
            refine hK.out _ _ ?_ (fun hHeld => ?_)
            · (try dsimp only); go_keep
            clear hK
            refine wpAnyH_take (i := 22) (oi := ?oo22n22) (v := ?vv22n22) ?hi22n22 (by kernel_rfl) (by kernel_rfl) (by kernel_rfl) ?hQ22n22 ?hy22n22 (by assumption) ?rest22n22
            case hi22n22 => (simp only [List.getElem?_toArray, List.getElem?_cons_zero, List.getElem?_cons_succ]; rfl)
            case hQ22n22 => exact fun _ _ _ h => h
            case hy22n22 => exact Or.inl ⟨by rfl, by intro wS hSw; (try dsimp only at hSw); go_simp; try first | (with_reducible rfl) | (simp only [*]; done) | omega⟩
            try simp only [Act.put, List.setIfInBounds_toArray, List.set_cons_zero, List.set_cons_succ]
            refine wpAnyH_take (i := 23) (oi := ?oo23n23) (v := ?vv23n23) ?hi23n23 (by kernel_rfl) (by kernel_rfl) (by kernel_rfl) ?hQ23n23 ?hy23n23 (by assumption) ?rest23n23
            case hi23n23 => (simp only [List.getElem?_toArray, List.getElem?_cons_zero, List.getElem?_cons_succ]; rfl)
            case hQ23n23 => exact fun _ _ _ h => h
            case hy23n23 => exact Or.inl ⟨by rfl, by intro wS hSw; (try dsimp only at hSw); go_simp; try first | (with_reducible rfl) | (simp only [*]; done) | omega⟩
            try simp only [Act.put, List.setIfInBounds_toArray, List.set_cons_zero, List.set_cons_succ]
            refine wpAnyH_ready (rs := [24]) (by kernel_rfl) (by simp) ?_
            refine (AllReadyH.cons (o := ?bo15n24) ?bh15n24 (fun K hK => ?br15n24) AllReadyH.nil)
            case bh15n24 => (simp only [List.getElem?_toArray, List.getElem?_cons_zero, List.getElem?_cons_succ]; rfl)
            case br15n24 =>
              go_simp
              refine hK.out _ _ ?_ (fun hHeld => ?_)
              · (try dsimp only); go_keep
              clear hK
              refine wpAnyH_done (by kernel_rfl) ?_ _
              generalize hF : (if b < addv t (mulv r (subv now a)) then b else addv t (mulv r (subv now a))) = f
              have HF := hide hF
              clear hF hHeld
              go_wp2
              exact bodyPost_ret (v := .agg #[.int .i64 (r), .int .i64 (b), .int .i64 (f), .int .i64 (now)]) (by simp [results, Try.results14, go_sem]) rfl ⟨by rw [fillv, unhide HF], by (repeat (first | with_reducible assumption | with_reducible exact Below.refl _ _ | with_reducible refine Below.drew ?_ | with_reducible refine bdrewN ?_ _ | (with_reducible refine Below.alloc ?_ ?side _; case side => (first | omega | (simp [go_sem]; done) | (simp [go_sem]; omega))) | (with_reducible refine Below.setCell ?_ ?side _; case side => (first | omega | (simp [go_sem]; done) | (simp [go_sem]; omega)))))⟩

theorem implRefill_no (r b t a now : Int) (w : World) (h : bokB r b t a = false ∨ now < a ∨ 2147483647 < now) :
    Calls Try.prog 14 #[.agg #[.int .i64 (r), .int .i64 (b), .int .i64 (t), .int .i64 (a)], .int .i64 now] w fun e w' => e = .returned (.agg #[.int .i64 (r), .int .i64 (b), .int .i64 (t), .int .i64 (a)]) ∧ Below w.heap.size w w' := by
  cases h1 : bokB r b t a
  case false =>
    go_enter Try.func14, Try.ntmps14
    go_wp2_with fail
    go_enter Try.func38, Try.ntmps38
    go_wp2_with fail
    refine (implBucketOk r b t a _ h1 _).mono ?_
    rintro e w1 ⟨rfl, rfl⟩
    go_wp2
    exact bodyPost_ret (v := .agg #[.int .i64 (r), .int .i64 (b), .int .i64 (t), .int .i64 (a)]) (by simp [results, Try.results14, go_sem]) rfl ⟨rfl, by (repeat (first | with_reducible assumption | with_reducible exact Below.refl _ _ | with_reducible refine Below.drew ?_ | with_reducible refine bdrewN ?_ _ | (with_reducible refine Below.alloc ?_ ?side _; case side => (first | omega | (simp [go_sem]; done) | (simp [go_sem]; omega))) | (with_reducible refine Below.setCell ?_ ?side _; case side => (first | omega | (simp [go_sem]; done) | (simp [go_sem]; omega)))))⟩
  by_cases h2 : now < a
  case pos =>
    go_enter Try.func14, Try.ntmps14
    go_wp2_with fail
    go_enter Try.func38, Try.ntmps38
    go_wp2_with fail
    refine (implBucketOk r b t a _ h1 _).mono ?_
    rintro e w1 ⟨rfl, rfl⟩
    go_wp2
    exact bodyPost_ret (v := .agg #[.int .i64 (r), .int .i64 (b), .int .i64 (t), .int .i64 (a)]) (by simp [results, Try.results14, go_sem]) rfl ⟨rfl, by (repeat (first | with_reducible assumption | with_reducible exact Below.refl _ _ | with_reducible refine Below.drew ?_ | with_reducible refine bdrewN ?_ _ | (with_reducible refine Below.alloc ?_ ?side _; case side => (first | omega | (simp [go_sem]; done) | (simp [go_sem]; omega))) | (with_reducible refine Below.setCell ?_ ?side _; case side => (first | omega | (simp [go_sem]; done) | (simp [go_sem]; omega)))))⟩
  have h3 : 2147483647 < now := by rcases h with h | h | h <;> simp_all
  clear h
  go_enter Try.func14, Try.ntmps14
  go_wp2_with fail
  go_enter Try.func38, Try.ntmps38
  go_wp2_with fail
  refine (implBucketOk r b t a _ h1 _).mono ?_
  rintro e w1 ⟨rfl, rfl⟩
  go_wp2
  exact bodyPost_ret (v := .agg #[.int .i64 (r), .int .i64 (b), .int .i64 (t), .int .i64 (a)]) (by simp [results, Try.results14, go_sem]) rfl ⟨rfl, by (repeat (first | with_reducible assumption | with_reducible exact Below.refl _ _ | with_reducible refine Below.drew ?_ | with_reducible refine bdrewN ?_ _ | (with_reducible refine Below.alloc ?_ ?side _; case side => (first | omega | (simp [go_sem]; done) | (simp [go_sem]; omega))) | (with_reducible refine Below.setCell ?_ ?side _; case side => (first | omega | (simp [go_sem]; done) | (simp [go_sem]; omega)))))⟩

end Go.Proofs.Ytchinpgjaddnkaa
