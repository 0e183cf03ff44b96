/-
  ItemText and DeedText of the program and of the specification.
-/
import Derived.Test.YtmlgpgejfnlfmaaDoorTxtA
import Derived.Test.YtmlgpgejfnlfmaaDoorSpT3
import Derived.Test.YtmlgpgejfnlfmaaDoorCode1
import Derived.Test.YtmlgpgejfnlfmaaDoorWItem
import Derived.Test.YtmlgpgejfnlfmaaDoorWDeed
import Derived.Test.YtmlgpgejfnlfmaaDoorToSt
import Derived.Test.YtmlgpgejfnlfmaaDoorDeeds1
namespace Go.Proofs.YtmlgpgejfnlfmaaDoor
open Go.ChangeShapes Go.WideShapes Go.ChangeAt Go.RowKit
set_option linter.unusedVariables false
set_option maxRecDepth 100000

theorem codeNm_size (n : Int) : (codeNm n).size ≤ 4 := by
  unfold codeNm
  repeat' split
  all_goals decide
def itemT (x : ItemD) : ByteArray := (numX x.stamp ++ ⟨#[58, 32]⟩) ++ spanX x.s
def judgeT (x : DeedD) : ByteArray := ⟨#[106, 117, 100, 103, 101, 32]⟩ ++ numX x.trace
def deedT (x : DeedD) : ByteArray :=
  if x.op = 1 then (if x.lin = -1 then (⟨#[111, 102, 102, 101, 114, 32]⟩ ++ spanX x.s) ++ ⟨#[32, 111, 112, 101, 110]⟩ else ((⟨#[111, 102, 102, 101, 114, 32]⟩ ++ spanX x.s) ++ ⟨#[32]⟩) ++ codeNm x.code)
  else if x.op = 2 then (if x.lin = -1 then judgeT x ++ ⟨#[32, 111, 112, 101, 110]⟩ else if x.void then judgeT x ++ ⟨#[32, 118, 111, 105, 100]⟩ else if x.keep then (judgeT x ++ ⟨#[32, 107, 101, 112, 116, 32]⟩) ++ numX x.n else (judgeT x ++ ⟨#[32, 100, 114, 111, 112, 112, 101, 100, 32]⟩) ++ numX x.n)
  else if x.op = 3 then ((⟨#[100, 114, 111, 112, 32]⟩ ++ numX x.trace) ++ ⟨#[32]⟩) ++ numX x.n
  else if x.op = 4 then ⟨#[115, 104, 117, 116]⟩ else ⟨#[]⟩
set_option maxHeartbeats 4000000 in
theorem specItemText (x : ItemD) (S0 : Nat → Prop) (c0 : List Value) (w : World) (h0 : itemR w S0 c0 x) (b0 : itemBulk x ≤ 1048576) (hi : InItem x) :
    Calls Tryd.prog 17 #[.agg c0.toArray] w fun e w' => e = .returned (.string (itemT x)) ∧ Below w.heap.size w w' := by
  have zN := numX_size x.stamp hi
  have zc0 : (⟨#[58, 32]⟩ : ByteArray).size = 2 := rfl
  have P0 := Held.new w c0 50
  have B0 := bnew w (.cells c0.toArray 50)
  obtain ⟨cb, hcb, hsb⟩ := itemR_sub_s h0
  have rb : RowT Tryd.prog 32 cb.length := by rw [spanR_len hcb]; exact rowISpan
  have r0 : RowT Tryd.prog 50 c0.length := by rw [itemR_len h0]; exact rowIItem
  have HSB := hide hsb
  have HB := hide hcb
  have HR := hide h0
  have hbb : spanBulk x.s ≤ 1048576 := by unfold itemBulk at b0; unfold spanBulk; omega
  have zS := spanX_size x.s
  clear h0 hcb hsb
  go_enter Tryd.func17, Tryd.ntmps17
  go_upto_region 1 with fail
  generalize World.alloc w _ = w0 at *
  refine wp_region_held_drew (S := fun w' => Below w0.heap.size w0 w') (by kernel_rfl) (Below.drew (Below.refl _ _)) (fun hHeld => ?_)
  refine wpAnyH_take (i := 0) (oi := ?oo1) (v := ?vv1) ?hi1 (by kernel_rfl) (by kernel_rfl) (by kernel_rfl) ?hQ1 ?hy1 (by assumption) ?rest1
  case hi1 => (simp only [List.getElem?_toArray, List.getElem?_cons_zero]; rfl)
  case hQ1 => exact fun _ _ _ h => h
  case hy1 => exact Or.inl ⟨by rfl, by intro wS hSw; (try dsimp only at hSw); go_simp; try first | (with_reducible rfl) | (simp only [*]; done) | omega⟩
  try simp only [Act.put, List.setIfInBounds_toArray, List.set_cons_zero, List.set_cons_succ]
  refine wpAnyH_take (i := 1) (oi := ?oo2) (v := .int .i64 x.stamp) ?hi2 (by kernel_rfl) (by kernel_rfl) (by kernel_rfl) ?hQ2 ?hy2 (by assumption) ?rest2
  case hi2 => (simp only [List.getElem?_toArray, List.getElem?_cons_zero, List.getElem?_cons_succ]; rfl)
  case hQ2 => exact fun _ _ _ h => h
  case hy2 => exact yld_cell (by rfl) _ _ rfl _ _ rfl _ (fun w' hS => (P0.keep hS).2 0 _ (itemR_c0 (unhide HR))) plainInt
  try simp only [Act.put, List.setIfInBounds_toArray, List.set_cons_zero, List.set_cons_succ]
  refine wpAnyH_take (i := 4) (oi := ?oo3) (v := ?vv3) ?hi3 (by kernel_rfl) (by kernel_rfl) (by kernel_rfl) ?hQ3 ?hy3 (by assumption) ?rest3
  case hi3 => (simp only [List.getElem?_toArray, List.getElem?_cons_zero, List.getElem?_cons_succ]; rfl)
  case hQ3 => exact fun _ _ _ h => h
  case hy3 => exact Or.inl ⟨by rfl, by intro wS hSw; (try dsimp only at hSw); go_simp; try first | (with_reducible rfl) | (simp only [*]; done) | omega⟩
  try simp only [Act.put, List.setIfInBounds_toArray, List.set_cons_zero, List.set_cons_succ]
  refine wpAnyH_take (i := 5) (oi := ?oo4) (v := .agg cb.toArray) ?hi4 (by kernel_rfl) (by kernel_rfl) (by kernel_rfl) ?hQ4 ?hy4 (by assumption) ?rest4
  case hi4 => (simp only [List.getElem?_toArray, List.getElem?_cons_zero, List.getElem?_cons_succ]; rfl)
  case hQ4 => exact fun _ _ _ h => h
  case hy4 => exact yld_load (by rfl) _ _ rfl _ 1 rfl cb (fun w' hS => sub_in (P0.keep hS) 1 (unhide HSB)) rb
  try simp only [Act.put, List.setIfInBounds_toArray, List.set_cons_zero, List.set_cons_succ]
  refine wpAnyH_ready (rs := [2]) (by kernel_rfl) (by simp) ?_
  refine (AllReadyH.cons (o := ?bo5n2) ?bh5n2 (fun K hK => ?br5n2) AllReadyH.nil)
  case bh5n2 => (simp only [List.getElem?_toArray, List.getElem?_cons_zero, List.getElem?_cons_succ]; rfl)
  case br5n2 =>
    go_simp
    refine (specNumX x.stamp hi _).mono ?_
    rintro e wq1 ⟨rfl, hbq1⟩
    have hHq1 := bthen hHeld hbq1
    clear hHeld hbq1
    go_wp2_with fail
    refine hK.out _ _ (hHq1) (fun hHeld => ?_)
    clear hK
    refine wpAnyH_take (i := 3) (oi := ?oo6) (v := .string (numX x.stamp ++ (⟨#[58, 32]⟩ : ByteArray))) ?hi6 (by kernel_rfl) (by kernel_rfl) (by kernel_rfl) ?hQ6 ?hy6 (by assumption) ?rest6
    case hi6 => (simp only [List.getElem?_toArray, List.getElem?_cons_zero, List.getElem?_cons_succ]; rfl)
    case hQ6 => exact fun _ _ _ h => h
    case hy6 => exact Or.inl ⟨by rfl, by intro wS hSw; (try dsimp only at hSw); go_simp; (try simp only [ByteArray.size_append, zc0]); first | omega | (rw [if_neg (by omega)]; done) | (rw [if_neg (by omega)]; rfl) | (simp; omega)⟩
    try simp only [Act.put, List.setIfInBounds_toArray, List.set_cons_zero, List.set_cons_succ]
    refine wpAnyH_ready (rs := [6]) (by kernel_rfl) (by simp) ?_
    refine (AllReadyH.cons (o := ?bo7n6) ?bh7n6 (fun K hK => ?br7n6) AllReadyH.nil)
    case bh7n6 => (simp only [List.getElem?_toArray, List.getElem?_cons_zero, List.getElem?_cons_succ]; rfl)
    case br7n6 =>
      go_simp
      refine (specSpTN x.s S0 cb _ (spanR_keeps _ _ _ None1 _ _ (Below.turn (bthen B0 hHeld)) none_off (unhide HB)) hbb).mono ?_
      rintro e wq2 ⟨rfl, hbq2⟩
      have hHq2 := bthen hHeld hbq2
      clear hHeld hbq2
      go_wp2_with fail
      refine hK.out _ _ (hHq2) (fun hHeld => ?_)
      clear hK
      refine wpAnyH_take (i := 7) (oi := ?oo8) (v := .string ((numX x.stamp ++ (⟨#[58, 32]⟩ : ByteArray)) ++ spanX x.s)) ?hi8 (by kernel_rfl) (by kernel_rfl) (by kernel_rfl) ?hQ8 ?hy8 (by assumption) ?rest8
      case hi8 => (simp only [List.getElem?_toArray, List.getElem?_cons_zero, List.getElem?_cons_succ]; rfl)
      case hQ8 => exact fun _ _ _ h => h
      case hy8 => exact Or.inl ⟨by rfl, by intro wS hSw; (try dsimp only at hSw); go_simp; (try simp only [ByteArray.size_append, zc0]); first | omega | (rw [if_neg (by omega)]; done) | (rw [if_neg (by omega)]; rfl) | (simp; omega)⟩
      try simp only [Act.put, List.setIfInBounds_toArray, List.set_cons_zero, List.set_cons_succ]
      refine wpAnyH_take (i := 8) (oi := ?oo9) (v := ?vv9) ?hi9 (by kernel_rfl) (by kernel_rfl) (by kernel_rfl) ?hQ9 ?hy9 (by assumption) ?rest9
      case hi9 => (simp only [List.getElem?_toArray, List.getElem?_cons_zero, List.getElem?_cons_succ]; rfl)
      case hQ9 => exact fun _ _ _ h => h
      case hy9 => exact Or.inl ⟨by rfl, by intro wS hSw; (try dsimp only at hSw); go_simp; try first | (with_reducible rfl) | (simp only [*]; done) | omega⟩
      try simp only [Act.put, List.setIfInBounds_toArray, List.set_cons_zero, List.set_cons_succ]
      refine wpAnyH_done (by kernel_rfl) ?_ _
      go_wp2
      go_ret
      exact ⟨rfl, bthen B0 hHeld⟩
set_option maxHeartbeats 4000000 in
theorem implItemText (x : ItemD) (S0 : Nat → Prop) (c0 : List Value) (w : World) (h0 : itemR w S0 c0 x) (b0 : itemBulk x ≤ 1048576) (hi : InItem x) (htab : Lib.TabIs Tryd.prog w "internal/strconv.uint64pow10" .u64 Lib.pow10Tab) :
    Calls Tryd.prog 19 #[.agg c0.toArray] w fun e w' => e = .returned (.string (itemT x)) ∧ Below w.heap.size w w' := by
  have zN := numX_size x.stamp hi
  have zc0 : (⟨#[58, 32]⟩ : ByteArray).size = 2 := rfl
  have P0 := Held.new w c0 50
  have B0 := bnew w (.cells c0.toArray 50)
  obtain ⟨cb, hcb, hsb⟩ := itemR_sub_s h0
  have rb : RowT Tryd.prog 32 cb.length := by rw [spanR_len hcb]; exact rowISpan
  have r0 : RowT Tryd.prog 50 c0.length := by rw [itemR_len h0]; exact rowIItem
  have HSB := hide hsb
  have HB := hide hcb
  have HR := hide h0
  have hbb : spanBulk x.s ≤ 1048576 := by unfold itemBulk at b0; unfold spanBulk; omega
  have zS := spanX_size x.s
  clear h0 hcb hsb
  go_enter Tryd.func19, Tryd.ntmps19
  go_upto_region 1 with fail
  generalize World.alloc w _ = w0 at *
  refine wp_region_held_drew (S := fun w' => Below w0.heap.size w0 w') (by kernel_rfl) (Below.drew (Below.refl _ _)) (fun hHeld => ?_)
  refine wpAnyH_take (i := 0) (oi := ?oo10) (v := ?vv10) ?hi10 (by kernel_rfl) (by kernel_rfl) (by kernel_rfl) ?hQ10 ?hy10 (by assumption) ?rest10
  case hi10 => (simp only [List.getElem?_toArray, List.getElem?_cons_zero]; rfl)
  case hQ10 => exact fun _ _ _ h => h
  case hy10 => exact Or.inl ⟨by rfl, by intro wS hSw; (try dsimp only at hSw); go_simp; try first | (with_reducible rfl) | (simp only [*]; done) | omega⟩
  try simp only [Act.put, List.setIfInBounds_toArray, List.set_cons_zero, List.set_cons_succ]
  refine wpAnyH_take (i := 1) (oi := ?oo11) (v := .int .i64 x.stamp) ?hi11 (by kernel_rfl) (by kernel_rfl) (by kernel_rfl) ?hQ11 ?hy11 (by assumption) ?rest11
  case hi11 => (simp only [List.getElem?_toArray, List.getElem?_cons_zero, List.getElem?_cons_succ]; rfl)
  case hQ11 => exact fun _ _ _ h => h
  case hy11 => exact yld_cell (by rfl) _ _ rfl _ _ rfl _ (fun w' hS => (P0.keep hS).2 0 _ (itemR_c0 (unhide HR))) plainInt
  try simp only [Act.put, List.setIfInBounds_toArray, List.set_cons_zero, List.set_cons_succ]
  refine wpAnyH_take (i := 4) (oi := ?oo12) (v := ?vv12) ?hi12 (by kernel_rfl) (by kernel_rfl) (by kernel_rfl) ?hQ12 ?hy12 (by assumption) ?rest12
  case hi12 => (simp only [List.getElem?_toArray, List.getElem?_cons_zero, List.getElem?_cons_succ]; rfl)
  case hQ12 => exact fun _ _ _ h => h
  case hy12 => exact Or.inl ⟨by rfl, by intro wS hSw; (try dsimp only at hSw); go_simp; try first | (with_reducible rfl) | (simp only [*]; done) | omega⟩
  try simp only [Act.put, List.setIfInBounds_toArray, List.set_cons_zero, List.set_cons_succ]
  refine wpAnyH_take (i := 5) (oi := ?oo13) (v := .agg cb.toArray) ?hi13 (by kernel_rfl) (by kernel_rfl) (by kernel_rfl) ?hQ13 ?hy13 (by assumption) ?rest13
  case hi13 => (simp only [List.getElem?_toArray, List.getElem?_cons_zero, List.getElem?_cons_succ]; rfl)
  case hQ13 => exact fun _ _ _ h => h
  case hy13 => exact yld_load (by rfl) _ _ rfl _ 1 rfl cb (fun w' hS => sub_in (P0.keep hS) 1 (unhide HSB)) rb
  try simp only [Act.put, List.setIfInBounds_toArray, List.set_cons_zero, List.set_cons_succ]
  refine wpAnyH_ready (rs := [2]) (by kernel_rfl) (by simp) ?_
  refine (AllReadyH.cons (o := ?bo14n2) ?bh14n2 (fun K hK => ?br14n2) AllReadyH.nil)
  case bh14n2 => (simp only [List.getElem?_toArray, List.getElem?_cons_zero, List.getElem?_cons_succ]; rfl)
  case br14n2 =>
    go_simp
    refine (implNumX x.stamp hi _ (htab_keep htab (bthen B0 hHeld))).mono ?_
    rintro e wq1 ⟨rfl, hbq1⟩
    have hHq1 := bthen hHeld hbq1
    clear hHeld hbq1
    go_wp2_with fail
    refine hK.out _ _ (hHq1) (fun hHeld => ?_)
    clear hK
    refine wpAnyH_take (i := 3) (oi := ?oo15) (v := .string (numX x.stamp ++ (⟨#[58, 32]⟩ : ByteArray))) ?hi15 (by kernel_rfl) (by kernel_rfl) (by kernel_rfl) ?hQ15 ?hy15 (by assumption) ?rest15
    case hi15 => (simp only [List.getElem?_toArray, List.getElem?_cons_zero, List.getElem?_cons_succ]; rfl)
    case hQ15 => exact fun _ _ _ h => h
    case hy15 => exact Or.inl ⟨by rfl, by intro wS hSw; (try dsimp only at hSw); go_simp; (try simp only [ByteArray.size_append, zc0]); first | omega | (rw [if_neg (by omega)]; done) | (rw [if_neg (by omega)]; rfl) | (simp; omega)⟩
    try simp only [Act.put, List.setIfInBounds_toArray, List.set_cons_zero, List.set_cons_succ]
    refine wpAnyH_ready (rs := [6]) (by kernel_rfl) (by simp) ?_
    refine (AllReadyH.cons (o := ?bo16n6) ?bh16n6 (fun K hK => ?br16n6) AllReadyH.nil)
    case bh16n6 => (simp only [List.getElem?_toArray, List.getElem?_cons_zero, List.getElem?_cons_succ]; rfl)
    case br16n6 =>
      go_simp
      refine (implSpTN x.s S0 cb _ (spanR_keeps _ _ _ None1 _ _ (Below.turn (bthen B0 hHeld)) none_off (unhide HB)) hbb (htab_keep htab (bthen B0 hHeld))).mono ?_
      rintro e wq2 ⟨rfl, hbq2⟩
      have hHq2 := bthen hHeld hbq2
      clear hHeld hbq2
      go_wp2_with fail
      refine hK.out _ _ (hHq2) (fun hHeld => ?_)
      clear hK
      refine wpAnyH_take (i := 7) (oi := ?oo17) (v := .string ((numX x.stamp ++ (⟨#[58, 32]⟩ : ByteArray)) ++ spanX x.s)) ?hi17 (by kernel_rfl) (by kernel_rfl) (by kernel_rfl) ?hQ17 ?hy17 (by assumption) ?rest17
      case hi17 => (simp only [List.getElem?_toArray, List.getElem?_cons_zero, List.getElem?_cons_succ]; rfl)
      case hQ17 => exact fun _ _ _ h => h
      case hy17 => exact Or.inl ⟨by rfl, by intro wS hSw; (try dsimp only at hSw); go_simp; (try simp only [ByteArray.size_append, zc0]); first | omega | (rw [if_neg (by omega)]; done) | (rw [if_neg (by omega)]; rfl) | (simp; omega)⟩
      try simp only [Act.put, List.setIfInBounds_toArray, List.set_cons_zero, List.set_cons_succ]
      refine wpAnyH_take (i := 8) (oi := ?oo18) (v := ?vv18) ?hi18 (by kernel_rfl) (by kernel_rfl) (by kernel_rfl) ?hQ18 ?hy18 (by assumption) ?rest18
      case hi18 => (simp only [List.getElem?_toArray, List.getElem?_cons_zero, List.getElem?_cons_succ]; rfl)
      case hQ18 => exact fun _ _ _ h => h
      case hy18 => exact Or.inl ⟨by rfl, by intro wS hSw; (try dsimp only at hSw); go_simp; try first | (with_reducible rfl) | (simp only [*]; done) | omega⟩
      try simp only [Act.put, List.setIfInBounds_toArray, List.set_cons_zero, List.set_cons_succ]
      refine wpAnyH_done (by kernel_rfl) ?_ _
      go_wp2
      go_ret
      exact ⟨rfl, bthen B0 hHeld⟩
end Go.Proofs.YtmlgpgejfnlfmaaDoor
