/-
  DeedText of the program and of the specification.
-/
import Derived.Test.YtmlgpgejfnlfmaaDoorTxtB
namespace Go.Proofs.YtmlgpgejfnlfmaaDoor
open Go.ChangeShapes Go.WideShapes Go.ChangeAt Go.RowKit
set_option linter.unusedVariables false
set_option maxRecDepth 100000

def endO (x : DeedD) : ByteArray := if tookB x then codeNm x.code else ⟨#[111, 112, 101, 110]⟩
theorem endO_size (x : DeedD) : (endO x).size ≤ 4 := by
  unfold endO
  split
  · exact codeNm_size _
  · decide
set_option maxHeartbeats 2000000 in
theorem implOfferEnd (x : DeedD) (S0 : Nat → Prop) (c0 : List Value) (w : World) (h0 : deedR w S0 c0 x) (b0 : deedBulk x ≤ 1048576) :
    Calls Tryd.prog 37 #[.agg c0.toArray] w fun e w' => e = .returned (.string (endO x)) ∧ Below w.heap.size w w' := by
  have P0 := Held.new w c0 59
  have B0 := bnew w (.cells c0.toArray 59)
  have r0 : RowT Tryd.prog 59 c0.length := by rw [deedR_len h0]; exact rowIDeed
  have HR := hide h0
  clear h0
  go_enter Tryd.func37, Tryd.ntmps37
  go_upto_region 1 with fail
  generalize World.alloc w _ = w0 at *
  go_wp2_with (first | (refine wpl_load rfl 59 _ rfl _ 0 rfl c0 P0.inB r0 ?_))
  have hc := implTook x S0 c0 _ (deedR_keeps _ _ _ None1 _ _ (Below.turn B0) none_off (unhide HR)) b0
  cases hp : tookB x
  · have HF := hide (show endO x = ⟨#[111, 112, 101, 110]⟩ by simp [endO, hp])
    rw [hp] at hc
    refine hc.mono ?_
    rintro e w1 ⟨rfl, hb1⟩
    clear hc
    go_wp2
    go_ret
    exact ⟨by rw [unhide HF]; rfl, bthen B0 hb1⟩
  · have HF := hide (show endO x = codeNm x.code by simp [endO, hp])
    rw [hp] at hc
    refine hc.mono ?_
    rintro e w1 ⟨rfl, hb1⟩
    clear hc
    have p10 := (P0.keep hb1).2 10 _ (deedR_c10 (unhide HR))
    go_wp2_with fail
    refine (implCodeName x.code _).mono ?_
    rintro e w2 ⟨rfl, hb2⟩
    go_wp2
    go_ret
    exact ⟨by rw [unhide HF]; rfl, bthen (bthen B0 hb1) hb2⟩
def endJ (x : DeedD) : ByteArray := if tookB x then (if x.void then ⟨#[118, 111, 105, 100]⟩ else if x.keep then ⟨#[107, 101, 112, 116, 32]⟩ ++ numX x.n else ⟨#[100, 114, 111, 112, 112, 101, 100, 32]⟩ ++ numX x.n) else ⟨#[111, 112, 101, 110]⟩
theorem endJ_size (x : DeedD) (h : InI x.n) : (endJ x).size ≤ 100 := by
  have h1 := numX_size x.n h
  unfold endJ
  split
  · split
    · decide
    · split
      · rw [ByteArray.size_append, show (⟨#[107, 101, 112, 116, 32]⟩ : ByteArray).size = 5 from rfl]; omega
      · rw [ByteArray.size_append, show (⟨#[100, 114, 111, 112, 112, 101, 100, 32]⟩ : ByteArray).size = 8 from rfl]; omega
  · decide
theorem cut_open (J : ByteArray) : J ++ ⟨#[32, 111, 112, 101, 110]⟩ = (J ++ ⟨#[32]⟩) ++ ⟨#[111, 112, 101, 110]⟩ := by rw [ba_assoc]; rfl
theorem cut_void (J : ByteArray) : J ++ ⟨#[32, 118, 111, 105, 100]⟩ = (J ++ ⟨#[32]⟩) ++ ⟨#[118, 111, 105, 100]⟩ := by rw [ba_assoc]; rfl
theorem cut_kept (J N : ByteArray) : (J ++ ⟨#[32, 107, 101, 112, 116, 32]⟩) ++ N = (J ++ ⟨#[32]⟩) ++ (⟨#[107, 101, 112, 116, 32]⟩ ++ N) := by
  rw [show (⟨#[32, 107, 101, 112, 116, 32]⟩ : ByteArray) = ⟨#[32]⟩ ++ ⟨#[107, 101, 112, 116, 32]⟩ from rfl]; simp only [ba_assoc]
theorem cut_dropped (J N : ByteArray) : (J ++ ⟨#[32, 100, 114, 111, 112, 112, 101, 100, 32]⟩) ++ N = (J ++ ⟨#[32]⟩) ++ (⟨#[100, 114, 111, 112, 112, 101, 100, 32]⟩ ++ N) := by
  rw [show (⟨#[32, 100, 114, 111, 112, 112, 101, 100, 32]⟩ : ByteArray) = ⟨#[32]⟩ ++ ⟨#[100, 114, 111, 112, 112, 101, 100, 32]⟩ from rfl]; simp only [ba_assoc]
set_option maxHeartbeats 2000000 in
theorem implJudgeEnd (x : DeedD) (S0 : Nat → Prop) (c0 : List Value) (w : World) (h0 : deedR w S0 c0 x) (b0 : deedBulk x ≤ 1048576) (hn : InI x.n) (htab : Lib.TabIs Tryd.prog w "internal/strconv.uint64pow10" .u64 Lib.pow10Tab) :
    Calls Tryd.prog 38 #[.agg c0.toArray] w fun e w' => e = .returned (.string (endJ x)) ∧ Below w.heap.size w w' := by
  have P0 := Held.new w c0 59
  have B0 := bnew w (.cells c0.toArray 59)
  have r0 : RowT Tryd.prog 59 c0.length := by rw [deedR_len h0]; exact rowIDeed
  have HR := hide h0
  have zN := numX_size x.n hn
  clear h0
  go_enter Tryd.func38, Tryd.ntmps38
  go_upto_region 1 with fail
  generalize World.alloc w _ = w0 at *
  go_wp2_with (first | (refine wpl_load rfl 59 _ rfl _ 0 rfl c0 P0.inB r0 ?_))
  have hc := implTook x S0 c0 _ (deedR_keeps _ _ _ None1 _ _ (Below.turn B0) none_off (unhide HR)) b0
  cases hp : tookB x
  · have HF := hide (show endJ x = ⟨#[111, 112, 101, 110]⟩ by simp [endJ, hp])
    rw [hp] at hc
    refine hc.mono ?_
    rintro e w1 ⟨rfl, hb1⟩
    clear hc
    go_wp2
    go_ret
    exact ⟨by rw [unhide HF]; rfl, bthen B0 hb1⟩
  rw [hp] at hc
  refine hc.mono ?_
  rintro e w1 ⟨rfl, hb1⟩
  clear hc
  have p11 := (P0.keep hb1).2 11 _ (deedR_c11 (unhide HR))
  have p12 := (P0.keep hb1).2 12 _ (deedR_c12 (unhide HR))
  have p14 := (P0.keep hb1).2 14 _ (deedR_c14 (unhide HR))
  cases hv : x.void
  case true =>
    have HF := hide (show endJ x = ⟨#[118, 111, 105, 100]⟩ by simp [endJ, hp, hv])
    rw [hv] at p12
    go_wp2
    go_ret
    exact ⟨by rw [unhide HF]; rfl, bthen B0 hb1⟩
  rw [hv] at p12
  cases hk : x.keep
  case true =>
    have HF := hide (show endJ x = (⟨#[107, 101, 112, 116, 32]⟩ : ByteArray) ++ numX x.n by simp [endJ, hp, hv, hk])
    rw [hk] at p11
    go_wp2_with fail
    refine (implNumX x.n hn _ (htab_keep htab (bthen B0 hb1))).mono ?_
    rintro e w2 ⟨rfl, hb2⟩
    generalize numX x.n = T at *
    have hs : (⟨#[107, 101, 112, 116, 32]⟩ : ByteArray).size = 5 := rfl
    go_wp2
    go_ret
    exact ⟨by rw [unhide HF]; rfl, bthen (bthen B0 hb1) hb2⟩
  case false =>
    have HF := hide (show endJ x = (⟨#[100, 114, 111, 112, 112, 101, 100, 32]⟩ : ByteArray) ++ numX x.n by simp [endJ, hp, hv, hk])
    rw [hk] at p11
    go_wp2_with fail
    refine (implNumX x.n hn _ (htab_keep htab (bthen B0 hb1))).mono ?_
    rintro e w2 ⟨rfl, hb2⟩
    generalize numX x.n = T at *
    have hs : (⟨#[100, 114, 111, 112, 112, 101, 100, 32]⟩ : ByteArray).size = 8 := rfl
    go_wp2
    go_ret
    exact ⟨by rw [unhide HF]; rfl, bthen (bthen B0 hb1) hb2⟩
set_option maxHeartbeats 8000000 in
theorem specDeedText (x : DeedD) (S0 : Nat → Prop) (c0 : List Value) (w : World) (h0 : deedR w S0 c0 x) (b0 : deedBulk x ≤ 1048576) (hi : InDeed x) :
    Calls Tryd.prog 22 #[.agg c0.toArray] w fun e w' => e = .returned (.string (deedT x)) ∧ Below w.heap.size w w' := by
  obtain ⟨i_op, i_task, i_trace, i_stamp, i_code, i_took, i_n, i_rest⟩ := hi
  have zT := numX_size x.trace i_trace
  have zN := numX_size x.n i_n
  have zC := codeNm_size x.code
  have zc0 : (⟨#[111, 102, 102, 101, 114, 32]⟩ : ByteArray).size = 6 := rfl
  have zc1 : (⟨#[32]⟩ : ByteArray).size = 1 := rfl
  have zc2 : (⟨#[100, 114, 111, 112, 32]⟩ : ByteArray).size = 5 := rfl
  have P0 := Held.new w c0 59
  have B0 := bnew w (.cells c0.toArray 59)
  obtain ⟨cb, hcb, hsb⟩ := deedR_sub_s h0
  have rb : RowT Tryd.prog 32 cb.length := by rw [spanR_len hcb]; exact rowISpan
  have r0 : RowT Tryd.prog 59 c0.length := by rw [deedR_len h0]; exact rowIDeed
  have HSB := hide hsb
  have HB := hide hcb
  have HR := hide h0
  have hbb : spanBulk x.s ≤ 1048576 := by unfold deedBulk at b0; unfold spanBulk; omega
  have zS := spanX_size x.s
  clear h0 hcb hsb
  by_cases e1 : x.op = 1
  case pos =>
    have q1 : (x.op == 1) = true := by simpa using e1
    by_cases e2 : x.lin = -1
    case pos =>
      have q2 : (x.lin == -1) = true := by simpa using e2
      have HF := hide (show deedT x = (⟨#[111, 102, 102, 101, 114, 32]⟩ ++ spanX x.s) ++ ⟨#[32, 111, 112, 101, 110]⟩ by simp [deedT, e1, e2])
      clear e1 e2
      go_enter Tryd.func22, Tryd.ntmps22
      go_upto_region 1 with fail
      generalize World.alloc w _ = w0 at *
      have p0 := P0.2 0 _ (deedR_c0 (unhide HR))
      have p18 := P0.2 18 _ (deedR_c18 (unhide HR))
      go_wp2_with (first | (refine wpl_load rfl 32 _ rfl _ 2 rfl cb (sub_in P0 2 (unhide HSB)) rb ?_))
      refine (specSpTN x.s S0 cb _ (spanR_keeps _ _ _ None1 _ _ (Below.turn B0) none_off (unhide HB)) hbb).mono ?_
      rintro e w1 ⟨rfl, hb1⟩
      generalize spanX x.s = T at *
      have hs1 : (⟨#[111, 102, 102, 101, 114, 32]⟩ : ByteArray).size = 6 := rfl
      have hs2 : (⟨#[32, 111, 112, 101, 110]⟩ : ByteArray).size = 5 := rfl
      have hs3 : ((⟨#[111, 102, 102, 101, 114, 32]⟩ : ByteArray) ++ T).size = 6 + T.size := by rw [ByteArray.size_append, hs1]
      go_wp2
      go_ret
      exact ⟨by rw [unhide HF]; rfl, bthen B0 hb1⟩
    have q2 : (x.lin == -1) = false := by simpa using e2
    have HF := hide (show deedT x = ((⟨#[111, 102, 102, 101, 114, 32]⟩ ++ spanX x.s) ++ ⟨#[32]⟩) ++ codeNm x.code by simp [deedT, e1, e2])
    clear e1 e2
    go_enter Tryd.func22, Tryd.ntmps22
    go_upto_region 1 with fail
    generalize World.alloc w _ = w0 at *
    have p0 := P0.2 0 _ (deedR_c0 (unhide HR))
    have p18 := P0.2 18 _ (deedR_c18 (unhide HR))
    go_upto_region 5 with fail
    refine wp_region_held_drew (S := fun w' => Below w0.heap.size w0 w') (by kernel_rfl) (Below.drew (Below.refl _ _)) (fun hHeld => ?_)
    refine wpAnyH_take (i := 0) (oi := ?oo19) (v := ?vv19) ?hi19 (by kernel_rfl) (by kernel_rfl) (by kernel_rfl) ?hQ19 ?hy19 (by assumption) ?rest19
    case hi19 => (simp only [List.getElem?_toArray, List.getElem?_cons_zero]; rfl)
    case hQ19 => exact fun _ _ _ h => h
    case hy19 => exact Or.inl ⟨by rfl, by intro wS hSw; (try dsimp only at hSw); go_simp; try first | (with_reducible rfl) | (simp only [*]; done) | omega⟩
    try simp only [Act.put, List.setIfInBounds_toArray, List.set_cons_zero, List.set_cons_succ]
    refine wpAnyH_take (i := 1) (oi := ?oo20) (v := .agg cb.toArray) ?hi20 (by kernel_rfl) (by kernel_rfl) (by kernel_rfl) ?hQ20 ?hy20 (by assumption) ?rest20
    case hi20 => (simp only [List.getElem?_toArray, List.getElem?_cons_zero, List.getElem?_cons_succ]; rfl)
    case hQ20 => exact fun _ _ _ h => h
    case hy20 => exact yld_load (by rfl) _ _ rfl _ 2 rfl cb (fun w' hS => sub_in (P0.keep hS) 2 (unhide HSB)) rb
    try simp only [Act.put, List.setIfInBounds_toArray, List.set_cons_zero, List.set_cons_succ]
    refine wpAnyH_take (i := 5) (oi := ?oo21) (v := ?vv21) ?hi21 (by kernel_rfl) (by kernel_rfl) (by kernel_rfl) ?hQ21 ?hy21 (by assumption) ?rest21
    case hi21 => (simp only [List.getElem?_toArray, List.getElem?_cons_zero, List.getElem?_cons_succ]; rfl)
    case hQ21 => exact fun _ _ _ h => h
    case hy21 => exact Or.inl ⟨by rfl, by intro wS hSw; (try dsimp only at hSw); go_simp; try first | (with_reducible rfl) | (simp only [*]; done) | omega⟩
    try simp only [Act.put, List.setIfInBounds_toArray, List.set_cons_zero, List.set_cons_succ]
    refine wpAnyH_take (i := 6) (oi := ?oo22) (v := .int .i64 x.code) ?hi22 (by kernel_rfl) (by kernel_rfl) (by kernel_rfl) ?hQ22 ?hy22 (by assumption) ?rest22
    case hi22 => (simp only [List.getElem?_toArray, List.getElem?_cons_zero, List.getElem?_cons_succ]; rfl)
    case hQ22 => exact fun _ _ _ h => h
    case hy22 => exact yld_cell (by rfl) _ _ rfl _ _ rfl _ (fun w' hS => (P0.keep hS).2 10 _ (deedR_c10 (unhide HR))) plainInt
    try simp only [Act.put, List.setIfInBounds_toArray, List.set_cons_zero, List.set_cons_succ]
    refine wpAnyH_ready (rs := [2]) (by kernel_rfl) (by simp) ?_
    refine (AllReadyH.cons (o := ?bo23n2) ?bh23n2 (fun K hK => ?br23n2) AllReadyH.nil)
    case bh23n2 => (simp only [List.getElem?_toArray, List.getElem?_cons_zero, List.getElem?_cons_succ]; rfl)
    case br23n2 =>
      go_simp
      refine (specSpTN x.s S0 cb _ (spanR_keeps _ _ _ None1 _ _ (Below.turn (bthen B0 hHeld)) none_off (unhide HB)) hbb).mono ?_
      rintro e wq1 ⟨rfl, hbq1⟩
      have hHq1 := bthen hHeld hbq1
      clear hHeld hbq1
      go_wp2_with fail
      refine hK.out _ _ (hHq1) (fun hHeld => ?_)
      clear hK
      refine wpAnyH_take (i := 3) (oi := ?oo24) (v := .string ((⟨#[111, 102, 102, 101, 114, 32]⟩ : ByteArray) ++ spanX x.s)) ?hi24 (by kernel_rfl) (by kernel_rfl) (by kernel_rfl) ?hQ24 ?hy24 (by assumption) ?rest24
      case hi24 => (simp only [List.getElem?_toArray, List.getElem?_cons_zero, List.getElem?_cons_succ]; rfl)
      case hQ24 => exact fun _ _ _ h => h
      case hy24 => exact Or.inl ⟨by rfl, by intro wS hSw; (try dsimp only at hSw); go_simp; (try simp only [ByteArray.size_append, zc0, zc1, zc2]); first | omega | (rw [if_neg (by omega)]; done) | (rw [if_neg (by omega)]; rfl) | (simp; omega)⟩
      try simp only [Act.put, List.setIfInBounds_toArray, List.set_cons_zero, List.set_cons_succ]
      refine wpAnyH_take (i := 4) (oi := ?oo25) (v := .string (((⟨#[111, 102, 102, 101, 114, 32]⟩ : ByteArray) ++ spanX x.s) ++ (⟨#[32]⟩ : ByteArray))) ?hi25 (by kernel_rfl) (by kernel_rfl) (by kernel_rfl) ?hQ25 ?hy25 (by assumption) ?rest25
      case hi25 => (simp only [List.getElem?_toArray, List.getElem?_cons_zero, List.getElem?_cons_succ]; rfl)
      case hQ25 => exact fun _ _ _ h => h
      case hy25 => exact Or.inl ⟨by rfl, by intro wS hSw; (try dsimp only at hSw); go_simp; (try simp only [ByteArray.size_append, zc0, zc1, zc2]); first | omega | (rw [if_neg (by omega)]; done) | (rw [if_neg (by omega)]; rfl) | (simp; omega)⟩
      try simp only [Act.put, List.setIfInBounds_toArray, List.set_cons_zero, List.set_cons_succ]
      refine wpAnyH_ready (rs := [7]) (by kernel_rfl) (by simp) ?_
      refine (AllReadyH.cons (o := ?bo26n7) ?bh26n7 (fun K hK => ?br26n7) AllReadyH.nil)
      case bh26n7 => (simp only [List.getElem?_toArray, List.getElem?_cons_zero, List.getElem?_cons_succ]; rfl)
      case br26n7 =>
        go_simp
        refine (specCodeName x.code _).mono ?_
        rintro e wq2 ⟨rfl, hbq2⟩
        have hHq2 := bthen hHeld hbq2
        clear hHeld hbq2
        go_wp2_with fail
        refine hK.out _ _ (hHq2) (fun hHeld => ?_)
        clear hK
        refine wpAnyH_take (i := 8) (oi := ?oo27) (v := .string ((((⟨#[111, 102, 102, 101, 114, 32]⟩ : ByteArray) ++ spanX x.s) ++ (⟨#[32]⟩ : ByteArray)) ++ codeNm x.code)) ?hi27 (by kernel_rfl) (by kernel_rfl) (by kernel_rfl) ?hQ27 ?hy27 (by assumption) ?rest27
        case hi27 => (simp only [List.getElem?_toArray, List.getElem?_cons_zero, List.getElem?_cons_succ]; rfl)
        case hQ27 => exact fun _ _ _ h => h
        case hy27 => exact Or.inl ⟨by rfl, by intro wS hSw; (try dsimp only at hSw); go_simp; (try simp only [ByteArray.size_append, zc0, zc1, zc2]); first | omega | (rw [if_neg (by omega)]; done) | (rw [if_neg (by omega)]; rfl) | (simp; omega)⟩
        try simp only [Act.put, List.setIfInBounds_toArray, List.set_cons_zero, List.set_cons_succ]
        refine wpAnyH_take (i := 9) (oi := ?oo28) (v := ?vv28) ?hi28 (by kernel_rfl) (by kernel_rfl) (by kernel_rfl) ?hQ28 ?hy28 (by assumption) ?rest28
        case hi28 => (simp only [List.getElem?_toArray, List.getElem?_cons_zero, List.getElem?_cons_succ]; rfl)
        case hQ28 => exact fun _ _ _ h => h
        case hy28 => exact Or.inl ⟨by rfl, by intro wS hSw; (try dsimp only at hSw); go_simp; try first | (with_reducible rfl) | (simp only [*]; done) | omega⟩
        try simp only [Act.put, List.setIfInBounds_toArray, List.set_cons_zero, List.set_cons_succ]
        refine wpAnyH_done (by kernel_rfl) ?_ _
        go_wp2
        go_ret
        exact ⟨by rw [unhide HF]; rfl, bthen B0 hHeld⟩
  have q1 : (x.op == 1) = false := by simpa using e1
  by_cases e2 : x.op = 2
  case pos =>
    have q2 : (x.op == 2) = true := by simpa using e2
    have HE := hide (show deedT x = if x.lin = -1 then judgeT x ++ ⟨#[32, 111, 112, 101, 110]⟩ else if x.void then judgeT x ++ ⟨#[32, 118, 111, 105, 100]⟩ else if x.keep then (judgeT x ++ ⟨#[32, 107, 101, 112, 116, 32]⟩) ++ numX x.n else (judgeT x ++ ⟨#[32, 100, 114, 111, 112, 112, 101, 100, 32]⟩) ++ numX x.n by unfold deedT; rw [if_neg e1, if_pos e2])
    clear e1 e2
    have hs6 : (⟨#[106, 117, 100, 103, 101, 32]⟩ : ByteArray).size = 6 := rfl
    have zG : (judgeT x).size ≤ 46 := by unfold judgeT; rw [ByteArray.size_append, hs6]; omega
    go_enter Tryd.func22, Tryd.ntmps22
    go_upto_region 1 with fail
    generalize World.alloc w _ = w0 at *
    have p0 := P0.2 0 _ (deedR_c0 (unhide HR))
    have p8 := P0.2 8 _ (deedR_c8 (unhide HR))
    go_upto_region 7 with fail
    go_wp2_with fail
    refine (specNumX x.trace i_trace _).mono ?_
    rintro e w1 ⟨rfl, hb1⟩
    have p11 := (P0.keep hb1).2 11 _ (deedR_c11 (unhide HR))
    have p12 := (P0.keep hb1).2 12 _ (deedR_c12 (unhide HR))
    have p14 := (P0.keep hb1).2 14 _ (deedR_c14 (unhide HR))
    have p18 := (P0.keep hb1).2 18 _ (deedR_c18 (unhide HR))
    have B1 := bthen B0 hb1
    have hJ : (⟨#[106, 117, 100, 103, 101, 32]⟩ : ByteArray) ++ numX x.trace = judgeT x := rfl
    have hc6 : (6 : Nat) + (numX x.trace).size ≤ 9223372036854775807 := by omega
    go_upto_region 8 with fail
    try simp only [hJ]
    generalize judgeT x = T at *
    clear hJ hc6 hs6
    by_cases e3 : x.lin = -1
    case pos =>
      have q3 : (x.lin == -1) = true := by simpa using e3
      have HF := hide (show deedT x = T ++ ⟨#[32, 111, 112, 101, 110]⟩ by rw [unhide HE, if_pos e3])
      clear e3
      have hs : (⟨#[32, 111, 112, 101, 110]⟩ : ByteArray).size = 5 := rfl
      go_wp2
      go_ret
      exact ⟨by rw [unhide HF]; rfl, B1⟩
    have q3 : (x.lin == -1) = false := by simpa using e3
    cases hv : x.void
    case true =>
      have HF := hide (show deedT x = T ++ ⟨#[32, 118, 111, 105, 100]⟩ by rw [unhide HE, if_neg e3, if_pos hv])
      clear e3
      rw [hv] at p12
      have hs : (⟨#[32, 118, 111, 105, 100]⟩ : ByteArray).size = 5 := rfl
      go_wp2
      go_ret
      exact ⟨by rw [unhide HF]; rfl, B1⟩
    rw [hv] at p12
    cases hk : x.keep
    case true =>
      have HF := hide (show deedT x = (T ++ ⟨#[32, 107, 101, 112, 116, 32]⟩) ++ numX x.n by rw [unhide HE, if_neg e3, if_neg (by rw [hv]; exact Bool.false_ne_true), if_pos hk])
      clear e3
      rw [hk] at p11
      have hs : (⟨#[32, 107, 101, 112, 116, 32]⟩ : ByteArray).size = 6 := rfl
      have hs2 : (T ++ (⟨#[32, 107, 101, 112, 116, 32]⟩ : ByteArray)).size = T.size + 6 := by rw [ByteArray.size_append, hs]
      go_wp2_with fail
      refine (specNumX x.n i_n _).mono ?_
      rintro e w2 ⟨rfl, hb2⟩
      generalize numX x.n = N at *
      go_wp2
      go_ret
      exact ⟨by rw [unhide HF]; rfl, bthen B1 hb2⟩
    case false =>
      have HF := hide (show deedT x = (T ++ ⟨#[32, 100, 114, 111, 112, 112, 101, 100, 32]⟩) ++ numX x.n by rw [unhide HE, if_neg e3, if_neg (by rw [hv]; exact Bool.false_ne_true), if_neg (by rw [hk]; exact Bool.false_ne_true)])
      clear e3
      rw [hk] at p11
      have hs : (⟨#[32, 100, 114, 111, 112, 112, 101, 100, 32]⟩ : ByteArray).size = 9 := rfl
      have hs2 : (T ++ (⟨#[32, 100, 114, 111, 112, 112, 101, 100, 32]⟩ : ByteArray)).size = T.size + 9 := by rw [ByteArray.size_append, hs]
      go_wp2_with fail
      refine (specNumX x.n i_n _).mono ?_
      rintro e w2 ⟨rfl, hb2⟩
      generalize numX x.n = N at *
      go_wp2
      go_ret
      exact ⟨by rw [unhide HF]; rfl, bthen B1 hb2⟩
  have q2 : (x.op == 2) = false := by simpa using e2
  by_cases e3 : x.op = 3
  case pos =>
    have q3 : (x.op == 3) = true := by simpa using e3
    have HF := hide (show deedT x = ((⟨#[100, 114, 111, 112, 32]⟩ ++ numX x.trace) ++ ⟨#[32]⟩) ++ numX x.n by unfold deedT; rw [if_neg e1, if_neg e2, if_pos e3])
    clear e1 e2 e3
    go_enter Tryd.func22, Tryd.ntmps22
    go_upto_region 1 with fail
    generalize World.alloc w _ = w0 at *
    have p0 := P0.2 0 _ (deedR_c0 (unhide HR))
    go_upto_region 16 with fail
    refine wp_region_held_drew (S := fun w' => Below w0.heap.size w0 w') (by kernel_rfl) (Below.drew (Below.refl _ _)) (fun hHeld => ?_)
    refine wpAnyH_take (i := 0) (oi := ?oo29) (v := ?vv29) ?hi29 (by kernel_rfl) (by kernel_rfl) (by kernel_rfl) ?hQ29 ?hy29 (by assumption) ?rest29
    case hi29 => (simp only [List.getElem?_toArray, List.getElem?_cons_zero]; rfl)
    case hQ29 => exact fun _ _ _ h => h
    case hy29 => exact Or.inl ⟨by rfl, by intro wS hSw; (try dsimp only at hSw); go_simp; try first | (with_reducible rfl) | (simp only [*]; done) | omega⟩
    try simp only [Act.put, List.setIfInBounds_toArray, List.set_cons_zero, List.set_cons_succ]
    refine wpAnyH_take (i := 1) (oi := ?oo30) (v := .int .i64 x.trace) ?hi30 (by kernel_rfl) (by kernel_rfl) (by kernel_rfl) ?hQ30 ?hy30 (by assumption) ?rest30
    case hi30 => (simp only [List.getElem?_toArray, List.getElem?_cons_zero, List.getElem?_cons_succ]; rfl)
    case hQ30 => exact fun _ _ _ h => h
    case hy30 => exact yld_cell (by rfl) _ _ rfl _ _ rfl _ (fun w' hS => (P0.keep hS).2 8 _ (deedR_c8 (unhide HR))) plainInt
    try simp only [Act.put, List.setIfInBounds_toArray, List.set_cons_zero, List.set_cons_succ]
    refine wpAnyH_take (i := 5) (oi := ?oo31) (v := ?vv31) ?hi31 (by kernel_rfl) (by kernel_rfl) (by kernel_rfl) ?hQ31 ?hy31 (by assumption) ?rest31
    case hi31 => (simp only [List.getElem?_toArray, List.getElem?_cons_zero, List.getElem?_cons_succ]; rfl)
    case hQ31 => exact fun _ _ _ h => h
    case hy31 => exact Or.inl ⟨by rfl, by intro wS hSw; (try dsimp only at hSw); go_simp; try first | (with_reducible rfl) | (simp only [*]; done) | omega⟩
    try simp only [Act.put, List.setIfInBounds_toArray, List.set_cons_zero, List.set_cons_succ]
    refine wpAnyH_take (i := 6) (oi := ?oo32) (v := .int .i64 x.n) ?hi32 (by kernel_rfl) (by kernel_rfl) (by kernel_rfl) ?hQ32 ?hy32 (by assumption) ?rest32
    case hi32 => (simp only [List.getElem?_toArray, List.getElem?_cons_zero, List.getElem?_cons_succ]; rfl)
    case hQ32 => exact fun _ _ _ h => h
    case hy32 => exact yld_cell (by rfl) _ _ rfl _ _ rfl _ (fun w' hS => (P0.keep hS).2 14 _ (deedR_c14 (unhide HR))) plainInt
    try simp only [Act.put, List.setIfInBounds_toArray, List.set_cons_zero, List.set_cons_succ]
    refine wpAnyH_ready (rs := [2]) (by kernel_rfl) (by simp) ?_
    refine (AllReadyH.cons (o := ?bo33n2) ?bh33n2 (fun K hK => ?br33n2) AllReadyH.nil)
    case bh33n2 => (simp only [List.getElem?_toArray, List.getElem?_cons_zero, List.getElem?_cons_succ]; rfl)
    case br33n2 =>
      go_simp
      refine (specNumX x.trace i_trace _).mono ?_
      rintro e wq1 ⟨rfl, hbq1⟩
      have hHq1 := bthen hHeld hbq1
      clear hHeld hbq1
      go_wp2_with fail
      refine hK.out _ _ (hHq1) (fun hHeld => ?_)
      clear hK
      refine wpAnyH_take (i := 3) (oi := ?oo34) (v := .string ((⟨#[100, 114, 111, 112, 32]⟩ : ByteArray) ++ numX x.trace)) ?hi34 (by kernel_rfl) (by kernel_rfl) (by kernel_rfl) ?hQ34 ?hy34 (by assumption) ?rest34
      case hi34 => (simp only [List.getElem?_toArray, List.getElem?_cons_zero, List.getElem?_cons_succ]; rfl)
      case hQ34 => exact fun _ _ _ h => h
      case hy34 => exact Or.inl ⟨by rfl, by intro wS hSw; (try dsimp only at hSw); go_simp; (try simp only [ByteArray.size_append, zc0, zc1, zc2]); first | omega | (rw [if_neg (by omega)]; done) | (rw [if_neg (by omega)]; rfl) | (simp; omega)⟩
      try simp only [Act.put, List.setIfInBounds_toArray, List.set_cons_zero, List.set_cons_succ]
      refine wpAnyH_take (i := 4) (oi := ?oo35) (v := .string (((⟨#[100, 114, 111, 112, 32]⟩ : ByteArray) ++ numX x.trace) ++ (⟨#[32]⟩ : ByteArray))) ?hi35 (by kernel_rfl) (by kernel_rfl) (by kernel_rfl) ?hQ35 ?hy35 (by assumption) ?rest35
      case hi35 => (simp only [List.getElem?_toArray, List.getElem?_cons_zero, List.getElem?_cons_succ]; rfl)
      case hQ35 => exact fun _ _ _ h => h
      case hy35 => exact Or.inl ⟨by rfl, by intro wS hSw; (try dsimp only at hSw); go_simp; (try simp only [ByteArray.size_append, zc0, zc1, zc2]); first | omega | (rw [if_neg (by omega)]; done) | (rw [if_neg (by omega)]; rfl) | (simp; omega)⟩
      try simp only [Act.put, List.setIfInBounds_toArray, List.set_cons_zero, List.set_cons_succ]
      refine wpAnyH_ready (rs := [7]) (by kernel_rfl) (by simp) ?_
      refine (AllReadyH.cons (o := ?bo36n7) ?bh36n7 (fun K hK => ?br36n7) AllReadyH.nil)
      case bh36n7 => (simp only [List.getElem?_toArray, List.getElem?_cons_zero, List.getElem?_cons_succ]; rfl)
      case br36n7 =>
        go_simp
        refine (specNumX x.n i_n _).mono ?_
        rintro e wq2 ⟨rfl, hbq2⟩
        have hHq2 := bthen hHeld hbq2
        clear hHeld hbq2
        go_wp2_with fail
        refine hK.out _ _ (hHq2) (fun hHeld => ?_)
        clear hK
        refine wpAnyH_take (i := 8) (oi := ?oo37) (v := .string ((((⟨#[100, 114, 111, 112, 32]⟩ : ByteArray) ++ numX x.trace) ++ (⟨#[32]⟩ : ByteArray)) ++ numX x.n)) ?hi37 (by kernel_rfl) (by kernel_rfl) (by kernel_rfl) ?hQ37 ?hy37 (by assumption) ?rest37
        case hi37 => (simp only [List.getElem?_toArray, List.getElem?_cons_zero, List.getElem?_cons_succ]; rfl)
        case hQ37 => exact fun _ _ _ h => h
        case hy37 => exact Or.inl ⟨by rfl, by intro wS hSw; (try dsimp only at hSw); go_simp; (try simp only [ByteArray.size_append, zc0, zc1, zc2]); first | omega | (rw [if_neg (by omega)]; done) | (rw [if_neg (by omega)]; rfl) | (simp; omega)⟩
        try simp only [Act.put, List.setIfInBounds_toArray, List.set_cons_zero, List.set_cons_succ]
        refine wpAnyH_take (i := 9) (oi := ?oo38) (v := ?vv38) ?hi38 (by kernel_rfl) (by kernel_rfl) (by kernel_rfl) ?hQ38 ?hy38 (by assumption) ?rest38
        case hi38 => (simp only [List.getElem?_toArray, List.getElem?_cons_zero, List.getElem?_cons_succ]; rfl)
        case hQ38 => exact fun _ _ _ h => h
        case hy38 => exact Or.inl ⟨by rfl, by intro wS hSw; (try dsimp only at hSw); go_simp; try first | (with_reducible rfl) | (simp only [*]; done) | omega⟩
        try simp only [Act.put, List.setIfInBounds_toArray, List.set_cons_zero, List.set_cons_succ]
        refine wpAnyH_done (by kernel_rfl) ?_ _
        go_wp2
        go_ret
        exact ⟨by rw [unhide HF]; rfl, bthen B0 hHeld⟩
  have q3 : (x.op == 3) = false := by simpa using e3
  by_cases e4 : x.op = 4
  case pos =>
    have q4 : (x.op == 4) = true := by simpa using e4
    have HF := hide (show deedT x = ⟨#[115, 104, 117, 116]⟩ by unfold deedT; rw [if_neg e1, if_neg e2, if_neg e3, if_pos e4])
    clear e1 e2 e3 e4
    go_enter Tryd.func22, Tryd.ntmps22
    go_upto_region 1 with fail
    generalize World.alloc w _ = w0 at *
    have p0 := P0.2 0 _ (deedR_c0 (unhide HR))
    go_wp2
    go_ret
    exact ⟨by rw [unhide HF]; rfl, B0⟩
  have q4 : (x.op == 4) = false := by simpa using e4
  have HF := hide (show deedT x = ⟨#[]⟩ by unfold deedT; rw [if_neg e1, if_neg e2, if_neg e3, if_neg e4])
  clear e1 e2 e3 e4
  go_enter Tryd.func22, Tryd.ntmps22
  go_upto_region 1 with fail
  generalize World.alloc w _ = w0 at *
  have p0 := P0.2 0 _ (deedR_c0 (unhide HR))
  go_wp2
  go_ret
  exact ⟨by rw [unhide HF]; rfl, B0⟩
set_option maxHeartbeats 8000000 in
theorem implDeedText (x : DeedD) (S0 : Nat → Prop) (c0 : List Value) (w : World) (h0 : deedR w S0 c0 x) (b0 : deedBulk x ≤ 1048576) (hi : InDeed x) (htab : Lib.TabIs Tryd.prog w "internal/strconv.uint64pow10" .u64 Lib.pow10Tab) :
    Calls Tryd.prog 24 #[.agg c0.toArray] w fun e w' => e = .returned (.string (deedT x)) ∧ Below w.heap.size w w' := by
  obtain ⟨i_op, i_task, i_trace, i_stamp, i_code, i_took, i_n, i_rest⟩ := hi
  have zT := numX_size x.trace i_trace
  have zN := numX_size x.n i_n
  have zC := codeNm_size x.code
  have zE := endO_size x
  have zJ := endJ_size x i_n
  have zc0 : (⟨#[111, 102, 102, 101, 114, 32]⟩ : ByteArray).size = 6 := rfl
  have zc1 : (⟨#[32]⟩ : ByteArray).size = 1 := rfl
  have zc2 : (⟨#[106, 117, 100, 103, 101, 32]⟩ : ByteArray).size = 6 := rfl
  have zc3 : (⟨#[100, 114, 111, 112, 32]⟩ : ByteArray).size = 5 := rfl
  have P0 := Held.new w c0 59
  have B0 := bnew w (.cells c0.toArray 59)
  obtain ⟨cb, hcb, hsb⟩ := deedR_sub_s h0
  have rb : RowT Tryd.prog 32 cb.length := by rw [spanR_len hcb]; exact rowISpan
  have r0 : RowT Tryd.prog 59 c0.length := by rw [deedR_len h0]; exact rowIDeed
  have HSB := hide hsb
  have HB := hide hcb
  have HR := hide h0
  have hbb : spanBulk x.s ≤ 1048576 := by unfold deedBulk at b0; unfold spanBulk; omega
  have zS := spanX_size x.s
  clear h0 hcb hsb
  by_cases e1 : x.op = 1
  case pos =>
    have q1 : (x.op == 1) = true := by simpa using e1
    have HF := hide (show deedT x = ((⟨#[111, 102, 102, 101, 114, 32]⟩ ++ spanX x.s) ++ ⟨#[32]⟩) ++ endO x by
      by_cases e2 : x.lin = -1
      · simp [deedT, endO, tookB, e1, e2, ba_assoc]; rfl
      · simp [deedT, endO, tookB, e1, e2])
    clear e1
    go_enter Tryd.func24, Tryd.ntmps24
    go_upto_region 1 with fail
    generalize World.alloc w _ = w0 at *
    have p0 := P0.2 0 _ (deedR_c0 (unhide HR))
    go_upto_region 3 with fail
    refine wp_region_held_drew (S := fun w' => Below w0.heap.size w0 w') (by kernel_rfl) (Below.drew (Below.refl _ _)) (fun hHeld => ?_)
    refine wpAnyH_take (i := 0) (oi := ?oo39) (v := ?vv39) ?hi39 (by kernel_rfl) (by kernel_rfl) (by kernel_rfl) ?hQ39 ?hy39 (by assumption) ?rest39
    case hi39 => (simp only [List.getElem?_toArray, List.getElem?_cons_zero]; rfl)
    case hQ39 => exact fun _ _ _ h => h
    case hy39 => exact Or.inl ⟨by rfl, by intro wS hSw; (try dsimp only at hSw); go_simp; try first | (with_reducible rfl) | (simp only [*]; done) | omega⟩
    try simp only [Act.put, List.setIfInBounds_toArray, List.set_cons_zero, List.set_cons_succ]
    refine wpAnyH_take (i := 1) (oi := ?oo40) (v := .agg cb.toArray) ?hi40 (by kernel_rfl) (by kernel_rfl) (by kernel_rfl) ?hQ40 ?hy40 (by assumption) ?rest40
    case hi40 => (simp only [List.getElem?_toArray, List.getElem?_cons_zero, List.getElem?_cons_succ]; rfl)
    case hQ40 => exact fun _ _ _ h => h
    case hy40 => exact yld_load (by rfl) _ _ rfl _ 2 rfl cb (fun w' hS => sub_in (P0.keep hS) 2 (unhide HSB)) rb
    try simp only [Act.put, List.setIfInBounds_toArray, List.set_cons_zero, List.set_cons_succ]
    refine wpAnyH_take (i := 5) (oi := ?oo41) (v := .agg c0.toArray) ?hi41 (by kernel_rfl) (by kernel_rfl) (by kernel_rfl) ?hQ41 ?hy41 (by assumption) ?rest41
    case hi41 => (simp only [List.getElem?_toArray, List.getElem?_cons_zero, List.getElem?_cons_succ]; rfl)
    case hQ41 => exact fun _ _ _ h => h
    case hy41 => exact yld_load (by rfl) _ _ rfl _ 0 rfl c0 (fun w' hS => (P0.keep hS).inB) r0
    try simp only [Act.put, List.setIfInBounds_toArray, List.set_cons_zero, List.set_cons_succ]
    refine wpAnyH_ready (rs := [2]) (by kernel_rfl) (by simp) ?_
    refine (AllReadyH.cons (o := ?bo42n2) ?bh42n2 (fun K hK => ?br42n2) AllReadyH.nil)
    case bh42n2 => (simp only [List.getElem?_toArray, List.getElem?_cons_zero, List.getElem?_cons_succ]; rfl)
    case br42n2 =>
      go_simp
      refine (implSpTN x.s S0 cb _ (spanR_keeps _ _ _ None1 _ _ (Below.turn (bthen B0 hHeld)) none_off (unhide HB)) hbb (htab_keep htab (bthen B0 hHeld))).mono ?_
      rintro e wq1 ⟨rfl, hbq1⟩
      have hHq1 := bthen hHeld hbq1
      clear hHeld hbq1
      go_wp2_with fail
      refine hK.out _ _ (hHq1) (fun hHeld => ?_)
      clear hK
      refine wpAnyH_take (i := 3) (oi := ?oo43) (v := .string ((⟨#[111, 102, 102, 101, 114, 32]⟩ : ByteArray) ++ spanX x.s)) ?hi43 (by kernel_rfl) (by kernel_rfl) (by kernel_rfl) ?hQ43 ?hy43 (by assumption) ?rest43
      case hi43 => (simp only [List.getElem?_toArray, List.getElem?_cons_zero, List.getElem?_cons_succ]; rfl)
      case hQ43 => exact fun _ _ _ h => h
      case hy43 => exact Or.inl ⟨by rfl, by intro wS hSw; (try dsimp only at hSw); go_simp; (try simp only [ByteArray.size_append, zc0, zc1, zc2, zc3]); first | omega | (rw [if_neg (by omega)]; done) | (rw [if_neg (by omega)]; rfl) | (simp; omega)⟩
      try simp only [Act.put, List.setIfInBounds_toArray, List.set_cons_zero, List.set_cons_succ]
      refine wpAnyH_take (i := 4) (oi := ?oo44) (v := .string (((⟨#[111, 102, 102, 101, 114, 32]⟩ : ByteArray) ++ spanX x.s) ++ (⟨#[32]⟩ : ByteArray))) ?hi44 (by kernel_rfl) (by kernel_rfl) (by kernel_rfl) ?hQ44 ?hy44 (by assumption) ?rest44
      case hi44 => (simp only [List.getElem?_toArray, List.getElem?_cons_zero, List.getElem?_cons_succ]; rfl)
      case hQ44 => exact fun _ _ _ h => h
      case hy44 => exact Or.inl ⟨by rfl, by intro wS hSw; (try dsimp only at hSw); go_simp; (try simp only [ByteArray.size_append, zc0, zc1, zc2, zc3]); first | omega | (rw [if_neg (by omega)]; done) | (rw [if_neg (by omega)]; rfl) | (simp; omega)⟩
      try simp only [Act.put, List.setIfInBounds_toArray, List.set_cons_zero, List.set_cons_succ]
      refine wpAnyH_ready (rs := [6]) (by kernel_rfl) (by simp) ?_
      refine (AllReadyH.cons (o := ?bo45n6) ?bh45n6 (fun K hK => ?br45n6) AllReadyH.nil)
      case bh45n6 => (simp only [List.getElem?_toArray, List.getElem?_cons_zero, List.getElem?_cons_succ]; rfl)
      case br45n6 =>
        go_simp
        refine (implOfferEnd x S0 c0 _ (deedR_keeps _ _ _ None1 _ _ (Below.turn (bthen B0 hHeld)) none_off (unhide HR)) b0).mono ?_
        rintro e wq2 ⟨rfl, hbq2⟩
        have hHq2 := bthen hHeld hbq2
        clear hHeld hbq2
        go_wp2_with fail
        refine hK.out _ _ (hHq2) (fun hHeld => ?_)
        clear hK
        refine wpAnyH_take (i := 7) (oi := ?oo46) (v := .string ((((⟨#[111, 102, 102, 101, 114, 32]⟩ : ByteArray) ++ spanX x.s) ++ (⟨#[32]⟩ : ByteArray)) ++ endO x)) ?hi46 (by kernel_rfl) (by kernel_rfl) (by kernel_rfl) ?hQ46 ?hy46 (by assumption) ?rest46
        case hi46 => (simp only [List.getElem?_toArray, List.getElem?_cons_zero, List.getElem?_cons_succ]; rfl)
        case hQ46 => exact fun _ _ _ h => h
        case hy46 => exact Or.inl ⟨by rfl, by intro wS hSw; (try dsimp only at hSw); go_simp; (try simp only [ByteArray.size_append, zc0, zc1, zc2, zc3]); first | omega | (rw [if_neg (by omega)]; done) | (rw [if_neg (by omega)]; rfl) | (simp; omega)⟩
        try simp only [Act.put, List.setIfInBounds_toArray, List.set_cons_zero, List.set_cons_succ]
        refine wpAnyH_take (i := 8) (oi := ?oo47) (v := ?vv47) ?hi47 (by kernel_rfl) (by kernel_rfl) (by kernel_rfl) ?hQ47 ?hy47 (by assumption) ?rest47
        case hi47 => (simp only [List.getElem?_toArray, List.getElem?_cons_zero, List.getElem?_cons_succ]; rfl)
        case hQ47 => exact fun _ _ _ h => h
        case hy47 => exact Or.inl ⟨by rfl, by intro wS hSw; (try dsimp only at hSw); go_simp; try first | (with_reducible rfl) | (simp only [*]; done) | omega⟩
        try simp only [Act.put, List.setIfInBounds_toArray, List.set_cons_zero, List.set_cons_succ]
        refine wpAnyH_done (by kernel_rfl) ?_ _
        go_wp2
        go_ret
        exact ⟨by rw [unhide HF]; rfl, bthen B0 hHeld⟩
  have q1 : (x.op == 1) = false := by simpa using e1
  by_cases e2 : x.op = 2
  case pos =>
    have q2 : (x.op == 2) = true := by simpa using e2
    have HF := hide (show deedT x = ((⟨#[106, 117, 100, 103, 101, 32]⟩ ++ numX x.trace) ++ ⟨#[32]⟩) ++ endJ x by
      unfold deedT
      rw [if_neg e1, if_pos e2]
      by_cases e3 : x.lin = -1
      · rw [if_pos e3, show endJ x = ⟨#[111, 112, 101, 110]⟩ by simp [endJ, tookB, e3]]; exact cut_open _
      · rw [if_neg e3]
        cases hv : x.void
        · rw [if_neg Bool.false_ne_true]
          cases hk : x.keep
          · rw [if_neg Bool.false_ne_true, show endJ x = ⟨#[100, 114, 111, 112, 112, 101, 100, 32]⟩ ++ numX x.n by simp [endJ, tookB, e3, hv, hk]]; exact cut_dropped _ _
          · rw [if_pos rfl, show endJ x = ⟨#[107, 101, 112, 116, 32]⟩ ++ numX x.n by simp [endJ, tookB, e3, hv, hk]]; exact cut_kept _ _
        · rw [if_pos rfl, show endJ x = ⟨#[118, 111, 105, 100]⟩ by simp [endJ, tookB, e3, hv]]; exact cut_void _)
    clear e1 e2
    go_enter Tryd.func24, Tryd.ntmps24
    go_upto_region 1 with fail
    generalize World.alloc w _ = w0 at *
    have p0 := P0.2 0 _ (deedR_c0 (unhide HR))
    go_upto_region 5 with fail
    refine wp_region_held_drew (S := fun w' => Below w0.heap.size w0 w') (by kernel_rfl) (Below.drew (Below.refl _ _)) (fun hHeld => ?_)
    refine wpAnyH_take (i := 0) (oi := ?oo48) (v := ?vv48) ?hi48 (by kernel_rfl) (by kernel_rfl) (by kernel_rfl) ?hQ48 ?hy48 (by assumption) ?rest48
    case hi48 => (simp only [List.getElem?_toArray, List.getElem?_cons_zero]; rfl)
    case hQ48 => exact fun _ _ _ h => h
    case hy48 => exact Or.inl ⟨by rfl, by intro wS hSw; (try dsimp only at hSw); go_simp; try first | (with_reducible rfl) | (simp only [*]; done) | omega⟩
    try simp only [Act.put, List.setIfInBounds_toArray, List.set_cons_zero, List.set_cons_succ]
    refine wpAnyH_take (i := 1) (oi := ?oo49) (v := .int .i64 x.trace) ?hi49 (by kernel_rfl) (by kernel_rfl) (by kernel_rfl) ?hQ49 ?hy49 (by assumption) ?rest49
    case hi49 => (simp only [List.getElem?_toArray, List.getElem?_cons_zero, List.getElem?_cons_succ]; rfl)
    case hQ49 => exact fun _ _ _ h => h
    case hy49 => exact yld_cell (by rfl) _ _ rfl _ _ rfl _ (fun w' hS => (P0.keep hS).2 8 _ (deedR_c8 (unhide HR))) plainInt
    try simp only [Act.put, List.setIfInBounds_toArray, List.set_cons_zero, List.set_cons_succ]
    refine wpAnyH_take (i := 5) (oi := ?oo50) (v := .agg c0.toArray) ?hi50 (by kernel_rfl) (by kernel_rfl) (by kernel_rfl) ?hQ50 ?hy50 (by assumption) ?rest50
    case hi50 => (simp only [List.getElem?_toArray, List.getElem?_cons_zero, List.getElem?_cons_succ]; rfl)
    case hQ50 => exact fun _ _ _ h => h
    case hy50 => exact yld_load (by rfl) _ _ rfl _ 0 rfl c0 (fun w' hS => (P0.keep hS).inB) r0
    try simp only [Act.put, List.setIfInBounds_toArray, List.set_cons_zero, List.set_cons_succ]
    refine wpAnyH_ready (rs := [2]) (by kernel_rfl) (by simp) ?_
    refine (AllReadyH.cons (o := ?bo51n2) ?bh51n2 (fun K hK => ?br51n2) AllReadyH.nil)
    case bh51n2 => (simp only [List.getElem?_toArray, List.getElem?_cons_zero, List.getElem?_cons_succ]; rfl)
    case br51n2 =>
      go_simp
      refine (implNumX x.trace i_trace _ (htab_keep htab (bthen B0 hHeld))).mono ?_
      rintro e wq1 ⟨rfl, hbq1⟩
      have hHq1 := bthen hHeld hbq1
      clear hHeld hbq1
      go_wp2_with fail
      refine hK.out _ _ (hHq1) (fun hHeld => ?_)
      clear hK
      refine wpAnyH_take (i := 3) (oi := ?oo52) (v := .string ((⟨#[106, 117, 100, 103, 101, 32]⟩ : ByteArray) ++ numX x.trace)) ?hi52 (by kernel_rfl) (by kernel_rfl) (by kernel_rfl) ?hQ52 ?hy52 (by assumption) ?rest52
      case hi52 => (simp only [List.getElem?_toArray, List.getElem?_cons_zero, List.getElem?_cons_succ]; rfl)
      case hQ52 => exact fun _ _ _ h => h
      case hy52 => exact Or.inl ⟨by rfl, by intro wS hSw; (try dsimp only at hSw); go_simp; (try simp only [ByteArray.size_append, zc0, zc1, zc2, zc3]); first | omega | (rw [if_neg (by omega)]; done) | (rw [if_neg (by omega)]; rfl) | (simp; omega)⟩
      try simp only [Act.put, List.setIfInBounds_toArray, List.set_cons_zero, List.set_cons_succ]
      refine wpAnyH_take (i := 4) (oi := ?oo53) (v := .string (((⟨#[106, 117, 100, 103, 101, 32]⟩ : ByteArray) ++ numX x.trace) ++ (⟨#[32]⟩ : ByteArray))) ?hi53 (by kernel_rfl) (by kernel_rfl) (by kernel_rfl) ?hQ53 ?hy53 (by assumption) ?rest53
      case hi53 => (simp only [List.getElem?_toArray, List.getElem?_cons_zero, List.getElem?_cons_succ]; rfl)
      case hQ53 => exact fun _ _ _ h => h
      case hy53 => exact Or.inl ⟨by rfl, by intro wS hSw; (try dsimp only at hSw); go_simp; (try simp only [ByteArray.size_append, zc0, zc1, zc2, zc3]); first | omega | (rw [if_neg (by omega)]; done) | (rw [if_neg (by omega)]; rfl) | (simp; omega)⟩
      try simp only [Act.put, List.setIfInBounds_toArray, List.set_cons_zero, List.set_cons_succ]
      refine wpAnyH_ready (rs := [6]) (by kernel_rfl) (by simp) ?_
      refine (AllReadyH.cons (o := ?bo54n6) ?bh54n6 (fun K hK => ?br54n6) AllReadyH.nil)
      case bh54n6 => (simp only [List.getElem?_toArray, List.getElem?_cons_zero, List.getElem?_cons_succ]; rfl)
      case br54n6 =>
        go_simp
        refine (implJudgeEnd x S0 c0 _ (deedR_keeps _ _ _ None1 _ _ (Below.turn (bthen B0 hHeld)) none_off (unhide HR)) b0 i_n (htab_keep htab (bthen B0 hHeld))).mono ?_
        rintro e wq2 ⟨rfl, hbq2⟩
        have hHq2 := bthen hHeld hbq2
        clear hHeld hbq2
        go_wp2_with fail
        refine hK.out _ _ (hHq2) (fun hHeld => ?_)
        clear hK
        refine wpAnyH_take (i := 7) (oi := ?oo55) (v := .string ((((⟨#[106, 117, 100, 103, 101, 32]⟩ : ByteArray) ++ numX x.trace) ++ (⟨#[32]⟩ : ByteArray)) ++ endJ x)) ?hi55 (by kernel_rfl) (by kernel_rfl) (by kernel_rfl) ?hQ55 ?hy55 (by assumption) ?rest55
        case hi55 => (simp only [List.getElem?_toArray, List.getElem?_cons_zero, List.getElem?_cons_succ]; rfl)
        case hQ55 => exact fun _ _ _ h => h
        case hy55 => exact Or.inl ⟨by rfl, by intro wS hSw; (try dsimp only at hSw); go_simp; (try simp only [ByteArray.size_append, zc0, zc1, zc2, zc3]); first | omega | (rw [if_neg (by omega)]; done) | (rw [if_neg (by omega)]; rfl) | (simp; omega)⟩
        try simp only [Act.put, List.setIfInBounds_toArray, List.set_cons_zero, List.set_cons_succ]
        refine wpAnyH_take (i := 8) (oi := ?oo56) (v := ?vv56) ?hi56 (by kernel_rfl) (by kernel_rfl) (by kernel_rfl) ?hQ56 ?hy56 (by assumption) ?rest56
        case hi56 => (simp only [List.getElem?_toArray, List.getElem?_cons_zero, List.getElem?_cons_succ]; rfl)
        case hQ56 => exact fun _ _ _ h => h
        case hy56 => exact Or.inl ⟨by rfl, by intro wS hSw; (try dsimp only at hSw); go_simp; try first | (with_reducible rfl) | (simp only [*]; done) | omega⟩
        try simp only [Act.put, List.setIfInBounds_toArray, List.set_cons_zero, List.set_cons_succ]
        refine wpAnyH_done (by kernel_rfl) ?_ _
        go_wp2
        go_ret
        exact ⟨by rw [unhide HF]; rfl, bthen B0 hHeld⟩
  have q2 : (x.op == 2) = false := by simpa using e2
  by_cases e3 : x.op = 3
  case pos =>
    have q3 : (x.op == 3) = true := by simpa using e3
    have HF := hide (show deedT x = ((⟨#[100, 114, 111, 112, 32]⟩ ++ numX x.trace) ++ ⟨#[32]⟩) ++ numX x.n by unfold deedT; rw [if_neg e1, if_neg e2, if_pos e3])
    clear e1 e2 e3
    go_enter Tryd.func24, Tryd.ntmps24
    go_upto_region 1 with fail
    generalize World.alloc w _ = w0 at *
    have p0 := P0.2 0 _ (deedR_c0 (unhide HR))
    go_upto_region 7 with fail
    refine wp_region_held_drew (S := fun w' => Below w0.heap.size w0 w') (by kernel_rfl) (Below.drew (Below.refl _ _)) (fun hHeld => ?_)
    refine wpAnyH_take (i := 0) (oi := ?oo57) (v := ?vv57) ?hi57 (by kernel_rfl) (by kernel_rfl) (by kernel_rfl) ?hQ57 ?hy57 (by assumption) ?rest57
    case hi57 => (simp only [List.getElem?_toArray, List.getElem?_cons_zero]; rfl)
    case hQ57 => exact fun _ _ _ h => h
    case hy57 => exact Or.inl ⟨by rfl, by intro wS hSw; (try dsimp only at hSw); go_simp; try first | (with_reducible rfl) | (simp only [*]; done) | omega⟩
    try simp only [Act.put, List.setIfInBounds_toArray, List.set_cons_zero, List.set_cons_succ]
    refine wpAnyH_take (i := 1) (oi := ?oo58) (v := .int .i64 x.trace) ?hi58 (by kernel_rfl) (by kernel_rfl) (by kernel_rfl) ?hQ58 ?hy58 (by assumption) ?rest58
    case hi58 => (simp only [List.getElem?_toArray, List.getElem?_cons_zero, List.getElem?_cons_succ]; rfl)
    case hQ58 => exact fun _ _ _ h => h
    case hy58 => exact yld_cell (by rfl) _ _ rfl _ _ rfl _ (fun w' hS => (P0.keep hS).2 8 _ (deedR_c8 (unhide HR))) plainInt
    try simp only [Act.put, List.setIfInBounds_toArray, List.set_cons_zero, List.set_cons_succ]
    refine wpAnyH_take (i := 5) (oi := ?oo59) (v := ?vv59) ?hi59 (by kernel_rfl) (by kernel_rfl) (by kernel_rfl) ?hQ59 ?hy59 (by assumption) ?rest59
    case hi59 => (simp only [List.getElem?_toArray, List.getElem?_cons_zero, List.getElem?_cons_succ]; rfl)
    case hQ59 => exact fun _ _ _ h => h
    case hy59 => exact Or.inl ⟨by rfl, by intro wS hSw; (try dsimp only at hSw); go_simp; try first | (with_reducible rfl) | (simp only [*]; done) | omega⟩
    try simp only [Act.put, List.setIfInBounds_toArray, List.set_cons_zero, List.set_cons_succ]
    refine wpAnyH_take (i := 6) (oi := ?oo60) (v := .int .i64 x.n) ?hi60 (by kernel_rfl) (by kernel_rfl) (by kernel_rfl) ?hQ60 ?hy60 (by assumption) ?rest60
    case hi60 => (simp only [List.getElem?_toArray, List.getElem?_cons_zero, List.getElem?_cons_succ]; rfl)
    case hQ60 => exact fun _ _ _ h => h
    case hy60 => exact yld_cell (by rfl) _ _ rfl _ _ rfl _ (fun w' hS => (P0.keep hS).2 14 _ (deedR_c14 (unhide HR))) plainInt
    try simp only [Act.put, List.setIfInBounds_toArray, List.set_cons_zero, List.set_cons_succ]
    refine wpAnyH_ready (rs := [2]) (by kernel_rfl) (by simp) ?_
    refine (AllReadyH.cons (o := ?bo61n2) ?bh61n2 (fun K hK => ?br61n2) AllReadyH.nil)
    case bh61n2 => (simp only [List.getElem?_toArray, List.getElem?_cons_zero, List.getElem?_cons_succ]; rfl)
    case br61n2 =>
      go_simp
      refine (implNumX x.trace i_trace _ (htab_keep htab (bthen B0 hHeld))).mono ?_
      rintro e wq1 ⟨rfl, hbq1⟩
      have hHq1 := bthen hHeld hbq1
      clear hHeld hbq1
      go_wp2_with fail
      refine hK.out _ _ (hHq1) (fun hHeld => ?_)
      clear hK
      refine wpAnyH_take (i := 3) (oi := ?oo62) (v := .string ((⟨#[100, 114, 111, 112, 32]⟩ : ByteArray) ++ numX x.trace)) ?hi62 (by kernel_rfl) (by kernel_rfl) (by kernel_rfl) ?hQ62 ?hy62 (by assumption) ?rest62
      case hi62 => (simp only [List.getElem?_toArray, List.getElem?_cons_zero, List.getElem?_cons_succ]; rfl)
      case hQ62 => exact fun _ _ _ h => h
      case hy62 => exact Or.inl ⟨by rfl, by intro wS hSw; (try dsimp only at hSw); go_simp; (try simp only [ByteArray.size_append, zc0, zc1, zc2, zc3]); first | omega | (rw [if_neg (by omega)]; done) | (rw [if_neg (by omega)]; rfl) | (simp; omega)⟩
      try simp only [Act.put, List.setIfInBounds_toArray, List.set_cons_zero, List.set_cons_succ]
      refine wpAnyH_take (i := 4) (oi := ?oo63) (v := .string (((⟨#[100, 114, 111, 112, 32]⟩ : ByteArray) ++ numX x.trace) ++ (⟨#[32]⟩ : ByteArray))) ?hi63 (by kernel_rfl) (by kernel_rfl) (by kernel_rfl) ?hQ63 ?hy63 (by assumption) ?rest63
      case hi63 => (simp only [List.getElem?_toArray, List.getElem?_cons_zero, List.getElem?_cons_succ]; rfl)
      case hQ63 => exact fun _ _ _ h => h
      case hy63 => exact Or.inl ⟨by rfl, by intro wS hSw; (try dsimp only at hSw); go_simp; (try simp only [ByteArray.size_append, zc0, zc1, zc2, zc3]); first | omega | (rw [if_neg (by omega)]; done) | (rw [if_neg (by omega)]; rfl) | (simp; omega)⟩
      try simp only [Act.put, List.setIfInBounds_toArray, List.set_cons_zero, List.set_cons_succ]
      refine wpAnyH_ready (rs := [7]) (by kernel_rfl) (by simp) ?_
      refine (AllReadyH.cons (o := ?bo64n7) ?bh64n7 (fun K hK => ?br64n7) AllReadyH.nil)
      case bh64n7 => (simp only [List.getElem?_toArray, List.getElem?_cons_zero, List.getElem?_cons_succ]; rfl)
      case br64n7 =>
        go_simp
        refine (implNumX x.n i_n _ (htab_keep htab (bthen B0 hHeld))).mono ?_
        rintro e wq2 ⟨rfl, hbq2⟩
        have hHq2 := bthen hHeld hbq2
        clear hHeld hbq2
        go_wp2_with fail
        refine hK.out _ _ (hHq2) (fun hHeld => ?_)
        clear hK
        refine wpAnyH_take (i := 8) (oi := ?oo65) (v := .string ((((⟨#[100, 114, 111, 112, 32]⟩ : ByteArray) ++ numX x.trace) ++ (⟨#[32]⟩ : ByteArray)) ++ numX x.n)) ?hi65 (by kernel_rfl) (by kernel_rfl) (by kernel_rfl) ?hQ65 ?hy65 (by assumption) ?rest65
        case hi65 => (simp only [List.getElem?_toArray, List.getElem?_cons_zero, List.getElem?_cons_succ]; rfl)
        case hQ65 => exact fun _ _ _ h => h
        case hy65 => exact Or.inl ⟨by rfl, by intro wS hSw; (try dsimp only at hSw); go_simp; (try simp only [ByteArray.size_append, zc0, zc1, zc2, zc3]); first | omega | (rw [if_neg (by omega)]; done) | (rw [if_neg (by omega)]; rfl) | (simp; omega)⟩
        try simp only [Act.put, List.setIfInBounds_toArray, List.set_cons_zero, List.set_cons_succ]
        refine wpAnyH_take (i := 9) (oi := ?oo66) (v := ?vv66) ?hi66 (by kernel_rfl) (by kernel_rfl) (by kernel_rfl) ?hQ66 ?hy66 (by assumption) ?rest66
        case hi66 => (simp only [List.getElem?_toArray, List.getElem?_cons_zero, List.getElem?_cons_succ]; rfl)
        case hQ66 => exact fun _ _ _ h => h
        case hy66 => exact Or.inl ⟨by rfl, by intro wS hSw; (try dsimp only at hSw); go_simp; try first | (with_reducible rfl) | (simp only [*]; done) | omega⟩
        try simp only [Act.put, List.setIfInBounds_toArray, List.set_cons_zero, List.set_cons_succ]
        refine wpAnyH_done (by kernel_rfl) ?_ _
        go_wp2
        go_ret
        exact ⟨by rw [unhide HF]; rfl, bthen B0 hHeld⟩
  have q3 : (x.op == 3) = false := by simpa using e3
  by_cases e4 : x.op = 4
  case pos =>
    have q4 : (x.op == 4) = true := by simpa using e4
    have HF := hide (show deedT x = ⟨#[115, 104, 117, 116]⟩ by unfold deedT; rw [if_neg e1, if_neg e2, if_neg e3, if_pos e4])
    clear e1 e2 e3 e4
    go_enter Tryd.func24, Tryd.ntmps24
    go_upto_region 1 with fail
    generalize World.alloc w _ = w0 at *
    have p0 := P0.2 0 _ (deedR_c0 (unhide HR))
    go_wp2
    go_ret
    exact ⟨by rw [unhide HF]; rfl, B0⟩
  have q4 : (x.op == 4) = false := by simpa using e4
  have HF := hide (show deedT x = ⟨#[]⟩ by unfold deedT; rw [if_neg e1, if_neg e2, if_neg e3, if_neg e4])
  clear e1 e2 e3 e4
  go_enter Tryd.func24, Tryd.ntmps24
  go_upto_region 1 with fail
  generalize World.alloc w _ = w0 at *
  have p0 := P0.2 0 _ (deedR_c0 (unhide HR))
  go_wp2
  go_ret
  exact ⟨by rw [unhide HF]; rfl, B0⟩
end Go.Proofs.YtmlgpgejfnlfmaaDoor
