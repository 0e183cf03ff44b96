/-
  Contract of chapter 3's SpanText, of the specification.
-/
import Derived.Test.YtchinpgjaddnkaaDoorSpanOk
import Derived.Test.YtchinpgjaddnkaaDoorAttrText
import Derived.Test.YtchinpgjaddnkaaDoorAbs2
namespace Go.Proofs.YtchinpgjaddnkaaDoor
open Go.ChangeShapes Go.WideShapes Go.ChangeAt Go.RowKit
set_option linter.unusedVariables false
set_option maxRecDepth 100000

def headT (tr id st en : Int) : ByteArray := (((((numT tr ++ ⟨#[47]⟩) ++ numT id) ++ ⟨#[32]⟩) ++ numT st) ++ ⟨#[45]⟩) ++ numT en
def failT : ByteArray := ⟨#[32, 102, 97, 105, 108, 101, 100]⟩
def attrX (x : AttrD) : ByteArray := attrT x.1 x.2.1 x.2.2.1 x.2.2.2
def restT (t : ByteArray) (l : List AttrD) : ByteArray := l.foldl (fun t x => (t ++ ⟨#[32]⟩) ++ attrX x) t
def spanT (tr id st en : Int) (er : Bool) (l : List AttrD) : ByteArray := if spanB tr id st en l then restT (if er then headT tr id st en ++ failT else headT tr id st en) l else ⟨#[]⟩
theorem restT_snoc (t : ByteArray) (l : List AttrD) (k : Nat) (h : k < l.length) : restT t (l.take (k + 1)) = (restT t (l.take k) ++ ⟨#[32]⟩) ++ attrX (l.getD k dA) := by
  unfold restT
  rw [List.take_succ_eq_append_getElem h, List.foldl_append]
  simp [List.getD, h]
theorem attrX_size (x : AttrD) : (attrX x).size ≤ 60 := by
  unfold attrX attrT
  split
  case isFalse => exact Nat.zero_le _
  case isTrue h =>
    rw [attrB, Bool.and_eq_true] at h
    have hk := name_size h.1
    have h2 := h.2
    split
    case isTrue hb =>
      rw [hb] at h2
      simp only [if_true, Bool.and_eq_true, inB_iff] at h2
      have := numT_size x.2.2.1 h2.1.1 h2.1.2
      simp only [textN, ByteArray.size_append]
      have e : (⟨#[61]⟩ : ByteArray).size = 1 := rfl
      omega
    case isFalse hb =>
      rw [if_neg hb, Bool.and_eq_true] at h2
      have := plain_size h2.2
      simp only [textT, ByteArray.size_append]
      have e : (⟨#[61, 34]⟩ : ByteArray).size = 2 := rfl
      have e2 : (⟨#[34]⟩ : ByteArray).size = 1 := rfl
      omega
theorem restT_size (t : ByteArray) (l : List AttrD) : (restT t l).size ≤ t.size + 61 * l.length := by
  unfold restT
  induction l generalizing t with
  | nil => simp
  | cons x r ih =>
    have h := ih ((t ++ ⟨#[32]⟩) ++ attrX x)
    have hx := attrX_size x
    simp only [List.foldl_cons, List.length_cons]
    simp only [ByteArray.size_append] at h
    have e : (⟨#[32]⟩ : ByteArray).size = 1 := rfl
    omega
theorem headT_size (tr id st en : Int) (h1 : 0 ≤ tr ∧ tr ≤ 99999) (h2 : 0 ≤ id ∧ id ≤ 99999) (h3 : 0 ≤ st ∧ st ≤ 99999) (h4 : 0 ≤ en ∧ en ≤ 99999) : (headT tr id st en).size ≤ 200 := by
  have q1 := numT_size tr (by omega) (by omega)
  have q2 := numT_size id (by omega) (by omega)
  have q3 := numT_size st (by omega) (by omega)
  have q4 := numT_size en (by omega) (by omega)
  simp only [headT, ByteArray.size_append]
  have e1 : (⟨#[47]⟩ : ByteArray).size = 1 := rfl
  have e2 : (⟨#[32]⟩ : ByteArray).size = 1 := rfl
  have e3 : (⟨#[45]⟩ : ByteArray).size = 1 := rfl
  omega
theorem num_said (n : Int) (h0 : 0 ≤ n) (h1 : n ≤ 99999) (w : World) :
    Calls Tryd.prog 39 #[.int .i64 n] w fun e w' => e = .returned (.string (numT n)) ∧ Below w.heap.size w w' := specNumText n (by omega) (by omega) w
set_option maxHeartbeats 8000000 in
theorem specSpanText (tr id st en : Int) (er : Bool) (l : List AttrD) (v : Value) (w : World) (ha : AttrsAt w v l) (h1 : l.length ≤ 1048576) (h2 : bytesA l ≤ 1048576) :
    Calls Tryd.prog 18 #[.agg #[.int .i64 tr, .int .i64 id, .int .i64 st, .int .i64 en, .bool er, v]] w fun e w' => e = .returned (.string (spanT tr id st en er l)) ∧ Below w.heap.size w w' := by
  obtain ⟨a, cap, rfl⟩ := ha.form
  cases hS : spanB tr id st en l
  case false =>
    rw [spanT, hS]
    have B0 := bnew w (.cells #[.int .i64 tr, .int .i64 id, .int .i64 st, .int .i64 en, .bool er, .slice a l.length cap] 26)
    go_enter Tryd.func18, Tryd.ntmps18
    go_wp2_with fail
    refine (specSpanOk tr id st en er l _ _ (ha.keep B0) h1 h2).mono ?_
    rintro e w1 ⟨rfl, hb1⟩
    rw [hS]
    go_wp2
    go_ret
    exact ⟨rfl, bthen B0 hb1⟩
  have hS' := hS
  simp only [spanB, attrsB, Bool.and_eq_true, inB_iff, decide_eq_true_eq] at hS'
  obtain ⟨m1, m2, m3, m4, ⟨_, m5⟩, _⟩ := hS'
  have q1 := numT_size tr (by omega) (by omega)
  have q2 := numT_size id (by omega) (by omega)
  have q3 := numT_size st (by omega) (by omega)
  have q4 := numT_size en (by omega) (by omega)
  have qa0 : ¬ 9223372036854775807 < (numT tr).size + 1 := by omega
  have qb0 : (numT tr).size + 1 ≤ 9223372036854775807 := by omega
  have qc0 : ((numT tr).size : Int) + 1 ≤ 9223372036854775807 := by omega
  have qa1 : ¬ 9223372036854775807 < (numT tr).size + 1 + (numT id).size := by omega
  have qb1 : (numT tr).size + 1 + (numT id).size ≤ 9223372036854775807 := by omega
  have qc1 : ((numT tr).size : Int) + 1 + ((numT id).size : Int) ≤ 9223372036854775807 := by omega
  have qa2 : ¬ 9223372036854775807 < (numT tr).size + 1 + (numT id).size + 1 := by omega
  have qb2 : (numT tr).size + 1 + (numT id).size + 1 ≤ 9223372036854775807 := by omega
  have qc2 : ((numT tr).size : Int) + 1 + ((numT id).size : Int) + 1 ≤ 9223372036854775807 := by omega
  have qa3 : ¬ 9223372036854775807 < (numT tr).size + 1 + (numT id).size + 1 + (numT st).size := by omega
  have qb3 : (numT tr).size + 1 + (numT id).size + 1 + (numT st).size ≤ 9223372036854775807 := by omega
  have qc3 : ((numT tr).size : Int) + 1 + ((numT id).size : Int) + 1 + ((numT st).size : Int) ≤ 9223372036854775807 := by omega
  have qa4 : ¬ 9223372036854775807 < (numT tr).size + 1 + (numT id).size + 1 + (numT st).size + 1 := by omega
  have qb4 : (numT tr).size + 1 + (numT id).size + 1 + (numT st).size + 1 ≤ 9223372036854775807 := by omega
  have qc4 : ((numT tr).size : Int) + 1 + ((numT id).size : Int) + 1 + ((numT st).size : Int) + 1 ≤ 9223372036854775807 := by omega
  have qa5 : ¬ 9223372036854775807 < (numT tr).size + 1 + (numT id).size + 1 + (numT st).size + 1 + (numT en).size := by omega
  have qb5 : (numT tr).size + 1 + (numT id).size + 1 + (numT st).size + 1 + (numT en).size ≤ 9223372036854775807 := by omega
  have qc5 : ((numT tr).size : Int) + 1 + ((numT id).size : Int) + 1 + ((numT st).size : Int) + 1 + ((numT en).size : Int) ≤ 9223372036854775807 := by omega
  have qa6 : ¬ 9223372036854775807 < (numT tr).size + 1 + (numT id).size + 1 + (numT st).size + 1 + (numT en).size + 7 := by omega
  have qb6 : (numT tr).size + 1 + (numT id).size + 1 + (numT st).size + 1 + (numT en).size + 7 ≤ 9223372036854775807 := by omega
  have qc6 : ((numT tr).size : Int) + 1 + ((numT id).size : Int) + 1 + ((numT st).size : Int) + 1 + ((numT en).size : Int) + 7 ≤ 9223372036854775807 := by omega
  rw [spanT, hS, if_pos rfl]
  cases er
  case false =>
    rw [if_neg Bool.false_ne_true]
    have P0 := Held.new w [.int .i64 tr, .int .i64 id, .int .i64 st, .int .i64 en, .bool false, .slice a l.length cap] 26
    have B0 := bnew w (.cells #[.int .i64 tr, .int .i64 id, .int .i64 st, .int .i64 en, .bool false, .slice a l.length cap] 26)
    go_enter Tryd.func18, Tryd.ntmps18
    go_wp2_with fail
    refine (specSpanOk tr id st en false l _ _ (ha.keep B0) h1 h2).mono ?_
    rintro e w1 ⟨rfl, hb1⟩
    rw [hS]
    have P1 := P0.keep hb1
    have B1 := bthen B0 hb1
    have HA := hide (ha.keep B1)
    clear hb1 P0 B0 ha
    go_upto_region 3 with fail
    go_cut [3] from 8 to 25 (fun s wc => s = .string (headT tr id st en) ∧ Below w1.heap.size w1 wc)
    case first =>
      refine wp_region_held_drew (S := fun w' => Below w1.heap.size w1 w') (by kernel_rfl) (Below.drew (Below.refl _ _)) (fun hHeld => ?_)
      refine wpAnyH_take (i := 0) (oi := ?oo1) (v := ?vv1) ?hi1 (by kernel_rfl) (by kernel_rfl) (by kernel_rfl) ?hQ1 ?hy1 (by assumption) ?rest1
      case hi1 => (simp only [List.getElem?_toArray, List.getElem?_cons_zero]; rfl)
      case hQ1 => exact fun _ _ _ h => h
      case hy1 => exact Or.inl ⟨by rfl, by intro wS hSw; (try dsimp only at hSw); go_simp; try first | (with_reducible rfl) | (simp only [*]; done) | omega⟩
      try simp only [Act.put, List.setIfInBounds_toArray, List.set_cons_zero, List.set_cons_succ]
      refine wpAnyH_take (i := 1) (oi := ?oo2) (v := .int .i64 tr) ?hi2 (by kernel_rfl) (by kernel_rfl) (by kernel_rfl) ?hQ2 ?hy2 (by assumption) ?rest2
      case hi2 => (simp only [List.getElem?_toArray, List.getElem?_cons_zero, List.getElem?_cons_succ]; rfl)
      case hQ2 => exact fun _ _ _ h => h
      case hy2 => exact yld_cell (by rfl) _ _ rfl _ _ rfl _ (fun w' hS => (P1.keep hS).2 0 _ rfl) plainInt
      try simp only [Act.put, List.setIfInBounds_toArray, List.set_cons_zero, List.set_cons_succ]
      refine wpAnyH_take (i := 4) (oi := ?oo3) (v := ?vv3) ?hi3 (by kernel_rfl) (by kernel_rfl) (by kernel_rfl) ?hQ3 ?hy3 (by assumption) ?rest3
      case hi3 => (simp only [List.getElem?_toArray, List.getElem?_cons_zero, List.getElem?_cons_succ]; rfl)
      case hQ3 => exact fun _ _ _ h => h
      case hy3 => exact Or.inl ⟨by rfl, by intro wS hSw; (try dsimp only at hSw); go_simp; try first | (with_reducible rfl) | (simp only [*]; done) | omega⟩
      try simp only [Act.put, List.setIfInBounds_toArray, List.set_cons_zero, List.set_cons_succ]
      refine wpAnyH_take (i := 5) (oi := ?oo4) (v := .int .i64 id) ?hi4 (by kernel_rfl) (by kernel_rfl) (by kernel_rfl) ?hQ4 ?hy4 (by assumption) ?rest4
      case hi4 => (simp only [List.getElem?_toArray, List.getElem?_cons_zero, List.getElem?_cons_succ]; rfl)
      case hQ4 => exact fun _ _ _ h => h
      case hy4 => exact yld_cell (by rfl) _ _ rfl _ _ rfl _ (fun w' hS => (P1.keep hS).2 1 _ rfl) plainInt
      try simp only [Act.put, List.setIfInBounds_toArray, List.set_cons_zero, List.set_cons_succ]
      refine wpAnyH_take (i := 9) (oi := ?oo5) (v := ?vv5) ?hi5 (by kernel_rfl) (by kernel_rfl) (by kernel_rfl) ?hQ5 ?hy5 (by assumption) ?rest5
      case hi5 => (simp only [List.getElem?_toArray, List.getElem?_cons_zero, List.getElem?_cons_succ]; rfl)
      case hQ5 => exact fun _ _ _ h => h
      case hy5 => exact Or.inl ⟨by rfl, by intro wS hSw; (try dsimp only at hSw); go_simp; try first | (with_reducible rfl) | (simp only [*]; done) | omega⟩
      try simp only [Act.put, List.setIfInBounds_toArray, List.set_cons_zero, List.set_cons_succ]
      refine wpAnyH_take (i := 10) (oi := ?oo6) (v := .int .i64 st) ?hi6 (by kernel_rfl) (by kernel_rfl) (by kernel_rfl) ?hQ6 ?hy6 (by assumption) ?rest6
      case hi6 => (simp only [List.getElem?_toArray, List.getElem?_cons_zero, List.getElem?_cons_succ]; rfl)
      case hQ6 => exact fun _ _ _ h => h
      case hy6 => exact yld_cell (by rfl) _ _ rfl _ _ rfl _ (fun w' hS => (P1.keep hS).2 2 _ rfl) plainInt
      try simp only [Act.put, List.setIfInBounds_toArray, List.set_cons_zero, List.set_cons_succ]
      refine wpAnyH_take (i := 14) (oi := ?oo7) (v := ?vv7) ?hi7 (by kernel_rfl) (by kernel_rfl) (by kernel_rfl) ?hQ7 ?hy7 (by assumption) ?rest7
      case hi7 => (simp only [List.getElem?_toArray, List.getElem?_cons_zero, List.getElem?_cons_succ]; rfl)
      case hQ7 => exact fun _ _ _ h => h
      case hy7 => exact Or.inl ⟨by rfl, by intro wS hSw; (try dsimp only at hSw); go_simp; try first | (with_reducible rfl) | (simp only [*]; done) | omega⟩
      try simp only [Act.put, List.setIfInBounds_toArray, List.set_cons_zero, List.set_cons_succ]
      refine wpAnyH_take (i := 15) (oi := ?oo8) (v := .int .i64 en) ?hi8 (by kernel_rfl) (by kernel_rfl) (by kernel_rfl) ?hQ8 ?hy8 (by assumption) ?rest8
      case hi8 => (simp only [List.getElem?_toArray, List.getElem?_cons_zero, List.getElem?_cons_succ]; rfl)
      case hQ8 => exact fun _ _ _ h => h
      case hy8 => exact yld_cell (by rfl) _ _ rfl _ _ rfl _ (fun w' hS => (P1.keep hS).2 3 _ rfl) plainInt
      try simp only [Act.put, List.setIfInBounds_toArray, List.set_cons_zero, List.set_cons_succ]
      refine wpAnyH_ready (rs := [2]) (by kernel_rfl) (by simp) ?_
      refine (AllReadyH.cons (o := ?bo9n2) ?bh9n2 (fun K hK => ?br9n2) AllReadyH.nil)
      case bh9n2 => (simp only [List.getElem?_toArray, List.getElem?_cons_zero, List.getElem?_cons_succ]; rfl)
      case br9n2 =>
        go_simp
        refine (num_said tr (by omega) (by omega) _).mono ?_
        rintro e wn0 ⟨rfl, hbn0⟩
        have hH0 := bthen hHeld hbn0
        clear hHeld hbn0
        go_wp2_with fail
        refine hK.out _ _ (hH0) (fun hHeld => ?_)
        clear hK
        refine wpAnyH_take (i := 3) (oi := ?oo10) (v := ?vv10) ?hi10 (by kernel_rfl) (by kernel_rfl) (by kernel_rfl) ?hQ10 ?hy10 (by assumption) ?rest10
        case hi10 => (simp only [List.getElem?_toArray, List.getElem?_cons_zero, List.getElem?_cons_succ]; rfl)
        case hQ10 => exact fun _ _ _ h => h
        case hy10 => exact Or.inl ⟨by rfl, by intro wS hSw; (try dsimp only at hSw); go_simp; try first | (with_reducible rfl) | (simp only [*]; done) | omega⟩
        try simp only [Act.put, List.setIfInBounds_toArray, List.set_cons_zero, List.set_cons_succ]
        refine wpAnyH_ready (rs := [6]) (by kernel_rfl) (by simp) ?_
        refine (AllReadyH.cons (o := ?bo11n6) ?bh11n6 (fun K hK => ?br11n6) AllReadyH.nil)
        case bh11n6 => (simp only [List.getElem?_toArray, List.getElem?_cons_zero, List.getElem?_cons_succ]; rfl)
        case br11n6 =>
          go_simp
          refine (num_said id (by omega) (by omega) _).mono ?_
          rintro e wn1 ⟨rfl, hbn1⟩
          have hH1 := bthen hHeld hbn1
          clear hHeld hbn1
          go_wp2_with fail
          refine hK.out _ _ (hH1) (fun hHeld => ?_)
          clear hK
          refine wpAnyH_take (i := 7) (oi := ?oo12) (v := ?vv12) ?hi12 (by kernel_rfl) (by kernel_rfl) (by kernel_rfl) ?hQ12 ?hy12 (by assumption) ?rest12
          case hi12 => (simp only [List.getElem?_toArray, List.getElem?_cons_zero, List.getElem?_cons_succ]; rfl)
          case hQ12 => exact fun _ _ _ h => h
          case hy12 => exact Or.inl ⟨by rfl, by intro wS hSw; (try dsimp only at hSw); go_simp; try first | (with_reducible rfl) | (simp only [*]; done) | omega⟩
          try simp only [Act.put, List.setIfInBounds_toArray, List.set_cons_zero, List.set_cons_succ]
          refine wpAnyH_take (i := 8) (oi := ?oo13) (v := ?vv13) ?hi13 (by kernel_rfl) (by kernel_rfl) (by kernel_rfl) ?hQ13 ?hy13 (by assumption) ?rest13
          case hi13 => (simp only [List.getElem?_toArray, List.getElem?_cons_zero, List.getElem?_cons_succ]; rfl)
          case hQ13 => exact fun _ _ _ h => h
          case hy13 => exact Or.inl ⟨by rfl, by intro wS hSw; (try dsimp only at hSw); go_simp; try first | (with_reducible rfl) | (simp only [*]; done) | omega⟩
          try simp only [Act.put, List.setIfInBounds_toArray, List.set_cons_zero, List.set_cons_succ]
          refine wpAnyH_ready (rs := [11]) (by kernel_rfl) (by simp) ?_
          refine (AllReadyH.cons (o := ?bo14n11) ?bh14n11 (fun K hK => ?br14n11) AllReadyH.nil)
          case bh14n11 => (simp only [List.getElem?_toArray, List.getElem?_cons_zero, List.getElem?_cons_succ]; rfl)
          case br14n11 =>
            go_simp
            refine (num_said st (by omega) (by omega) _).mono ?_
            rintro e wn2 ⟨rfl, hbn2⟩
            have hH2 := bthen hHeld hbn2
            clear hHeld hbn2
            go_wp2_with fail
            refine hK.out _ _ (hH2) (fun hHeld => ?_)
            clear hK
            refine wpAnyH_take (i := 12) (oi := ?oo15) (v := ?vv15) ?hi15 (by kernel_rfl) (by kernel_rfl) (by kernel_rfl) ?hQ15 ?hy15 (by assumption) ?rest15
            case hi15 => (simp only [List.getElem?_toArray, List.getElem?_cons_zero, List.getElem?_cons_succ]; rfl)
            case hQ15 => exact fun _ _ _ h => h
            case hy15 => exact Or.inl ⟨by rfl, by intro wS hSw; (try dsimp only at hSw); go_simp; try first | (with_reducible rfl) | (simp only [*]; done) | omega⟩
            try simp only [Act.put, List.setIfInBounds_toArray, List.set_cons_zero, List.set_cons_succ]
            refine wpAnyH_take (i := 13) (oi := ?oo16) (v := ?vv16) ?hi16 (by kernel_rfl) (by kernel_rfl) (by kernel_rfl) ?hQ16 ?hy16 (by assumption) ?rest16
            case hi16 => (simp only [List.getElem?_toArray, List.getElem?_cons_zero, List.getElem?_cons_succ]; rfl)
            case hQ16 => exact fun _ _ _ h => h
            case hy16 => exact Or.inl ⟨by rfl, by intro wS hSw; (try dsimp only at hSw); go_simp; try first | (with_reducible rfl) | (simp only [*]; done) | omega⟩
            try simp only [Act.put, List.setIfInBounds_toArray, List.set_cons_zero, List.set_cons_succ]
            refine wpAnyH_ready (rs := [16]) (by kernel_rfl) (by simp) ?_
            refine (AllReadyH.cons (o := ?bo17n16) ?bh17n16 (fun K hK => ?br17n16) AllReadyH.nil)
            case bh17n16 => (simp only [List.getElem?_toArray, List.getElem?_cons_zero, List.getElem?_cons_succ]; rfl)
            case br17n16 =>
              go_simp
              refine (num_said en (by omega) (by omega) _).mono ?_
              rintro e wn3 ⟨rfl, hbn3⟩
              have hH3 := bthen hHeld hbn3
              clear hHeld hbn3
              go_wp2_with fail
              refine hK.out _ _ (hH3) (fun hHeld => ?_)
              clear hK
              refine wpAnyH_take (i := 17) (oi := ?oo18) (v := ?vv18) ?hi18 (by kernel_rfl) (by kernel_rfl) (by kernel_rfl) ?hQ18 ?hy18 (by assumption) ?rest18
              case hi18 => (simp only [List.getElem?_toArray, List.getElem?_cons_zero, List.getElem?_cons_succ]; rfl)
              case hQ18 => exact fun _ _ _ h => h
              case hy18 => exact Or.inl ⟨by rfl, by intro wS hSw; (try dsimp only at hSw); go_simp; try first | (with_reducible rfl) | (simp only [*]; done) | omega⟩
              try simp only [Act.put, List.setIfInBounds_toArray, List.set_cons_zero, List.set_cons_succ]
              refine wpAnyH_take (i := 18) (oi := ?oo19) (v := ?vv19) ?hi19 (by kernel_rfl) (by kernel_rfl) (by kernel_rfl) ?hQ19 ?hy19 (by assumption) ?rest19
              case hi19 => (simp only [List.getElem?_toArray, List.getElem?_cons_zero, List.getElem?_cons_succ]; rfl)
              case hQ19 => exact fun _ _ _ h => h
              case hy19 => exact Or.inl ⟨by rfl, by intro wS hSw; (try dsimp only at hSw); go_simp; try first | (with_reducible rfl) | (simp only [*]; done) | omega⟩
              try simp only [Act.put, List.setIfInBounds_toArray, List.set_cons_zero, List.set_cons_succ]
              refine wpAnyH_done (by kernel_rfl) ?_ _
              go_wp2_with fail
              go_meet
              exact ⟨rfl, hHeld⟩
    case rest =>
    obtain ⟨rfl, hbc⟩ := hcut
    have P2 := P1.keep hbc
    have B2 := bthen B1 hbc
    have HA := hide ((unhide HA).keep hbc)
    clear hbc P1 B1
    have c4 := P2.2 4 _ rfl
    have c5 := P2.2 5 _ rfl
    have hpl := P2.1
    have hd := headT_size tr id st en (by omega) (by omega) (by omega) (by omega)
    have hf : failT.size = 7 := rfl
    have hqf : ¬ 9223372036854775807 < (headT tr id st en).size + 7 := by omega
    have hqg : (headT tr id st en).size + 7 ≤ 9223372036854775807 := by omega
    have hqh : ((headT tr id st en).size : Int) + 7 ≤ 9223372036854775807 := by omega
    generalize hHT : headT tr id st en = HT at *
    have HHT := hide hHT
    clear hHT
    go_wp2
    clear c4 c5
    go_loopw [3, 4] (fun t i wk => ∃ k : Nat, k ≤ l.length ∧ i = .int .i64 k ∧ t = .string (restT HT (l.take k)) ∧ Below wc.heap.size wc wk) (fun _ i _ => l.length - (intOf i).toNat)
    case atStart => exact ⟨0, Nat.zero_le _, rfl, rfl, Below.refl _ _⟩
    case round =>
      obtain ⟨k, hk, rfl, rfl, hbl⟩ := hrel
      have hbs := hbl.size
      have c5 := (P2.keep hbl).2 5 _ rfl
      have hrs := restT_size HT (l.take k)
      rw [List.length_take] at hrs
      skip
      by_cases hlt : k < l.length
      · obtain ⟨b, o, rfl, hbk, d0, d1, d2, d3⟩ := ((unhide HA).keep hbl).at k hlt
        have hwf := (unhide HA).wf k hlt
        have hsn := restT_snoc HT l k hlt
        have hxs := attrX_size (l.getD k dA)
        generalize l.getD k dA = x at *
        obtain ⟨kk, bb, nn, tt⟩ := x
        simp only [attrX, AttrWf] at d0 d1 d2 d3 hwf hsn hxs
        have hki : (k : Int) < (l.length : Int) := by omega
        generalize restT HT (l.take k) = R at *
        have HS := hide hsn
        have r1 : R.size ≤ 1000 := by omega
        have u1 : ¬ 9223372036854775807 < R.size + 1 := by omega
        have u2 : R.size + 1 ≤ 9223372036854775807 := by omega
        have u3 : (R.size : Int) + 1 ≤ 9223372036854775807 := by omega
        have u4 : ¬ 9223372036854775807 < R.size + 1 + (attrT kk bb nn tt).size := by omega
        have u5 : R.size + 1 + (attrT kk bb nn tt).size ≤ 9223372036854775807 := by omega
        have u6 : (R.size : Int) + 1 + ((attrT kk bb nn tt).size : Int) ≤ 9223372036854775807 := by omega
        clear hsn hrs
        go_wp2_with fail
        refine (specAttrText kk bb nn tt _ hwf.1 hwf.2).mono ?_
        rintro e w2 ⟨rfl, hb2⟩
        go_wp2
        go_roundw
        case rel => exact ⟨k + 1, by omega, by go_num, by rw [unhide HS], bthen hbl hb2⟩
        case measure => simp [intOf]; omega
      · have hki : ¬ (k : Int) < (l.length : Int) := by omega
        have e : l.take k = l := List.take_of_length_le (by omega)
        rw [e]
        go_wp2
        go_ret
        exact ⟨congrArg (fun z => Ending.returned (.string (restT z l))) (unhide HHT).symm, bthen B2 hbl⟩
  case true =>
    rw [if_pos rfl]
    have P0 := Held.new w [.int .i64 tr, .int .i64 id, .int .i64 st, .int .i64 en, .bool true, .slice a l.length cap] 26
    have B0 := bnew w (.cells #[.int .i64 tr, .int .i64 id, .int .i64 st, .int .i64 en, .bool true, .slice a l.length cap] 26)
    go_enter Tryd.func18, Tryd.ntmps18
    go_wp2_with fail
    refine (specSpanOk tr id st en true l _ _ (ha.keep B0) h1 h2).mono ?_
    rintro e w1 ⟨rfl, hb1⟩
    rw [hS]
    have P1 := P0.keep hb1
    have B1 := bthen B0 hb1
    have HA := hide (ha.keep B1)
    clear hb1 P0 B0 ha
    go_upto_region 3 with fail
    go_cut [3] from 8 to 25 (fun s wc => s = .string (headT tr id st en) ∧ Below w1.heap.size w1 wc)
    case first =>
      refine wp_region_held_drew (S := fun w' => Below w1.heap.size w1 w') (by kernel_rfl) (Below.drew (Below.refl _ _)) (fun hHeld => ?_)
      refine wpAnyH_take (i := 0) (oi := ?oo20) (v := ?vv20) ?hi20 (by kernel_rfl) (by kernel_rfl) (by kernel_rfl) ?hQ20 ?hy20 (by assumption) ?rest20
      case hi20 => (simp only [List.getElem?_toArray, List.getElem?_cons_zero]; rfl)
      case hQ20 => exact fun _ _ _ h => h
      case hy20 => exact Or.inl ⟨by rfl, by intro wS hSw; (try dsimp only at hSw); go_simp; try first | (with_reducible rfl) | (simp only [*]; done) | omega⟩
      try simp only [Act.put, List.setIfInBounds_toArray, List.set_cons_zero, List.set_cons_succ]
      refine wpAnyH_take (i := 1) (oi := ?oo21) (v := .int .i64 tr) ?hi21 (by kernel_rfl) (by kernel_rfl) (by kernel_rfl) ?hQ21 ?hy21 (by assumption) ?rest21
      case hi21 => (simp only [List.getElem?_toArray, List.getElem?_cons_zero, List.getElem?_cons_succ]; rfl)
      case hQ21 => exact fun _ _ _ h => h
      case hy21 => exact yld_cell (by rfl) _ _ rfl _ _ rfl _ (fun w' hS => (P1.keep hS).2 0 _ rfl) plainInt
      try simp only [Act.put, List.setIfInBounds_toArray, List.set_cons_zero, List.set_cons_succ]
      refine wpAnyH_take (i := 4) (oi := ?oo22) (v := ?vv22) ?hi22 (by kernel_rfl) (by kernel_rfl) (by kernel_rfl) ?hQ22 ?hy22 (by assumption) ?rest22
      case hi22 => (simp only [List.getElem?_toArray, List.getElem?_cons_zero, List.getElem?_cons_succ]; rfl)
      case hQ22 => exact fun _ _ _ h => h
      case hy22 => exact Or.inl ⟨by rfl, by intro wS hSw; (try dsimp only at hSw); go_simp; try first | (with_reducible rfl) | (simp only [*]; done) | omega⟩
      try simp only [Act.put, List.setIfInBounds_toArray, List.set_cons_zero, List.set_cons_succ]
      refine wpAnyH_take (i := 5) (oi := ?oo23) (v := .int .i64 id) ?hi23 (by kernel_rfl) (by kernel_rfl) (by kernel_rfl) ?hQ23 ?hy23 (by assumption) ?rest23
      case hi23 => (simp only [List.getElem?_toArray, List.getElem?_cons_zero, List.getElem?_cons_succ]; rfl)
      case hQ23 => exact fun _ _ _ h => h
      case hy23 => exact yld_cell (by rfl) _ _ rfl _ _ rfl _ (fun w' hS => (P1.keep hS).2 1 _ rfl) plainInt
      try simp only [Act.put, List.setIfInBounds_toArray, List.set_cons_zero, List.set_cons_succ]
      refine wpAnyH_take (i := 9) (oi := ?oo24) (v := ?vv24) ?hi24 (by kernel_rfl) (by kernel_rfl) (by kernel_rfl) ?hQ24 ?hy24 (by assumption) ?rest24
      case hi24 => (simp only [List.getElem?_toArray, List.getElem?_cons_zero, List.getElem?_cons_succ]; rfl)
      case hQ24 => exact fun _ _ _ h => h
      case hy24 => exact Or.inl ⟨by rfl, by intro wS hSw; (try dsimp only at hSw); go_simp; try first | (with_reducible rfl) | (simp only [*]; done) | omega⟩
      try simp only [Act.put, List.setIfInBounds_toArray, List.set_cons_zero, List.set_cons_succ]
      refine wpAnyH_take (i := 10) (oi := ?oo25) (v := .int .i64 st) ?hi25 (by kernel_rfl) (by kernel_rfl) (by kernel_rfl) ?hQ25 ?hy25 (by assumption) ?rest25
      case hi25 => (simp only [List.getElem?_toArray, List.getElem?_cons_zero, List.getElem?_cons_succ]; rfl)
      case hQ25 => exact fun _ _ _ h => h
      case hy25 => exact yld_cell (by rfl) _ _ rfl _ _ rfl _ (fun w' hS => (P1.keep hS).2 2 _ rfl) plainInt
      try simp only [Act.put, List.setIfInBounds_toArray, List.set_cons_zero, List.set_cons_succ]
      refine wpAnyH_take (i := 14) (oi := ?oo26) (v := ?vv26) ?hi26 (by kernel_rfl) (by kernel_rfl) (by kernel_rfl) ?hQ26 ?hy26 (by assumption) ?rest26
      case hi26 => (simp only [List.getElem?_toArray, List.getElem?_cons_zero, List.getElem?_cons_succ]; rfl)
      case hQ26 => exact fun _ _ _ h => h
      case hy26 => exact Or.inl ⟨by rfl, by intro wS hSw; (try dsimp only at hSw); go_simp; try first | (with_reducible rfl) | (simp only [*]; done) | omega⟩
      try simp only [Act.put, List.setIfInBounds_toArray, List.set_cons_zero, List.set_cons_succ]
      refine wpAnyH_take (i := 15) (oi := ?oo27) (v := .int .i64 en) ?hi27 (by kernel_rfl) (by kernel_rfl) (by kernel_rfl) ?hQ27 ?hy27 (by assumption) ?rest27
      case hi27 => (simp only [List.getElem?_toArray, List.getElem?_cons_zero, List.getElem?_cons_succ]; rfl)
      case hQ27 => exact fun _ _ _ h => h
      case hy27 => exact yld_cell (by rfl) _ _ rfl _ _ rfl _ (fun w' hS => (P1.keep hS).2 3 _ rfl) plainInt
      try simp only [Act.put, List.setIfInBounds_toArray, List.set_cons_zero, List.set_cons_succ]
      refine wpAnyH_ready (rs := [2]) (by kernel_rfl) (by simp) ?_
      refine (AllReadyH.cons (o := ?bo28n2) ?bh28n2 (fun K hK => ?br28n2) AllReadyH.nil)
      case bh28n2 => (simp only [List.getElem?_toArray, List.getElem?_cons_zero, List.getElem?_cons_succ]; rfl)
      case br28n2 =>
        go_simp
        refine (num_said tr (by omega) (by omega) _).mono ?_
        rintro e wn0 ⟨rfl, hbn0⟩
        have hH0 := bthen hHeld hbn0
        clear hHeld hbn0
        go_wp2_with fail
        refine hK.out _ _ (hH0) (fun hHeld => ?_)
        clear hK
        refine wpAnyH_take (i := 3) (oi := ?oo29) (v := ?vv29) ?hi29 (by kernel_rfl) (by kernel_rfl) (by kernel_rfl) ?hQ29 ?hy29 (by assumption) ?rest29
        case hi29 => (simp only [List.getElem?_toArray, List.getElem?_cons_zero, List.getElem?_cons_succ]; rfl)
        case hQ29 => exact fun _ _ _ h => h
        case hy29 => exact Or.inl ⟨by rfl, by intro wS hSw; (try dsimp only at hSw); go_simp; try first | (with_reducible rfl) | (simp only [*]; done) | omega⟩
        try simp only [Act.put, List.setIfInBounds_toArray, List.set_cons_zero, List.set_cons_succ]
        refine wpAnyH_ready (rs := [6]) (by kernel_rfl) (by simp) ?_
        refine (AllReadyH.cons (o := ?bo30n6) ?bh30n6 (fun K hK => ?br30n6) AllReadyH.nil)
        case bh30n6 => (simp only [List.getElem?_toArray, List.getElem?_cons_zero, List.getElem?_cons_succ]; rfl)
        case br30n6 =>
          go_simp
          refine (num_said id (by omega) (by omega) _).mono ?_
          rintro e wn1 ⟨rfl, hbn1⟩
          have hH1 := bthen hHeld hbn1
          clear hHeld hbn1
          go_wp2_with fail
          refine hK.out _ _ (hH1) (fun hHeld => ?_)
          clear hK
          refine wpAnyH_take (i := 7) (oi := ?oo31) (v := ?vv31) ?hi31 (by kernel_rfl) (by kernel_rfl) (by kernel_rfl) ?hQ31 ?hy31 (by assumption) ?rest31
          case hi31 => (simp only [List.getElem?_toArray, List.getElem?_cons_zero, List.getElem?_cons_succ]; rfl)
          case hQ31 => exact fun _ _ _ h => h
          case hy31 => exact Or.inl ⟨by rfl, by intro wS hSw; (try dsimp only at hSw); go_simp; try first | (with_reducible rfl) | (simp only [*]; done) | omega⟩
          try simp only [Act.put, List.setIfInBounds_toArray, List.set_cons_zero, List.set_cons_succ]
          refine wpAnyH_take (i := 8) (oi := ?oo32) (v := ?vv32) ?hi32 (by kernel_rfl) (by kernel_rfl) (by kernel_rfl) ?hQ32 ?hy32 (by assumption) ?rest32
          case hi32 => (simp only [List.getElem?_toArray, List.getElem?_cons_zero, List.getElem?_cons_succ]; rfl)
          case hQ32 => exact fun _ _ _ h => h
          case hy32 => exact Or.inl ⟨by rfl, by intro wS hSw; (try dsimp only at hSw); go_simp; try first | (with_reducible rfl) | (simp only [*]; done) | omega⟩
          try simp only [Act.put, List.setIfInBounds_toArray, List.set_cons_zero, List.set_cons_succ]
          refine wpAnyH_ready (rs := [11]) (by kernel_rfl) (by simp) ?_
          refine (AllReadyH.cons (o := ?bo33n11) ?bh33n11 (fun K hK => ?br33n11) AllReadyH.nil)
          case bh33n11 => (simp only [List.getElem?_toArray, List.getElem?_cons_zero, List.getElem?_cons_succ]; rfl)
          case br33n11 =>
            go_simp
            refine (num_said st (by omega) (by omega) _).mono ?_
            rintro e wn2 ⟨rfl, hbn2⟩
            have hH2 := bthen hHeld hbn2
            clear hHeld hbn2
            go_wp2_with fail
            refine hK.out _ _ (hH2) (fun hHeld => ?_)
            clear hK
            refine wpAnyH_take (i := 12) (oi := ?oo34) (v := ?vv34) ?hi34 (by kernel_rfl) (by kernel_rfl) (by kernel_rfl) ?hQ34 ?hy34 (by assumption) ?rest34
            case hi34 => (simp only [List.getElem?_toArray, List.getElem?_cons_zero, List.getElem?_cons_succ]; rfl)
            case hQ34 => exact fun _ _ _ h => h
            case hy34 => exact Or.inl ⟨by rfl, by intro wS hSw; (try dsimp only at hSw); go_simp; try first | (with_reducible rfl) | (simp only [*]; done) | omega⟩
            try simp only [Act.put, List.setIfInBounds_toArray, List.set_cons_zero, List.set_cons_succ]
            refine wpAnyH_take (i := 13) (oi := ?oo35) (v := ?vv35) ?hi35 (by kernel_rfl) (by kernel_rfl) (by kernel_rfl) ?hQ35 ?hy35 (by assumption) ?rest35
            case hi35 => (simp only [List.getElem?_toArray, List.getElem?_cons_zero, List.getElem?_cons_succ]; rfl)
            case hQ35 => exact fun _ _ _ h => h
            case hy35 => exact Or.inl ⟨by rfl, by intro wS hSw; (try dsimp only at hSw); go_simp; try first | (with_reducible rfl) | (simp only [*]; done) | omega⟩
            try simp only [Act.put, List.setIfInBounds_toArray, List.set_cons_zero, List.set_cons_succ]
            refine wpAnyH_ready (rs := [16]) (by kernel_rfl) (by simp) ?_
            refine (AllReadyH.cons (o := ?bo36n16) ?bh36n16 (fun K hK => ?br36n16) AllReadyH.nil)
            case bh36n16 => (simp only [List.getElem?_toArray, List.getElem?_cons_zero, List.getElem?_cons_succ]; rfl)
            case br36n16 =>
              go_simp
              refine (num_said en (by omega) (by omega) _).mono ?_
              rintro e wn3 ⟨rfl, hbn3⟩
              have hH3 := bthen hHeld hbn3
              clear hHeld hbn3
              go_wp2_with fail
              refine hK.out _ _ (hH3) (fun hHeld => ?_)
              clear hK
              refine wpAnyH_take (i := 17) (oi := ?oo37) (v := ?vv37) ?hi37 (by kernel_rfl) (by kernel_rfl) (by kernel_rfl) ?hQ37 ?hy37 (by assumption) ?rest37
              case hi37 => (simp only [List.getElem?_toArray, List.getElem?_cons_zero, List.getElem?_cons_succ]; rfl)
              case hQ37 => exact fun _ _ _ h => h
              case hy37 => exact Or.inl ⟨by rfl, by intro wS hSw; (try dsimp only at hSw); go_simp; try first | (with_reducible rfl) | (simp only [*]; done) | omega⟩
              try simp only [Act.put, List.setIfInBounds_toArray, List.set_cons_zero, List.set_cons_succ]
              refine wpAnyH_take (i := 18) (oi := ?oo38) (v := ?vv38) ?hi38 (by kernel_rfl) (by kernel_rfl) (by kernel_rfl) ?hQ38 ?hy38 (by assumption) ?rest38
              case hi38 => (simp only [List.getElem?_toArray, List.getElem?_cons_zero, List.getElem?_cons_succ]; rfl)
              case hQ38 => exact fun _ _ _ h => h
              case hy38 => exact Or.inl ⟨by rfl, by intro wS hSw; (try dsimp only at hSw); go_simp; try first | (with_reducible rfl) | (simp only [*]; done) | omega⟩
              try simp only [Act.put, List.setIfInBounds_toArray, List.set_cons_zero, List.set_cons_succ]
              refine wpAnyH_done (by kernel_rfl) ?_ _
              go_wp2_with fail
              go_meet
              exact ⟨rfl, hHeld⟩
    case rest =>
    obtain ⟨rfl, hbc⟩ := hcut
    have P2 := P1.keep hbc
    have B2 := bthen B1 hbc
    have HA := hide ((unhide HA).keep hbc)
    clear hbc P1 B1
    have c4 := P2.2 4 _ rfl
    have c5 := P2.2 5 _ rfl
    have hpl := P2.1
    have hd := headT_size tr id st en (by omega) (by omega) (by omega) (by omega)
    have hf : failT.size = 7 := rfl
    have hqf : ¬ 9223372036854775807 < (headT tr id st en).size + 7 := by omega
    have hqg : (headT tr id st en).size + 7 ≤ 9223372036854775807 := by omega
    have hqh : ((headT tr id st en).size : Int) + 7 ≤ 9223372036854775807 := by omega
    generalize hHT : headT tr id st en = HT at *
    have HHT := hide hHT
    clear hHT
    go_wp2
    clear c4 c5
    go_loopw [3, 4] (fun t i wk => ∃ k : Nat, k ≤ l.length ∧ i = .int .i64 k ∧ t = .string (restT (HT ++ failT) (l.take k)) ∧ Below wc.heap.size wc wk) (fun _ i _ => l.length - (intOf i).toNat)
    case atStart => exact ⟨0, Nat.zero_le _, rfl, rfl, Below.refl _ _⟩
    case round =>
      obtain ⟨k, hk, rfl, rfl, hbl⟩ := hrel
      have hbs := hbl.size
      have c5 := (P2.keep hbl).2 5 _ rfl
      have hrs := restT_size (HT ++ failT) (l.take k)
      rw [List.length_take] at hrs
      rw [ByteArray.size_append, hf] at hrs
      by_cases hlt : k < l.length
      · obtain ⟨b, o, rfl, hbk, d0, d1, d2, d3⟩ := ((unhide HA).keep hbl).at k hlt
        have hwf := (unhide HA).wf k hlt
        have hsn := restT_snoc (HT ++ failT) l k hlt
        have hxs := attrX_size (l.getD k dA)
        generalize l.getD k dA = x at *
        obtain ⟨kk, bb, nn, tt⟩ := x
        simp only [attrX, AttrWf] at d0 d1 d2 d3 hwf hsn hxs
        have hki : (k : Int) < (l.length : Int) := by omega
        generalize restT (HT ++ failT) (l.take k) = R at *
        have HS := hide hsn
        have r1 : R.size ≤ 1000 := by omega
        have u1 : ¬ 9223372036854775807 < R.size + 1 := by omega
        have u2 : R.size + 1 ≤ 9223372036854775807 := by omega
        have u3 : (R.size : Int) + 1 ≤ 9223372036854775807 := by omega
        have u4 : ¬ 9223372036854775807 < R.size + 1 + (attrT kk bb nn tt).size := by omega
        have u5 : R.size + 1 + (attrT kk bb nn tt).size ≤ 9223372036854775807 := by omega
        have u6 : (R.size : Int) + 1 + ((attrT kk bb nn tt).size : Int) ≤ 9223372036854775807 := by omega
        clear hsn hrs
        go_wp2_with fail
        refine (specAttrText kk bb nn tt _ hwf.1 hwf.2).mono ?_
        rintro e w2 ⟨rfl, hb2⟩
        go_wp2
        go_roundw
        case rel => exact ⟨k + 1, by omega, by go_num, by rw [unhide HS], bthen hbl hb2⟩
        case measure => simp [intOf]; omega
      · have hki : ¬ (k : Int) < (l.length : Int) := by omega
        have e : l.take k = l := List.take_of_length_le (by omega)
        rw [e]
        go_wp2
        go_ret
        exact ⟨congrArg (fun z => Ending.returned (.string (restT (z ++ failT) l))) (unhide HHT).symm, bthen B2 hbl⟩
end Go.Proofs.YtchinpgjaddnkaaDoor
