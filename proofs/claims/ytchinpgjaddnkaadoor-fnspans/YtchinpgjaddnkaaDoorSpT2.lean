/-
  SpanText of the program: its words stand in a list that grows, and are joined.
-/
import Derived.Test.YtchinpgjaddnkaaDoorSpT1
import Derived.Test.YtchinpgjaddnkaaDoorJoin
import Derived.Test.YtchinpgjaddnkaaDoorGrow2
namespace Go.Proofs.YtchinpgjaddnkaaDoor
open Go.ChangeShapes Go.WideShapes Go.ChangeAt Go.RowKit
set_option linter.unusedVariables false
set_option maxRecDepth 100000

def wordB : ByteArray := ⟨#[102, 97, 105, 108, 101, 100]⟩
def word1 (tr id : Int) : ByteArray := (numT tr ++ ⟨#[47]⟩) ++ numT id
def word2 (st en : Int) : ByteArray := (numT st ++ ⟨#[45]⟩) ++ numT en
theorem ba_as (x y z : ByteArray) : (x ++ y) ++ z = x ++ (y ++ z) := by apply ByteArray.ext; simp [ByteArray.data_append]
theorem join_fold (r : List ByteArray) : ∀ x : ByteArray, (⟨(Lib.join ((x :: r).map (·.data.toList)) (⟨#[32]⟩ : ByteArray).data.toList).toArray⟩ : ByteArray) = r.foldl (fun t y => (t ++ ⟨#[32]⟩) ++ y) x := by
  induction r with
  | nil => intro x; rw [List.map_cons, List.map_nil, Lib.join_one]; apply ByteArray.ext; simp
  | cons y r ih =>
    intro x
    have h := ih ((x ++ ⟨#[32]⟩) ++ y)
    rw [List.foldl_cons, ← h, List.map_cons, List.map_cons, List.map_cons, Lib.join_cons, Lib.join_cons]
    apply ByteArray.ext
    simp [Lib.joinTail, ByteArray.data_append]
theorem rest_map (l : List AttrD) : ∀ t : ByteArray, (l.map attrX).foldl (fun t y => (t ++ ⟨#[32]⟩) ++ y) t = restT t l := by
  intro t
  unfold restT
  rw [List.foldl_map]
theorem words_no (tr id st en : Int) (l : List AttrD) : (⟨(Lib.join (([word1 tr id, word2 st en] ++ l.map attrX).map (·.data.toList)) (⟨#[32]⟩ : ByteArray).data.toList).toArray⟩ : ByteArray) = restT (headT tr id st en) l := by
  rw [show [word1 tr id, word2 st en] ++ l.map attrX = word1 tr id :: (word2 st en :: l.map attrX) from rfl, join_fold, List.foldl_cons, rest_map]
  congr 1
  simp only [word1, word2, headT, ba_as]
theorem words_yes (tr id st en : Int) (l : List AttrD) : (⟨(Lib.join (([word1 tr id, word2 st en, wordB] ++ l.map attrX).map (·.data.toList)) (⟨#[32]⟩ : ByteArray).data.toList).toArray⟩ : ByteArray) = restT (headT tr id st en ++ failT) l := by
  rw [show [word1 tr id, word2 st en, wordB] ++ l.map attrX = word1 tr id :: (word2 st en :: wordB :: l.map attrX) from rfl, join_fold, List.foldl_cons, List.foldl_cons, rest_map]
  congr 1
  rw [show failT = (⟨#[32]⟩ : ByteArray) ++ wordB from rfl]
  simp only [word1, word2, headT, ba_as]
theorem size_len (l : List UInt8) : (⟨l.toArray⟩ : ByteArray).size = l.length := by simp [ByteArray.size]
def wordsK (W : List ByteArray) (l : List AttrD) (k : Nat) : List ByteArray := W ++ (l.take k).map attrX
def cellsS (xs : List ByteArray) : List Value := xs.map (fun x => .string x)
theorem cellsS_app (xs : List ByteArray) (x : ByteArray) : cellsS (xs ++ [x]) = cellsS xs ++ [.string x] := by simp [cellsS]
theorem infoS2 : (Tryd.prog.info? 9).map (fun i => (i.zero, i.size, i.bytes)) = some (some (.string ⟨#[]⟩), 1, 16) := by kernel_rfl
theorem own_two (w : World) (base : Nat) (hb : base ≤ w.heap.size) (a b : ByteArray) : (w.alloc (.cells #[.string a, .string b] 9)).ownsRow base 9 1 (.slice (some ⟨w.heap.size, 0, none⟩) 2 2) 2 (cellsS [a, b]) :=
  ⟨rfl, .inr ⟨w.heap.size, 2, #[.string a, .string b], rfl, hb, heap_alloc_new w _, Nat.le_refl _, by unfold maxLen; omega, rfl, rfl⟩⟩
theorem own_strs {w : World} {base : Nat} {v : Value} {n : Nat} {xs : List ByteArray} (h : w.ownsRow base 9 1 v n (cellsS xs)) (hn : 0 < n) :
    ∃ g cap, v = .slice (some ⟨g, 0, none⟩) xs.length cap ∧ g < w.heap.size ∧ xs.length ≤ cap ∧ ∀ (j : Nat) x, xs[j]? = some x → w.cell? ⟨g, 0 + j, none⟩ = some (.string x) := by
  obtain ⟨h1, h2⟩ := h
  have hx : xs.length = n := by simpa [cellsS] using h1
  rcases h2 with ⟨_, h0⟩ | ⟨g, cap, cur, hv, hb, hg, hc, hm, hs, ht⟩
  · omega
  · refine ⟨g, cap, by rw [hx]; exact hv, ?_, by omega, fun j x hj => ?_⟩
    · exact (Array.getElem?_eq_some_iff.1 hg).1
    · have hr := World.rangeAt_of_block hg 0 n
      refine hr j (.string x) ?_
      have e : (cur.extract 0 (0 + n)).toList = cur.toList.take n := by simp
      rw [e, Nat.mul_one] at *
      rw [ht]
      simp [cellsS, hj]
theorem lit_one (w : World) (cs : List Value) (t : TypeId) : ∀ j u, cs[j]? = some u → (w.alloc (.cells cs.toArray t)).cell? ((⟨w.heap.size, 0, none⟩ : Addr).add j) = some u := by
  intro j u h
  rw [Addr.add_mid, Nat.zero_add]
  exact (Held.new w cs t).2 j u h
theorem num_told (n : Int) (h0 : 0 ≤ n) (h1 : n ≤ 99999) (w : World) (htab : Lib.TabIs Tryd.prog w "internal/strconv.uint64pow10" .u64 Lib.pow10Tab) :
    Calls Tryd.prog 36 #[.int .i64 n] w fun e w' => e = .returned (.string (numT n)) ∧ Below w.heap.size w w' := implNumText n (by omega) (by omega) w htab
set_option maxHeartbeats 8000000 in
theorem implSpanText (tr id st en : Int) (er : Bool) (l : List AttrD) (v : Value) (w : World) (ha : AttrsAt w v l) (h1 : l.length ≤ 1048576) (h2 : bytesA l ≤ 1048576) (htab : Lib.TabIs Tryd.prog w "internal/strconv.uint64pow10" .u64 Lib.pow10Tab) :
    Calls Tryd.prog 17 #[.agg #[.int .i64 tr, .int .i64 id, .int .i64 st, .int .i64 en, .bool er, v]] w fun e w' => e = .returned (.string (spanT tr id st en er l)) ∧ Below w.heap.size w w' := by
  obtain ⟨a, cap, rfl⟩ := ha.form
  cases hS : spanB tr id st en l
  case false =>
    rw [spanT, hS]
    have B0 := bnew w (.cells #[.int .i64 tr, .int .i64 id, .int .i64 st, .int .i64 en, .bool er, .slice a l.length cap] 26)
    go_enter Tryd.func17, Tryd.ntmps17
    go_wp2_with fail
    refine (implSpanOk tr id st en er l _ _ (ha.keep B0) h1 h2).mono ?_
    rintro e w1 ⟨rfl, hb1⟩
    rw [hS]
    go_wp2
    go_ret
    exact ⟨rfl, bthen B0 hb1⟩
  have hS' := hS
  simp only [spanB, attrsB, Bool.and_eq_true, inB_iff, decide_eq_true_eq] at hS'
  obtain ⟨m1, m2, m3, m4, ⟨_, m5⟩, _⟩ := hS'
  have q1 := numT_size tr (by omega) (by omega)
  have q2 := numT_size id (by omega) (by omega)
  have q3 := numT_size st (by omega) (by omega)
  have q4 := numT_size en (by omega) (by omega)
  have zs47 : (⟨#[47]⟩ : ByteArray).size = 1 := rfl
  have zs45 : (⟨#[45]⟩ : ByteArray).size = 1 := rfl
  rw [spanT, hS, if_pos rfl]
  cases er
  case false =>
    rw [if_neg Bool.false_ne_true]
    have P0 := Held.new w [.int .i64 tr, .int .i64 id, .int .i64 st, .int .i64 en, .bool false, .slice a l.length cap] 26
    have B0 := bnew w (.cells #[.int .i64 tr, .int .i64 id, .int .i64 st, .int .i64 en, .bool false, .slice a l.length cap] 26)
    go_enter Tryd.func17, Tryd.ntmps17
    go_wp2_with fail
    refine (implSpanOk tr id st en false l _ _ (ha.keep B0) h1 h2).mono ?_
    rintro e w1 ⟨rfl, hb1⟩
    rw [hS]
    have P1 := P0.keep hb1
    have B1 := bthen B0 hb1
    have HA := hide (ha.keep B1)
    have HA0 := HA
    clear hb1 P0 B0 ha
    go_upto_region 3 with fail
    go_cut [3] from 8 to 24 (fun s wc => Hid (wc.ownsRow w1.heap.size 9 1 s 2 (cellsS [word1 tr id, word2 st en])) ∧ Below w1.heap.size w1 wc)
    case first =>
      refine wp_region_held_drew (S := fun w' => Below w1.heap.size w1 w') (by kernel_rfl) (Below.drew (Below.refl _ _)) (fun hHeld => ?_)
      refine wpAnyH_take (i := 0) (oi := ?oo1) (v := ?vv1) ?hi1 (by kernel_rfl) (by kernel_rfl) (by kernel_rfl) ?hQ1 ?hy1 (by assumption) ?rest1
      case hi1 => (simp only [List.getElem?_toArray, List.getElem?_cons_zero]; rfl)
      case hQ1 => exact fun _ _ _ h => h
      case hy1 => exact Or.inl ⟨by rfl, by intro wS hSw; (try dsimp only at hSw); go_simp; try first | (with_reducible rfl) | (simp only [*]; done) | omega⟩
      try simp only [Act.put, List.setIfInBounds_toArray, List.set_cons_zero, List.set_cons_succ]
      refine wpAnyH_take (i := 1) (oi := ?oo2) (v := .int .i64 tr) ?hi2 (by kernel_rfl) (by kernel_rfl) (by kernel_rfl) ?hQ2 ?hy2 (by assumption) ?rest2
      case hi2 => (simp only [List.getElem?_toArray, List.getElem?_cons_zero, List.getElem?_cons_succ]; rfl)
      case hQ2 => exact fun _ _ _ h => h
      case hy2 => exact yld_cell (by rfl) _ _ rfl _ _ rfl _ (fun w' hS => (P1.keep hS).2 0 _ rfl) plainInt
      try simp only [Act.put, List.setIfInBounds_toArray, List.set_cons_zero, List.set_cons_succ]
      refine wpAnyH_take (i := 4) (oi := ?oo3) (v := ?vv3) ?hi3 (by kernel_rfl) (by kernel_rfl) (by kernel_rfl) ?hQ3 ?hy3 (by assumption) ?rest3
      case hi3 => (simp only [List.getElem?_toArray, List.getElem?_cons_zero, List.getElem?_cons_succ]; rfl)
      case hQ3 => exact fun _ _ _ h => h
      case hy3 => exact Or.inl ⟨by rfl, by intro wS hSw; (try dsimp only at hSw); go_simp; try first | (with_reducible rfl) | (simp only [*]; done) | omega⟩
      try simp only [Act.put, List.setIfInBounds_toArray, List.set_cons_zero, List.set_cons_succ]
      refine wpAnyH_take (i := 5) (oi := ?oo4) (v := .int .i64 id) ?hi4 (by kernel_rfl) (by kernel_rfl) (by kernel_rfl) ?hQ4 ?hy4 (by assumption) ?rest4
      case hi4 => (simp only [List.getElem?_toArray, List.getElem?_cons_zero, List.getElem?_cons_succ]; rfl)
      case hQ4 => exact fun _ _ _ h => h
      case hy4 => exact yld_cell (by rfl) _ _ rfl _ _ rfl _ (fun w' hS => (P1.keep hS).2 1 _ rfl) plainInt
      try simp only [Act.put, List.setIfInBounds_toArray, List.set_cons_zero, List.set_cons_succ]
      refine wpAnyH_take (i := 8) (oi := ?oo5) (v := ?vv5) ?hi5 (by kernel_rfl) (by kernel_rfl) (by kernel_rfl) ?hQ5 ?hy5 (by assumption) ?rest5
      case hi5 => (simp only [List.getElem?_toArray, List.getElem?_cons_zero, List.getElem?_cons_succ]; rfl)
      case hQ5 => exact fun _ _ _ h => h
      case hy5 => exact Or.inl ⟨by rfl, by intro wS hSw; (try dsimp only at hSw); go_simp; try first | (with_reducible rfl) | (simp only [*]; done) | omega⟩
      try simp only [Act.put, List.setIfInBounds_toArray, List.set_cons_zero, List.set_cons_succ]
      refine wpAnyH_take (i := 9) (oi := ?oo6) (v := .int .i64 st) ?hi6 (by kernel_rfl) (by kernel_rfl) (by kernel_rfl) ?hQ6 ?hy6 (by assumption) ?rest6
      case hi6 => (simp only [List.getElem?_toArray, List.getElem?_cons_zero, List.getElem?_cons_succ]; rfl)
      case hQ6 => exact fun _ _ _ h => h
      case hy6 => exact yld_cell (by rfl) _ _ rfl _ _ rfl _ (fun w' hS => (P1.keep hS).2 2 _ rfl) plainInt
      try simp only [Act.put, List.setIfInBounds_toArray, List.set_cons_zero, List.set_cons_succ]
      refine wpAnyH_take (i := 12) (oi := ?oo7) (v := ?vv7) ?hi7 (by kernel_rfl) (by kernel_rfl) (by kernel_rfl) ?hQ7 ?hy7 (by assumption) ?rest7
      case hi7 => (simp only [List.getElem?_toArray, List.getElem?_cons_zero, List.getElem?_cons_succ]; rfl)
      case hQ7 => exact fun _ _ _ h => h
      case hy7 => exact Or.inl ⟨by rfl, by intro wS hSw; (try dsimp only at hSw); go_simp; try first | (with_reducible rfl) | (simp only [*]; done) | omega⟩
      try simp only [Act.put, List.setIfInBounds_toArray, List.set_cons_zero, List.set_cons_succ]
      refine wpAnyH_take (i := 13) (oi := ?oo8) (v := .int .i64 en) ?hi8 (by kernel_rfl) (by kernel_rfl) (by kernel_rfl) ?hQ8 ?hy8 (by assumption) ?rest8
      case hi8 => (simp only [List.getElem?_toArray, List.getElem?_cons_zero, List.getElem?_cons_succ]; rfl)
      case hQ8 => exact fun _ _ _ h => h
      case hy8 => exact yld_cell (by rfl) _ _ rfl _ _ rfl _ (fun w' hS => (P1.keep hS).2 3 _ rfl) plainInt
      try simp only [Act.put, List.setIfInBounds_toArray, List.set_cons_zero, List.set_cons_succ]
      refine wpAnyH_ready (rs := [2]) (by kernel_rfl) (by simp) ?_
      refine (AllReadyH.cons (o := ?bo9n2) ?bh9n2 (fun K hK => ?br9n2) AllReadyH.nil)
      case bh9n2 => (simp only [List.getElem?_toArray, List.getElem?_cons_zero, List.getElem?_cons_succ]; rfl)
      case br9n2 =>
        go_simp
        refine (num_told tr (by omega) (by omega) _ (htab_keep htab (bthen B1 hHeld))).mono ?_
        rintro e wn0 ⟨rfl, hbn0⟩
        have hH0 := bthen hHeld hbn0
        clear hHeld hbn0
        go_wp2_with fail
        refine hK.out _ _ (hH0) (fun hHeld => ?_)
        clear hK
        refine wpAnyH_take (i := 3) (oi := ?oo10) (v := .string (numT tr ++ (⟨#[47]⟩ : ByteArray))) ?hi10 (by kernel_rfl) (by kernel_rfl) (by kernel_rfl) ?hQ10 ?hy10 (by assumption) ?rest10
        case hi10 => (simp only [List.getElem?_toArray, List.getElem?_cons_zero, List.getElem?_cons_succ]; rfl)
        case hQ10 => exact fun _ _ _ h => h
        case hy10 => exact Or.inl ⟨by rfl, by intro wS hSw; (try dsimp only at hSw); go_simp; (try simp only [ByteArray.size_append, zs47, zs45]); first | omega | (rw [if_neg (by omega)]; done) | (rw [if_neg (by omega)]; rfl) | (simp; omega)⟩
        try simp only [Act.put, List.setIfInBounds_toArray, List.set_cons_zero, List.set_cons_succ]
        refine wpAnyH_ready (rs := [6]) (by kernel_rfl) (by simp) ?_
        refine (AllReadyH.cons (o := ?bo11n6) ?bh11n6 (fun K hK => ?br11n6) AllReadyH.nil)
        case bh11n6 => (simp only [List.getElem?_toArray, List.getElem?_cons_zero, List.getElem?_cons_succ]; rfl)
        case br11n6 =>
          go_simp
          refine (num_told id (by omega) (by omega) _ (htab_keep htab (bthen B1 hHeld))).mono ?_
          rintro e wn1 ⟨rfl, hbn1⟩
          have hH1 := bthen hHeld hbn1
          clear hHeld hbn1
          go_wp2_with fail
          refine hK.out _ _ (hH1) (fun hHeld => ?_)
          clear hK
          refine wpAnyH_take (i := 7) (oi := ?oo12) (v := .string (word1 tr id)) ?hi12 (by kernel_rfl) (by kernel_rfl) (by kernel_rfl) ?hQ12 ?hy12 (by assumption) ?rest12
          case hi12 => (simp only [List.getElem?_toArray, List.getElem?_cons_zero, List.getElem?_cons_succ]; rfl)
          case hQ12 => exact fun _ _ _ h => h
          case hy12 => exact Or.inl ⟨by rfl, by intro wS hSw; (try dsimp only at hSw); go_simp; (try simp only [ByteArray.size_append, zs47, zs45]); first | omega | (rw [if_neg (by omega)]; done) | (rw [if_neg (by omega)]; rfl) | (simp; omega)⟩
          try simp only [Act.put, List.setIfInBounds_toArray, List.set_cons_zero, List.set_cons_succ]
          refine wpAnyH_ready (rs := [10]) (by kernel_rfl) (by simp) ?_
          refine (AllReadyH.cons (o := ?bo13n10) ?bh13n10 (fun K hK => ?br13n10) AllReadyH.nil)
          case bh13n10 => (simp only [List.getElem?_toArray, List.getElem?_cons_zero, List.getElem?_cons_succ]; rfl)
          case br13n10 =>
            go_simp
            refine (num_told st (by omega) (by omega) _ (htab_keep htab (bthen B1 hHeld))).mono ?_
            rintro e wn2 ⟨rfl, hbn2⟩
            have hH2 := bthen hHeld hbn2
            clear hHeld hbn2
            go_wp2_with fail
            refine hK.out _ _ (hH2) (fun hHeld => ?_)
            clear hK
            refine wpAnyH_take (i := 11) (oi := ?oo14) (v := .string (numT st ++ (⟨#[45]⟩ : ByteArray))) ?hi14 (by kernel_rfl) (by kernel_rfl) (by kernel_rfl) ?hQ14 ?hy14 (by assumption) ?rest14
            case hi14 => (simp only [List.getElem?_toArray, List.getElem?_cons_zero, List.getElem?_cons_succ]; rfl)
            case hQ14 => exact fun _ _ _ h => h
            case hy14 => exact Or.inl ⟨by rfl, by intro wS hSw; (try dsimp only at hSw); go_simp; (try simp only [ByteArray.size_append, zs47, zs45]); first | omega | (rw [if_neg (by omega)]; done) | (rw [if_neg (by omega)]; rfl) | (simp; omega)⟩
            try simp only [Act.put, List.setIfInBounds_toArray, List.set_cons_zero, List.set_cons_succ]
            refine wpAnyH_ready (rs := [14]) (by kernel_rfl) (by simp) ?_
            refine (AllReadyH.cons (o := ?bo15n14) ?bh15n14 (fun K hK => ?br15n14) AllReadyH.nil)
            case bh15n14 => (simp only [List.getElem?_toArray, List.getElem?_cons_zero, List.getElem?_cons_succ]; rfl)
            case br15n14 =>
              go_simp
              refine (num_told en (by omega) (by omega) _ (htab_keep htab (bthen B1 hHeld))).mono ?_
              rintro e wn3 ⟨rfl, hbn3⟩
              have hH3 := bthen hHeld hbn3
              clear hHeld hbn3
              go_wp2_with fail
              refine hK.out _ _ (hH3) (fun hHeld => ?_)
              clear hK
              refine wpAnyH_take (i := 15) (oi := ?oo16) (v := .string (word2 st en)) ?hi16 (by kernel_rfl) (by kernel_rfl) (by kernel_rfl) ?hQ16 ?hy16 (by assumption) ?rest16
              case hi16 => (simp only [List.getElem?_toArray, List.getElem?_cons_zero, List.getElem?_cons_succ]; rfl)
              case hQ16 => exact fun _ _ _ h => h
              case hy16 => exact Or.inl ⟨by rfl, by intro wS hSw; (try dsimp only at hSw); go_simp; (try simp only [ByteArray.size_append, zs47, zs45]); first | omega | (rw [if_neg (by omega)]; done) | (rw [if_neg (by omega)]; rfl) | (simp; omega)⟩
              try simp only [Act.put, List.setIfInBounds_toArray, List.set_cons_zero, List.set_cons_succ]
              refine wpAnyH_ready (rs := [16]) (by kernel_rfl) (by simp) ?_
              refine (AllReadyH.cons (o := ?bo17n16) ?bh17n16 (fun K hK => ?br17n16) AllReadyH.nil)
              case bh17n16 => (simp only [List.getElem?_toArray, List.getElem?_cons_zero, List.getElem?_cons_succ]; rfl)
              case br17n16 =>
                go_simp
                have hz9 := hHeld.size
                refine hK.out _ _ (bthen hHeld (bnew _ _)) (fun hHeld => ?_)
                clear hK
                refine wpAnyH_take (i := 17) (oi := ?oo18) (v := ?vv18) ?hi18 (by kernel_rfl) (by kernel_rfl) (by kernel_rfl) ?hQ18 ?hy18 (by assumption) ?rest18
                case hi18 => (simp only [List.getElem?_toArray, List.getElem?_cons_zero, List.getElem?_cons_succ]; rfl)
                case hQ18 => exact fun _ _ _ h => h
                case hy18 => exact Or.inl ⟨by rfl, by intro wS hSw; (try dsimp only at hSw); go_simp; try first | (with_reducible rfl) | (simp only [*]; done) | omega⟩
                try simp only [Act.put, List.setIfInBounds_toArray, List.set_cons_zero, List.set_cons_succ]
                refine wpAnyH_done (by kernel_rfl) ?_ _
                go_wp2_with fail
                go_meet
                exact ⟨hide (own_two _ _ hz9 _ _), hHeld⟩
    case rest =>
    obtain ⟨hown, hbc⟩ := hcut
    clear zs47 zs45
    have P2 := P1.keep hbc
    have B2 := bthen B1 hbc
    have hcs := hbc.size
    have HA := hide ((unhide HA).keep hbc)
    have P1' := P1
    have HA1 := HA0
    clear P1
    have c4 := P2.2 4 _ rfl
    have c5 := P2.2 5 _ rfl
    have HO5 := hown
    have P3 := P2
    have bl5 := hbc
    clear hown
    have hP3 := P3.1
    have B3 := bthen B1 bl5
    have c5 := P3.2 5 _ rfl
    have hl6 : l.length ≤ 100 := by omega
    go_wp2
    clear c5
    go_loopw [3, 33] (fun s i wk => ∃ k : Nat, k ≤ l.length ∧ i = .int .i64 k ∧ Hid (wk.ownsRow w1.heap.size 9 1 s (2 + k) (cellsS (wordsK [word1 tr id, word2 st en] l k))) ∧ Hid (Below w1.heap.size w1 wk)) (fun _ i _ => l.length - (intOf i).toNat)
    case atStart => exact ⟨0, Nat.zero_le _, rfl, hide (by simpa [wordsK] using unhide HO5), hide bl5⟩
    case round =>
      obtain ⟨k, hk, rfl, hgr, hbl⟩ := hrel
      have hbl := unhide hbl
      have hbs := hbl.size
      have hPk : Held wr w.heap.size _ := (P1'.turn (Below.turn hbl) (fun e => e))
      have c5 := hPk.2 5 _ rfl
      by_cases hlt : k < l.length
      · obtain ⟨b, o, rfl, hbk, d0, d1, d2, d3⟩ := ((unhide HA1).keep hbl).at k hlt
        have hwf := (unhide HA1).wf k hlt
        have HSN := hide (show wordsK [word1 tr id, word2 st en] l (k + 1) = wordsK [word1 tr id, word2 st en] l k ++ [attrX (l.getD k dA)] by
          unfold wordsK; rw [List.take_succ_eq_append_getElem hlt, List.map_append, ← List.append_assoc]; simp [List.getD_eq_getElem?_getD, List.getElem?_eq_getElem hlt])
        generalize l.getD k dA = x at *
        obtain ⟨kk, bb, nn, tt⟩ := x
        simp only [AttrWf] at d0 d1 d2 d3 hwf
        have hki : (k : Int) < (l.length : Int) := by omega
        go_wp2_with fail
        refine (implAttrText kk bb nn tt _ hwf.1 hwf.2 (htab_keep htab (bthen B1 hbl))).mono ?_
        rintro e w2 ⟨rfl, hb2⟩
        have hrow1 := owns_below (unhide hgr) hb2
        have hlt0 := hrow1.lt
        have HL0 := hide hlt0
        have hbl2 := bthen hbl hb2
        have hs2 := hbl2.size
        have hrow2 := owns_below hrow1 (bnew w2 (.cells #[.string (attrT kk bb nn tt)] 9))
        have hs0 : w1.heap.size ≤ (w2.alloc (.cells #[.string (attrT kk bb nn tt)] 9)).heap.size := by simp; omega
        have hB2 := bthen hbl2 (bnew w2 (.cells #[.string (attrT kk bb nn tt)] 9))
        clear hlt0 hgr hrow1 d0 d1 d2 d3 c5 hPk
        go_wp2_with (first | (at_builtin; refine wpl_append2 rfl (.tmp 36) (.tmp 43) 53 rfl w1.heap.size 9 _ 1 16 Tryd.underlying53 infoS2 rfl (by decide) _ _ _ rfl hrow2 ⟨_, 0, none⟩ 1 1 [.string (attrT kk bb nn tt)] rfl rfl (lit_one w2 [.string (attrT kk bb nn tt)] 9) (by intro v hv; simp at hv; subst hv; rfl) (by unfold maxLen; omega) (by omega) hs0 ?_))
        intro v' w' how hg hv
        have bl1 := grown_below (B := w1.heap.size) hB2 hg (fun q hq => (unhide HL0 q hq).1) (by simp; omega)
        have HO := hide how
        clear how hg hv hrow2 hs0 hB2 HL0
        go_wp2
        go_roundw
        case rel => exact ⟨k + 1, by omega, by go_num, hide (by rw [unhide HSN, cellsS_app]; exact unhide HO), hide bl1⟩
        case measure => simp [intOf]; omega
      · have hki : ¬ (k : Int) < (l.length : Int) := by omega
        have e : wordsK [word1 tr id, word2 st en] l k = [word1 tr id, word2 st en] ++ l.map attrX := by unfold wordsK; rw [List.take_of_length_le (by omega)]
        have hgr := unhide hgr
        rw [e] at hgr
        clear e
        have HW := hide (words_no tr id st en l)
        have hd := headT_size tr id st en (by omega) (by omega) (by omega) (by omega)
        have hrs := restT_size (headT tr id st en) l
        
        have hxl : ([word1 tr id, word2 st en] ++ l.map attrX).length ≤ 140737488355328 := by simp; omega
        generalize hXS : [word1 tr id, word2 st en] ++ l.map attrX = xs at *
        clear hXS
        have hjl : (Lib.join (xs.map (·.data.toList)) (⟨#[32]⟩ : ByteArray).data.toList).length ≤ 140737488355328 := by
          rw [← size_len, unhide HW]; omega
        obtain ⟨g, cap2, hv, hgl, hcap, hcells⟩ := own_strs hgr (by omega)
        subst hv
        have HC := hide hcells
        have HJ := hide hjl
        clear hcells hjl hgr hrs hd
        go_wp2_with fail
        refine (Tryd.strings_Join g 0 cap2 xs ⟨#[32]⟩ _ (unhide HC) hgl hxl hcap (unhide HJ)).mono ?_
        rintro e w3 ⟨rfl, hb3⟩
        rw [unhide HW]
        go_wp2
        go_ret
        exact ⟨rfl, bthen (bthen B1 hbl) hb3⟩
  case true =>
    rw [if_pos rfl]
    have P0 := Held.new w [.int .i64 tr, .int .i64 id, .int .i64 st, .int .i64 en, .bool true, .slice a l.length cap] 26
    have B0 := bnew w (.cells #[.int .i64 tr, .int .i64 id, .int .i64 st, .int .i64 en, .bool true, .slice a l.length cap] 26)
    go_enter Tryd.func17, Tryd.ntmps17
    go_wp2_with fail
    refine (implSpanOk tr id st en true l _ _ (ha.keep B0) h1 h2).mono ?_
    rintro e w1 ⟨rfl, hb1⟩
    rw [hS]
    have P1 := P0.keep hb1
    have B1 := bthen B0 hb1
    have HA := hide (ha.keep B1)
    have HA0 := HA
    clear hb1 P0 B0 ha
    go_upto_region 3 with fail
    go_cut [3] from 8 to 24 (fun s wc => Hid (wc.ownsRow w1.heap.size 9 1 s 2 (cellsS [word1 tr id, word2 st en])) ∧ Below w1.heap.size w1 wc)
    case first =>
      refine wp_region_held_drew (S := fun w' => Below w1.heap.size w1 w') (by kernel_rfl) (Below.drew (Below.refl _ _)) (fun hHeld => ?_)
      refine wpAnyH_take (i := 0) (oi := ?oo19) (v := ?vv19) ?hi19 (by kernel_rfl) (by kernel_rfl) (by kernel_rfl) ?hQ19 ?hy19 (by assumption) ?rest19
      case hi19 => (simp only [List.getElem?_toArray, List.getElem?_cons_zero]; rfl)
      case hQ19 => exact fun _ _ _ h => h
      case hy19 => exact Or.inl ⟨by rfl, by intro wS hSw; (try dsimp only at hSw); go_simp; try first | (with_reducible rfl) | (simp only [*]; done) | omega⟩
      try simp only [Act.put, List.setIfInBounds_toArray, List.set_cons_zero, List.set_cons_succ]
      refine wpAnyH_take (i := 1) (oi := ?oo20) (v := .int .i64 tr) ?hi20 (by kernel_rfl) (by kernel_rfl) (by kernel_rfl) ?hQ20 ?hy20 (by assumption) ?rest20
      case hi20 => (simp only [List.getElem?_toArray, List.getElem?_cons_zero, List.getElem?_cons_succ]; rfl)
      case hQ20 => exact fun _ _ _ h => h
      case hy20 => exact yld_cell (by rfl) _ _ rfl _ _ rfl _ (fun w' hS => (P1.keep hS).2 0 _ rfl) plainInt
      try simp only [Act.put, List.setIfInBounds_toArray, List.set_cons_zero, List.set_cons_succ]
      refine wpAnyH_take (i := 4) (oi := ?oo21) (v := ?vv21) ?hi21 (by kernel_rfl) (by kernel_rfl) (by kernel_rfl) ?hQ21 ?hy21 (by assumption) ?rest21
      case hi21 => (simp only [List.getElem?_toArray, List.getElem?_cons_zero, List.getElem?_cons_succ]; rfl)
      case hQ21 => exact fun _ _ _ h => h
      case hy21 => exact Or.inl ⟨by rfl, by intro wS hSw; (try dsimp only at hSw); go_simp; try first | (with_reducible rfl) | (simp only [*]; done) | omega⟩
      try simp only [Act.put, List.setIfInBounds_toArray, List.set_cons_zero, List.set_cons_succ]
      refine wpAnyH_take (i := 5) (oi := ?oo22) (v := .int .i64 id) ?hi22 (by kernel_rfl) (by kernel_rfl) (by kernel_rfl) ?hQ22 ?hy22 (by assumption) ?rest22
      case hi22 => (simp only [List.getElem?_toArray, List.getElem?_cons_zero, List.getElem?_cons_succ]; rfl)
      case hQ22 => exact fun _ _ _ h => h
      case hy22 => exact yld_cell (by rfl) _ _ rfl _ _ rfl _ (fun w' hS => (P1.keep hS).2 1 _ rfl) plainInt
      try simp only [Act.put, List.setIfInBounds_toArray, List.set_cons_zero, List.set_cons_succ]
      refine wpAnyH_take (i := 8) (oi := ?oo23) (v := ?vv23) ?hi23 (by kernel_rfl) (by kernel_rfl) (by kernel_rfl) ?hQ23 ?hy23 (by assumption) ?rest23
      case hi23 => (simp only [List.getElem?_toArray, List.getElem?_cons_zero, List.getElem?_cons_succ]; rfl)
      case hQ23 => exact fun _ _ _ h => h
      case hy23 => exact Or.inl ⟨by rfl, by intro wS hSw; (try dsimp only at hSw); go_simp; try first | (with_reducible rfl) | (simp only [*]; done) | omega⟩
      try simp only [Act.put, List.setIfInBounds_toArray, List.set_cons_zero, List.set_cons_succ]
      refine wpAnyH_take (i := 9) (oi := ?oo24) (v := .int .i64 st) ?hi24 (by kernel_rfl) (by kernel_rfl) (by kernel_rfl) ?hQ24 ?hy24 (by assumption) ?rest24
      case hi24 => (simp only [List.getElem?_toArray, List.getElem?_cons_zero, List.getElem?_cons_succ]; rfl)
      case hQ24 => exact fun _ _ _ h => h
      case hy24 => exact yld_cell (by rfl) _ _ rfl _ _ rfl _ (fun w' hS => (P1.keep hS).2 2 _ rfl) plainInt
      try simp only [Act.put, List.setIfInBounds_toArray, List.set_cons_zero, List.set_cons_succ]
      refine wpAnyH_take (i := 12) (oi := ?oo25) (v := ?vv25) ?hi25 (by kernel_rfl) (by kernel_rfl) (by kernel_rfl) ?hQ25 ?hy25 (by assumption) ?rest25
      case hi25 => (simp only [List.getElem?_toArray, List.getElem?_cons_zero, List.getElem?_cons_succ]; rfl)
      case hQ25 => exact fun _ _ _ h => h
      case hy25 => exact Or.inl ⟨by rfl, by intro wS hSw; (try dsimp only at hSw); go_simp; try first | (with_reducible rfl) | (simp only [*]; done) | omega⟩
      try simp only [Act.put, List.setIfInBounds_toArray, List.set_cons_zero, List.set_cons_succ]
      refine wpAnyH_take (i := 13) (oi := ?oo26) (v := .int .i64 en) ?hi26 (by kernel_rfl) (by kernel_rfl) (by kernel_rfl) ?hQ26 ?hy26 (by assumption) ?rest26
      case hi26 => (simp only [List.getElem?_toArray, List.getElem?_cons_zero, List.getElem?_cons_succ]; rfl)
      case hQ26 => exact fun _ _ _ h => h
      case hy26 => exact yld_cell (by rfl) _ _ rfl _ _ rfl _ (fun w' hS => (P1.keep hS).2 3 _ rfl) plainInt
      try simp only [Act.put, List.setIfInBounds_toArray, List.set_cons_zero, List.set_cons_succ]
      refine wpAnyH_ready (rs := [2]) (by kernel_rfl) (by simp) ?_
      refine (AllReadyH.cons (o := ?bo27n2) ?bh27n2 (fun K hK => ?br27n2) AllReadyH.nil)
      case bh27n2 => (simp only [List.getElem?_toArray, List.getElem?_cons_zero, List.getElem?_cons_succ]; rfl)
      case br27n2 =>
        go_simp
        refine (num_told tr (by omega) (by omega) _ (htab_keep htab (bthen B1 hHeld))).mono ?_
        rintro e wn0 ⟨rfl, hbn0⟩
        have hH0 := bthen hHeld hbn0
        clear hHeld hbn0
        go_wp2_with fail
        refine hK.out _ _ (hH0) (fun hHeld => ?_)
        clear hK
        refine wpAnyH_take (i := 3) (oi := ?oo28) (v := .string (numT tr ++ (⟨#[47]⟩ : ByteArray))) ?hi28 (by kernel_rfl) (by kernel_rfl) (by kernel_rfl) ?hQ28 ?hy28 (by assumption) ?rest28
        case hi28 => (simp only [List.getElem?_toArray, List.getElem?_cons_zero, List.getElem?_cons_succ]; rfl)
        case hQ28 => exact fun _ _ _ h => h
        case hy28 => exact Or.inl ⟨by rfl, by intro wS hSw; (try dsimp only at hSw); go_simp; (try simp only [ByteArray.size_append, zs47, zs45]); first | omega | (rw [if_neg (by omega)]; done) | (rw [if_neg (by omega)]; rfl) | (simp; omega)⟩
        try simp only [Act.put, List.setIfInBounds_toArray, List.set_cons_zero, List.set_cons_succ]
        refine wpAnyH_ready (rs := [6]) (by kernel_rfl) (by simp) ?_
        refine (AllReadyH.cons (o := ?bo29n6) ?bh29n6 (fun K hK => ?br29n6) AllReadyH.nil)
        case bh29n6 => (simp only [List.getElem?_toArray, List.getElem?_cons_zero, List.getElem?_cons_succ]; rfl)
        case br29n6 =>
          go_simp
          refine (num_told id (by omega) (by omega) _ (htab_keep htab (bthen B1 hHeld))).mono ?_
          rintro e wn1 ⟨rfl, hbn1⟩
          have hH1 := bthen hHeld hbn1
          clear hHeld hbn1
          go_wp2_with fail
          refine hK.out _ _ (hH1) (fun hHeld => ?_)
          clear hK
          refine wpAnyH_take (i := 7) (oi := ?oo30) (v := .string (word1 tr id)) ?hi30 (by kernel_rfl) (by kernel_rfl) (by kernel_rfl) ?hQ30 ?hy30 (by assumption) ?rest30
          case hi30 => (simp only [List.getElem?_toArray, List.getElem?_cons_zero, List.getElem?_cons_succ]; rfl)
          case hQ30 => exact fun _ _ _ h => h
          case hy30 => exact Or.inl ⟨by rfl, by intro wS hSw; (try dsimp only at hSw); go_simp; (try simp only [ByteArray.size_append, zs47, zs45]); first | omega | (rw [if_neg (by omega)]; done) | (rw [if_neg (by omega)]; rfl) | (simp; omega)⟩
          try simp only [Act.put, List.setIfInBounds_toArray, List.set_cons_zero, List.set_cons_succ]
          refine wpAnyH_ready (rs := [10]) (by kernel_rfl) (by simp) ?_
          refine (AllReadyH.cons (o := ?bo31n10) ?bh31n10 (fun K hK => ?br31n10) AllReadyH.nil)
          case bh31n10 => (simp only [List.getElem?_toArray, List.getElem?_cons_zero, List.getElem?_cons_succ]; rfl)
          case br31n10 =>
            go_simp
            refine (num_told st (by omega) (by omega) _ (htab_keep htab (bthen B1 hHeld))).mono ?_
            rintro e wn2 ⟨rfl, hbn2⟩
            have hH2 := bthen hHeld hbn2
            clear hHeld hbn2
            go_wp2_with fail
            refine hK.out _ _ (hH2) (fun hHeld => ?_)
            clear hK
            refine wpAnyH_take (i := 11) (oi := ?oo32) (v := .string (numT st ++ (⟨#[45]⟩ : ByteArray))) ?hi32 (by kernel_rfl) (by kernel_rfl) (by kernel_rfl) ?hQ32 ?hy32 (by assumption) ?rest32
            case hi32 => (simp only [List.getElem?_toArray, List.getElem?_cons_zero, List.getElem?_cons_succ]; rfl)
            case hQ32 => exact fun _ _ _ h => h
            case hy32 => exact Or.inl ⟨by rfl, by intro wS hSw; (try dsimp only at hSw); go_simp; (try simp only [ByteArray.size_append, zs47, zs45]); first | omega | (rw [if_neg (by omega)]; done) | (rw [if_neg (by omega)]; rfl) | (simp; omega)⟩
            try simp only [Act.put, List.setIfInBounds_toArray, List.set_cons_zero, List.set_cons_succ]
            refine wpAnyH_ready (rs := [14]) (by kernel_rfl) (by simp) ?_
            refine (AllReadyH.cons (o := ?bo33n14) ?bh33n14 (fun K hK => ?br33n14) AllReadyH.nil)
            case bh33n14 => (simp only [List.getElem?_toArray, List.getElem?_cons_zero, List.getElem?_cons_succ]; rfl)
            case br33n14 =>
              go_simp
              refine (num_told en (by omega) (by omega) _ (htab_keep htab (bthen B1 hHeld))).mono ?_
              rintro e wn3 ⟨rfl, hbn3⟩
              have hH3 := bthen hHeld hbn3
              clear hHeld hbn3
              go_wp2_with fail
              refine hK.out _ _ (hH3) (fun hHeld => ?_)
              clear hK
              refine wpAnyH_take (i := 15) (oi := ?oo34) (v := .string (word2 st en)) ?hi34 (by kernel_rfl) (by kernel_rfl) (by kernel_rfl) ?hQ34 ?hy34 (by assumption) ?rest34
              case hi34 => (simp only [List.getElem?_toArray, List.getElem?_cons_zero, List.getElem?_cons_succ]; rfl)
              case hQ34 => exact fun _ _ _ h => h
              case hy34 => exact Or.inl ⟨by rfl, by intro wS hSw; (try dsimp only at hSw); go_simp; (try simp only [ByteArray.size_append, zs47, zs45]); first | omega | (rw [if_neg (by omega)]; done) | (rw [if_neg (by omega)]; rfl) | (simp; omega)⟩
              try simp only [Act.put, List.setIfInBounds_toArray, List.set_cons_zero, List.set_cons_succ]
              refine wpAnyH_ready (rs := [16]) (by kernel_rfl) (by simp) ?_
              refine (AllReadyH.cons (o := ?bo35n16) ?bh35n16 (fun K hK => ?br35n16) AllReadyH.nil)
              case bh35n16 => (simp only [List.getElem?_toArray, List.getElem?_cons_zero, List.getElem?_cons_succ]; rfl)
              case br35n16 =>
                go_simp
                have hz9 := hHeld.size
                refine hK.out _ _ (bthen hHeld (bnew _ _)) (fun hHeld => ?_)
                clear hK
                refine wpAnyH_take (i := 17) (oi := ?oo36) (v := ?vv36) ?hi36 (by kernel_rfl) (by kernel_rfl) (by kernel_rfl) ?hQ36 ?hy36 (by assumption) ?rest36
                case hi36 => (simp only [List.getElem?_toArray, List.getElem?_cons_zero, List.getElem?_cons_succ]; rfl)
                case hQ36 => exact fun _ _ _ h => h
                case hy36 => exact Or.inl ⟨by rfl, by intro wS hSw; (try dsimp only at hSw); go_simp; try first | (with_reducible rfl) | (simp only [*]; done) | omega⟩
                try simp only [Act.put, List.setIfInBounds_toArray, List.set_cons_zero, List.set_cons_succ]
                refine wpAnyH_done (by kernel_rfl) ?_ _
                go_wp2_with fail
                go_meet
                exact ⟨hide (own_two _ _ hz9 _ _), hHeld⟩
    case rest =>
    obtain ⟨hown, hbc⟩ := hcut
    clear zs47 zs45
    have P2 := P1.keep hbc
    have B2 := bthen B1 hbc
    have hcs := hbc.size
    have HA := hide ((unhide HA).keep hbc)
    have P1' := P1
    have HA1 := HA0
    clear P1
    have c4 := P2.2 4 _ rfl
    have c5 := P2.2 5 _ rfl
    have hrow0 := owns_below (unhide hown) (bnew wc (.cells #[.string wordB] 9))
    have hs0 : w1.heap.size ≤ (wc.alloc (.cells #[.string wordB] 9)).heap.size := by simp; omega
    have hP0 := P2.keep (bnew wc (.cells #[.string wordB] 9))
    have hB0 := bthen hbc (bnew wc (.cells #[.string wordB] 9))
    have hlt0 := (unhide hown).lt
    have HL0 := hide hlt0
    clear hlt0
    go_upto_region 6 with (first | (at_builtin; refine wpl_append2 rfl (.tmp 27) (.tmp 28) 53 rfl w1.heap.size 9 _ 1 16 Tryd.underlying53 infoS2 rfl (by decide) _ _ _ rfl hrow0 ⟨_, 0, none⟩ 1 1 [.string wordB] rfl rfl (lit_one wc [.string wordB] 9) (by intro v hv; simp at hv; subst hv; rfl) (by unfold maxLen; omega) (by omega) hs0 ?_))
    intro v5 w5 how5 hg5 hv5
    have bl5 := grown_below (B := w1.heap.size) hB0 hg5 (fun q hq => (unhide HL0 q hq).1) (by simp; omega)
    have P3 := hP0.turn (grown_turn hg5) (fun e => by have := (unhide HL0 _ e).1; have := P1'.1; omega)
    have HO5 := hide (show w5.ownsRow w1.heap.size 9 1 v5 3 (cellsS [word1 tr id, word2 st en, wordB]) from how5)
    clear how5 hg5 hv5 hrow0 hs0 hP0 hB0 HL0 c4 c5 hown
    have hP3 := P3.1
    have B3 := bthen B1 bl5
    have c5 := P3.2 5 _ rfl
    have hl6 : l.length ≤ 100 := by omega
    go_wp2
    clear c5
    go_loopw [3, 33] (fun s i wk => ∃ k : Nat, k ≤ l.length ∧ i = .int .i64 k ∧ Hid (wk.ownsRow w1.heap.size 9 1 s (3 + k) (cellsS (wordsK [word1 tr id, word2 st en, wordB] l k))) ∧ Hid (Below w1.heap.size w1 wk)) (fun _ i _ => l.length - (intOf i).toNat)
    case atStart => exact ⟨0, Nat.zero_le _, rfl, hide (by simpa [wordsK] using unhide HO5), hide bl5⟩
    case round =>
      obtain ⟨k, hk, rfl, hgr, hbl⟩ := hrel
      have hbl := unhide hbl
      have hbs := hbl.size
      have hPk : Held wr w.heap.size _ := (P1'.turn (Below.turn hbl) (fun e => e))
      have c5 := hPk.2 5 _ rfl
      by_cases hlt : k < l.length
      · obtain ⟨b, o, rfl, hbk, d0, d1, d2, d3⟩ := ((unhide HA1).keep hbl).at k hlt
        have hwf := (unhide HA1).wf k hlt
        have HSN := hide (show wordsK [word1 tr id, word2 st en, wordB] l (k + 1) = wordsK [word1 tr id, word2 st en, wordB] l k ++ [attrX (l.getD k dA)] by
          unfold wordsK; rw [List.take_succ_eq_append_getElem hlt, List.map_append, ← List.append_assoc]; simp [List.getD_eq_getElem?_getD, List.getElem?_eq_getElem hlt])
        generalize l.getD k dA = x at *
        obtain ⟨kk, bb, nn, tt⟩ := x
        simp only [AttrWf] at d0 d1 d2 d3 hwf
        have hki : (k : Int) < (l.length : Int) := by omega
        go_wp2_with fail
        refine (implAttrText kk bb nn tt _ hwf.1 hwf.2 (htab_keep htab (bthen B1 hbl))).mono ?_
        rintro e w2 ⟨rfl, hb2⟩
        have hrow1 := owns_below (unhide hgr) hb2
        have hlt0 := hrow1.lt
        have HL0 := hide hlt0
        have hbl2 := bthen hbl hb2
        have hs2 := hbl2.size
        have hrow2 := owns_below hrow1 (bnew w2 (.cells #[.string (attrT kk bb nn tt)] 9))
        have hs0 : w1.heap.size ≤ (w2.alloc (.cells #[.string (attrT kk bb nn tt)] 9)).heap.size := by simp; omega
        have hB2 := bthen hbl2 (bnew w2 (.cells #[.string (attrT kk bb nn tt)] 9))
        clear hlt0 hgr hrow1 d0 d1 d2 d3 c5 hPk
        go_wp2_with (first | (at_builtin; refine wpl_append2 rfl (.tmp 36) (.tmp 43) 53 rfl w1.heap.size 9 _ 1 16 Tryd.underlying53 infoS2 rfl (by decide) _ _ _ rfl hrow2 ⟨_, 0, none⟩ 1 1 [.string (attrT kk bb nn tt)] rfl rfl (lit_one w2 [.string (attrT kk bb nn tt)] 9) (by intro v hv; simp at hv; subst hv; rfl) (by unfold maxLen; omega) (by omega) hs0 ?_))
        intro v' w' how hg hv
        have bl1 := grown_below (B := w1.heap.size) hB2 hg (fun q hq => (unhide HL0 q hq).1) (by simp; omega)
        have HO := hide how
        clear how hg hv hrow2 hs0 hB2 HL0
        go_wp2
        go_roundw
        case rel => exact ⟨k + 1, by omega, by go_num, hide (by rw [unhide HSN, cellsS_app]; exact unhide HO), hide bl1⟩
        case measure => simp [intOf]; omega
      · have hki : ¬ (k : Int) < (l.length : Int) := by omega
        have e : wordsK [word1 tr id, word2 st en, wordB] l k = [word1 tr id, word2 st en, wordB] ++ l.map attrX := by unfold wordsK; rw [List.take_of_length_le (by omega)]
        have hgr := unhide hgr
        rw [e] at hgr
        clear e
        have HW := hide (words_yes tr id st en l)
        have hd := headT_size tr id st en (by omega) (by omega) (by omega) (by omega)
        have hrs := restT_size (headT tr id st en ++ failT) l
        rw [ByteArray.size_append, show failT.size = 7 from rfl] at hrs
        have hxl : ([word1 tr id, word2 st en, wordB] ++ l.map attrX).length ≤ 140737488355328 := by simp; omega
        generalize hXS : [word1 tr id, word2 st en, wordB] ++ l.map attrX = xs at *
        clear hXS
        have hjl : (Lib.join (xs.map (·.data.toList)) (⟨#[32]⟩ : ByteArray).data.toList).length ≤ 140737488355328 := by
          rw [← size_len, unhide HW]; omega
        obtain ⟨g, cap2, hv, hgl, hcap, hcells⟩ := own_strs hgr (by omega)
        subst hv
        have HC := hide hcells
        have HJ := hide hjl
        clear hcells hjl hgr hrs hd
        go_wp2_with fail
        refine (Tryd.strings_Join g 0 cap2 xs ⟨#[32]⟩ _ (unhide HC) hgl hxl hcap (unhide HJ)).mono ?_
        rintro e w3 ⟨rfl, hb3⟩
        rw [unhide HW]
        go_wp2
        go_ret
        exact ⟨rfl, bthen (bthen B1 hbl) hb3⟩
end Go.Proofs.YtchinpgjaddnkaaDoor
