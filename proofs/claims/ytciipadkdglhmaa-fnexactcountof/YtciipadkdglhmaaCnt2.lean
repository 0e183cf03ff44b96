/-
  CountOf of the program.
-/
import Derived.Test.YtciipadkdglhmaaCnt1
import Derived.Test.YtciipadkdglhmaaAWorld
import Derived.Test.YtciipadkdglhmaaACount
import Derived.Test.YtciipadkdglhmaaToSt
namespace Go.Proofs.Ytciipadkdglhmaa
open Go.ChangeShapes Go.WideShapes Go.ChangeAt Go.RowKit
set_option linter.unusedVariables false
set_option maxRecDepth 100000

def countC (n : CountD) : List Value := [.int .i64 n.came, .int .i64 n.went, .int .i64 n.moving, .int .i64 n.held, .int .i64 n.dropped]
theorem countC_one (n : CountD) : One (countC n) := by
  intro v hv
  simp only [countC, List.mem_cons, List.not_mem_nil, or_false] at hv
  rcases hv with rfl | rfl | rfl | rfl | rfl <;> rfl
def countOf (x : WorldD) : CountD := ⟨sumI (fun d => one (takenB d)) x.deeds, (x.out.length : Int), IntKind.i64.wrap ((x.queue.length : Int) + sumI handL x.tasks), heldN x.st, sumI lostG x.deeds⟩
theorem heldB {B : Nat} {w w' : World} {b : Nat} {vs : List Value} (h : Held w b vs) (hb : Below B w w') (hB : b < B) : Held w' b vs :=
  ⟨Nat.lt_of_lt_of_le h.1 hb.size, fun i v hv => by rw [hb.cell (p := ⟨b, i, none⟩) hB]; exact h.2 i v hv⟩
/-- What stays while a struct of five is worked out behind two blocks. -/
def SC (w w0 w' : World) : Prop := Below (w.heap.size + 1) w0 w' ∧ WrAt w' (w.heap.size + 1) 0 5 ∧ w.heap.size + 2 ≤ w'.heap.size
theorem SC.call {w w0 a b : World} (h : SC w w0 a) (hb : Below a.heap.size a b) : SC w w0 b :=
  ⟨h.1.trans (hb.mono (by have := h.2.2; omega)), h.2.1.keep hb, by have := h.2.2; have := hb.size; omega⟩
theorem SC.low {w w0 a : World} (h : SC w w0 a) (hb : Below w.heap.size w w0) : Below w.heap.size w a := hb.trans (h.1.mono (by omega))
theorem wp_storeH {P : Program} {op : Oper} {a : Act} {w : World} {K : Act → World → Prop} {Q : Exit → Act → World → Prop} (ty : TypeId) (x y : Operand) (ho : op.op = .store ty x y)
    (b o : Nat) (cs : List Value) (hx : a.eval x = .pointer (some ⟨b, o, none⟩)) (hy : a.eval y = .agg cs.toArray) (hw : WrAt w b o cs.length) (h1 : One cs) (hi : RowT P ty cs.length)
    (h : K (a.put op.dst undef) (putL b o cs 0 w)) : op.wp P a w K Q := by
  obtain ⟨d, hu, hd, hi⟩ := hi
  refine wp_store_mid ty x y ho b o cs.toArray hx hy (fun j hj => hw.2 j (by simpa using hj)) (by simpa using hi) (all_oneCell_toArray h1) ?_
  have e : ∀ (vs : List Value) (j : Nat) (w : World), w.setCells b (o + j) vs = putL b o vs j w := by
    intro vs
    induction vs with
    | nil => intro j w; rfl
    | cons v r ih => intro j w; exact ih (j + 1) _
  have e0 := e cs 0 w
  rw [Nat.add_zero] at e0
  simpa [e0] using h
theorem rowCnt : RowT Try.prog 42 5 := ⟨_, Try.underlying42, rfl, by kernel_rfl⟩
theorem plDeedS : PlainT Try.prog 58 := fun w a v h => by simp [loadVar, go_sem, h]
theorem plItemS : PlainT Try.prog 56 := fun w a v h => by simp [loadVar, go_sem, h]
theorem plTaskS : PlainT Try.prog 57 := fun w a v h => by simp [loadVar, go_sem, h]
theorem plStripeS : PlainT Try.prog 49 := fun w a v h => by simp [loadVar, go_sem, h]
set_option maxHeartbeats 8000000 in
theorem implCountOf (x : WorldD) (S0 : Nat → Prop) (c0 : List Value) (w : World) (h0 : worldR w S0 c0 x) (b0 : worldBulk x ≤ 1048576) :
    Calls Try.prog 7 #[.agg c0.toArray] w fun e w' => e = .returned (.agg (countC (countOf x)).toArray) ∧ Below w.heap.size w w' := by
  have P0 := (Held.new w c0 60).keep (bnew _ (.cells #[.int .i64 0, .int .i64 0, .int .i64 0, .int .i64 0, .int .i64 0] 42))
  have B0 := bthen (bnew w (.cells c0.toArray 60)) (bnew _ (.cells #[.int .i64 0, .int .i64 0, .int .i64 0, .int .i64 0, .int .i64 0] 42))
  obtain ⟨aD, kD, hcD, hD⟩ := worldR_c30 h0
  obtain ⟨aT, kT, hcT, hT⟩ := worldR_c29 h0
  obtain ⟨aO, kO, hcO, hO⟩ := worldR_c28 h0
  obtain ⟨aQ, kQ, hcQ, hQ⟩ := worldR_c27 h0
  obtain ⟨aS, kS, hcS, hS⟩ := worldR_c14 h0
  have HCD := hide hcD
  have HCT := hide hcT
  have HCO := hide hcO
  have HCQ := hide hcQ
  have HCS := hide hcS
  have HD := hide hD
  have HT := hide hT
  have HS := hide hS
  have bD : bulkL deedBulk x.deeds ≤ 1048576 := by unfold worldBulk at b0; omega
  have bT : bulkL taskBulk x.tasks ≤ 1048576 := by unfold worldBulk at b0; omega
  have bS : bulkL stripeBulk x.st ≤ 1048576 := by unfold worldBulk at b0; omega
  have lD := bulkL_len deedBulk x.deeds
  have lT := bulkL_len taskBulk x.tasks
  have lS := bulkL_len stripeBulk x.st
  have lO := hO.len
  have lQ := hQ.len
  have hwr : WrAt ((w.alloc (.cells c0.toArray 60)).alloc (.cells #[.int .i64 0, .int .i64 0, .int .i64 0, .int .i64 0, .int .i64 0] 42)) (w.heap.size + 1) 0 5 := by
    have h := WrAt.new (w.alloc (.cells c0.toArray 60)) #[.int .i64 0, .int .i64 0, .int .i64 0, .int .i64 0, .int .i64 0] 42 5 rfl
    rwa [show (w.alloc (.cells c0.toArray 60)).heap.size = w.heap.size + 1 by simp] at h
  clear h0 hcD hcT hcO hcQ hcS hD hT hO hQ hS b0
  go_enter Try.func7, Try.ntmps7
  go_upto_region 1 with fail
  generalize hW : World.alloc (World.alloc w _) _ = w0 at *
  have hsz : w.heap.size + 2 ≤ w0.heap.size := by rw [← hW]; simp
  clear hW
  refine wp_region_held_drew (S := fun w' => SC w w0 w') (by kernel_rfl) (show SC w w0 w0.drew from ⟨Below.drew (Below.refl _ _), hwr.turn (Below.turn (Below.drew (Below.refl _ _))) (fun e => e), hsz⟩) (fun hHeld => ?_)
  refine wpAnyH_take (i := 0) (oi := ?oo1) (v := ?vv1) ?hi1 (by kernel_rfl) (by kernel_rfl) (by kernel_rfl) ?hQ1 ?hy1 (by assumption) ?rest1
  case hi1 => (simp only [List.getElem?_toArray, List.getElem?_cons_zero]; rfl)
  case hQ1 => exact fun _ _ _ h => h
  case hy1 => exact Or.inl ⟨by rfl, by intro wS hSw; (try dsimp only at hSw); go_simp; try first | (with_reducible rfl) | (simp only [*]; done) | omega⟩
  try simp only [Act.put, List.setIfInBounds_toArray, List.set_cons_zero, List.set_cons_succ]
  refine wpAnyH_take (i := 1) (oi := ?oo2) (v := .slice aD x.deeds.length kD) ?hi2 (by kernel_rfl) (by kernel_rfl) (by kernel_rfl) ?hQ2 ?hy2 (by assumption) ?rest2
  case hi2 => (simp only [List.getElem?_toArray, List.getElem?_cons_zero, List.getElem?_cons_succ]; rfl)
  case hQ2 => exact fun _ _ _ h => h
  case hy2 => exact yld_cell (by rfl) _ _ rfl _ _ rfl _ (fun w' hS => (heldB P0 hS.1 (by omega)).2 30 _ (unhide HCD)) plDeedS
  try simp only [Act.put, List.setIfInBounds_toArray, List.set_cons_zero, List.set_cons_succ]
  refine wpAnyH_take (i := 3) (oi := ?oo3) (v := ?vv3) ?hi3 (by kernel_rfl) (by kernel_rfl) (by kernel_rfl) ?hQ3 ?hy3 (by assumption) ?rest3
  case hi3 => (simp only [List.getElem?_toArray, List.getElem?_cons_zero, List.getElem?_cons_succ]; rfl)
  case hQ3 => exact fun _ _ _ h => h
  case hy3 => exact Or.inl ⟨by rfl, by intro wS hSw; (try dsimp only at hSw); go_simp; try first | (with_reducible rfl) | (simp only [*]; done) | omega⟩
  try simp only [Act.put, List.setIfInBounds_toArray, List.set_cons_zero, List.set_cons_succ]
  refine wpAnyH_take (i := 4) (oi := ?oo4) (v := .slice aO x.out.length kO) ?hi4 (by kernel_rfl) (by kernel_rfl) (by kernel_rfl) ?hQ4 ?hy4 (by assumption) ?rest4
  case hi4 => (simp only [List.getElem?_toArray, List.getElem?_cons_zero, List.getElem?_cons_succ]; rfl)
  case hQ4 => exact fun _ _ _ h => h
  case hy4 => exact yld_cell (by rfl) _ _ rfl _ _ rfl _ (fun w' hS => (heldB P0 hS.1 (by omega)).2 28 _ (unhide HCO)) plItemS
  try simp only [Act.put, List.setIfInBounds_toArray, List.set_cons_zero, List.set_cons_succ]
  refine wpAnyH_take (i := 5) (oi := ?oo5) (v := ?vv5) ?hi5 (by kernel_rfl) (by kernel_rfl) (by kernel_rfl) ?hQ5 ?hy5 (by assumption) ?rest5
  case hi5 => (simp only [List.getElem?_toArray, List.getElem?_cons_zero, List.getElem?_cons_succ]; rfl)
  case hQ5 => exact fun _ _ _ h => h
  case hy5 => exact Or.inl ⟨by rfl, by intro wS hSw; (try dsimp only at hSw); go_simp; try first | (with_reducible rfl) | (simp only [*]; done) | omega⟩
  try simp only [Act.put, List.setIfInBounds_toArray, List.set_cons_zero, List.set_cons_succ]
  refine wpAnyH_take (i := 6) (oi := ?oo6) (v := ?vv6) ?hi6 (by kernel_rfl) (by kernel_rfl) (by kernel_rfl) ?hQ6 ?hy6 (by assumption) ?rest6
  case hi6 => (simp only [List.getElem?_toArray, List.getElem?_cons_zero, List.getElem?_cons_succ]; rfl)
  case hQ6 => exact fun _ _ _ h => h
  case hy6 => exact Or.inl ⟨by rfl, by intro wS hSw; (try dsimp only at hSw); go_simp; try first | (with_reducible rfl) | (simp only [*]; done) | omega⟩
  try simp only [Act.put, List.setIfInBounds_toArray, List.set_cons_zero, List.set_cons_succ]
  refine wpAnyH_take (i := 7) (oi := ?oo7) (v := .slice aQ x.queue.length kQ) ?hi7 (by kernel_rfl) (by kernel_rfl) (by kernel_rfl) ?hQ7 ?hy7 (by assumption) ?rest7
  case hi7 => (simp only [List.getElem?_toArray, List.getElem?_cons_zero, List.getElem?_cons_succ]; rfl)
  case hQ7 => exact fun _ _ _ h => h
  case hy7 => exact yld_cell (by rfl) _ _ rfl _ _ rfl _ (fun w' hS => (heldB P0 hS.1 (by omega)).2 27 _ (unhide HCQ)) plItemS
  try simp only [Act.put, List.setIfInBounds_toArray, List.set_cons_zero, List.set_cons_succ]
  refine wpAnyH_take (i := 8) (oi := ?oo8) (v := ?vv8) ?hi8 (by kernel_rfl) (by kernel_rfl) (by kernel_rfl) ?hQ8 ?hy8 (by assumption) ?rest8
  case hi8 => (simp only [List.getElem?_toArray, List.getElem?_cons_zero, List.getElem?_cons_succ]; rfl)
  case hQ8 => exact fun _ _ _ h => h
  case hy8 => exact Or.inl ⟨by rfl, by intro wS hSw; (try dsimp only at hSw); go_simp; try first | (with_reducible rfl) | (simp only [*]; done) | omega⟩
  try simp only [Act.put, List.setIfInBounds_toArray, List.set_cons_zero, List.set_cons_succ]
  refine wpAnyH_take (i := 9) (oi := ?oo9) (v := ?vv9) ?hi9 (by kernel_rfl) (by kernel_rfl) (by kernel_rfl) ?hQ9 ?hy9 (by assumption) ?rest9
  case hi9 => (simp only [List.getElem?_toArray, List.getElem?_cons_zero, List.getElem?_cons_succ]; rfl)
  case hQ9 => exact fun _ _ _ h => h
  case hy9 => exact Or.inl ⟨by rfl, by intro wS hSw; (try dsimp only at hSw); go_simp; try first | (with_reducible rfl) | (simp only [*]; done) | omega⟩
  try simp only [Act.put, List.setIfInBounds_toArray, List.set_cons_zero, List.set_cons_succ]
  refine wpAnyH_take (i := 10) (oi := ?oo10) (v := .slice aT x.tasks.length kT) ?hi10 (by kernel_rfl) (by kernel_rfl) (by kernel_rfl) ?hQ10 ?hy10 (by assumption) ?rest10
  case hi10 => (simp only [List.getElem?_toArray, List.getElem?_cons_zero, List.getElem?_cons_succ]; rfl)
  case hQ10 => exact fun _ _ _ h => h
  case hy10 => exact yld_cell (by rfl) _ _ rfl _ _ rfl _ (fun w' hS => (heldB P0 hS.1 (by omega)).2 29 _ (unhide HCT)) plTaskS
  try simp only [Act.put, List.setIfInBounds_toArray, List.set_cons_zero, List.set_cons_succ]
  refine wpAnyH_take (i := 13) (oi := ?oo11) (v := ?vv11) ?hi11 (by kernel_rfl) (by kernel_rfl) (by kernel_rfl) ?hQ11 ?hy11 (by assumption) ?rest11
  case hi11 => (simp only [List.getElem?_toArray, List.getElem?_cons_zero, List.getElem?_cons_succ]; rfl)
  case hQ11 => exact fun _ _ _ h => h
  case hy11 => exact Or.inl ⟨by rfl, by intro wS hSw; (try dsimp only at hSw); go_simp; try first | (with_reducible rfl) | (simp only [*]; done) | omega⟩
  try simp only [Act.put, List.setIfInBounds_toArray, List.set_cons_zero, List.set_cons_succ]
  refine wpAnyH_take (i := 14) (oi := ?oo12) (v := .slice aS x.st.length kS) ?hi12 (by kernel_rfl) (by kernel_rfl) (by kernel_rfl) ?hQ12 ?hy12 (by assumption) ?rest12
  case hi12 => (simp only [List.getElem?_toArray, List.getElem?_cons_zero, List.getElem?_cons_succ]; rfl)
  case hQ12 => exact fun _ _ _ h => h
  case hy12 => exact yld_cell (by rfl) _ _ rfl _ _ rfl _ (fun w' hS => (heldB P0 hS.1 (by omega)).2 14 _ (unhide HCS)) plStripeS
  try simp only [Act.put, List.setIfInBounds_toArray, List.set_cons_zero, List.set_cons_succ]
  refine wpAnyH_take (i := 16) (oi := ?oo13) (v := ?vv13) ?hi13 (by kernel_rfl) (by kernel_rfl) (by kernel_rfl) ?hQ13 ?hy13 (by assumption) ?rest13
  case hi13 => (simp only [List.getElem?_toArray, List.getElem?_cons_zero, List.getElem?_cons_succ]; rfl)
  case hQ13 => exact fun _ _ _ h => h
  case hy13 => exact Or.inl ⟨by rfl, by intro wS hSw; (try dsimp only at hSw); go_simp; try first | (with_reducible rfl) | (simp only [*]; done) | omega⟩
  try simp only [Act.put, List.setIfInBounds_toArray, List.set_cons_zero, List.set_cons_succ]
  refine wpAnyH_take (i := 17) (oi := ?oo14) (v := .slice aD x.deeds.length kD) ?hi14 (by kernel_rfl) (by kernel_rfl) (by kernel_rfl) ?hQ14 ?hy14 (by assumption) ?rest14
  case hi14 => (simp only [List.getElem?_toArray, List.getElem?_cons_zero, List.getElem?_cons_succ]; rfl)
  case hQ14 => exact fun _ _ _ h => h
  case hy14 => exact yld_cell (by rfl) _ _ rfl _ _ rfl _ (fun w' hS => (heldB P0 hS.1 (by omega)).2 30 _ (unhide HCD)) plDeedS
  try simp only [Act.put, List.setIfInBounds_toArray, List.set_cons_zero, List.set_cons_succ]
  refine wpAnyH_ready (rs := [2]) (by kernel_rfl) (by simp) ?_
  refine (AllReadyH.cons (o := ?bo15n2) ?bh15n2 (fun K hK => ?br15n2) AllReadyH.nil)
  case bh15n2 => (simp only [List.getElem?_toArray, List.getElem?_cons_zero, List.getElem?_cons_succ]; rfl)
  case br15n2 =>
    go_simp
    refine (implHowMany x.deeds S0 _ _ ((unhide HD).keep deedR_keeps (hHeld.low B0)) bD 28 #[] takenB (enters_of Try.func28 (by kernel_rfl) rfl) ?_).mono ?_
    · intro X S cs w1 hb1 hx hX
      exact implTaken X S cs w1 hx hX
    rintro e wq1 ⟨rfl, hbq1⟩
    have hHq1 := hHeld.call hbq1
    clear hHeld
    go_wp2_with fail
    refine hK.out _ _ (hHq1) (fun hHeld => ?_)
    clear hK
    refine wpAnyH_ready (rs := [11]) (by kernel_rfl) (by simp) ?_
    refine (AllReadyH.cons (o := ?bo16n11) ?bh16n11 (fun K hK => ?br16n11) AllReadyH.nil)
    case bh16n11 => (simp only [List.getElem?_toArray, List.getElem?_cons_zero, List.getElem?_cons_succ]; rfl)
    case br16n11 =>
      go_simp
      refine (implAddedUpTask x.tasks S0 _ _ ((unhide HT).keep taskR_keeps (hHeld.low B0)) bT 30 #[] handL (by omega) (enters_of Try.func30 (by kernel_rfl) rfl) ?_).mono ?_
      · intro X S cs w1 hb1 hx hX
        exact implCO1 X S cs w1 hx hX
      rintro e wq2 ⟨rfl, hbq2⟩
      have hHq2 := hHeld.call hbq2
      clear hHeld
      go_wp2_with fail
      refine hK.out _ _ (hHq2) (fun hHeld => ?_)
      clear hK
      refine wpAnyH_take (i := 12) (oi := ?oo17) (v := ?vv17) ?hi17 (by kernel_rfl) (by kernel_rfl) (by kernel_rfl) ?hQ17 ?hy17 (by assumption) ?rest17
      case hi17 => (simp only [List.getElem?_toArray, List.getElem?_cons_zero, List.getElem?_cons_succ]; rfl)
      case hQ17 => exact fun _ _ _ h => h
      case hy17 => exact Or.inl ⟨by rfl, by intro wS hSw; (try dsimp only at hSw); go_simp; try first | (with_reducible rfl) | (simp only [*]; done) | omega⟩
      try simp only [Act.put, List.setIfInBounds_toArray, List.set_cons_zero, List.set_cons_succ]
      refine wpAnyH_ready (rs := [15]) (by kernel_rfl) (by simp) ?_
      refine (AllReadyH.cons (o := ?bo18n15) ?bh18n15 (fun K hK => ?br18n15) AllReadyH.nil)
      case bh18n15 => (simp only [List.getElem?_toArray, List.getElem?_cons_zero, List.getElem?_cons_succ]; rfl)
      case br18n15 =>
        go_simp
        refine (implThings x.st S0 _ _ ((unhide HS).keep stripeR_keeps (hHeld.low B0)) bS).mono ?_
        rintro e wq3 ⟨rfl, hbq3⟩
        have hHq3 := hHeld.call hbq3
        clear hHeld
        go_wp2_with fail
        refine hK.out _ _ (hHq3) (fun hHeld => ?_)
        clear hK
        refine wpAnyH_ready (rs := [18]) (by kernel_rfl) (by simp) ?_
        refine (AllReadyH.cons (o := ?bo19n18) ?bh19n18 (fun K hK => ?br19n18) AllReadyH.nil)
        case bh19n18 => (simp only [List.getElem?_toArray, List.getElem?_cons_zero, List.getElem?_cons_succ]; rfl)
        case br19n18 =>
          go_simp
          refine (implAddedUpDeed x.deeds S0 _ _ ((unhide HD).keep deedR_keeps (hHeld.low B0)) bD 33 #[] lostG (by omega) (enters_of Try.func33 (by kernel_rfl) rfl) ?_).mono ?_
          · intro X S cs w1 hb1 hx hX
            exact implLost X S cs w1 hx hX
          rintro e wq4 ⟨rfl, hbq4⟩
          have hHq4 := hHeld.call hbq4
          clear hHeld
          go_wp2_with fail
          refine hK.out _ _ (hHq4) (fun hHeld => ?_)
          clear hK
          refine wpAnyH_take (i := 19) (oi := ?oo20) (v := .agg (countC (countOf x)).toArray) ?hi20 (by kernel_rfl) (by kernel_rfl) (by kernel_rfl) ?hQ20 ?hy20 (by assumption) ?rest20
          case hi20 => (simp only [List.getElem?_toArray, List.getElem?_cons_zero, List.getElem?_cons_succ]; rfl)
          case hQ20 => exact fun _ _ _ h => h
          case hy20 => exact Or.inl ⟨by rfl, by intro wS hSw; (try dsimp only at hSw); go_simp; rfl⟩
          try simp only [Act.put, List.setIfInBounds_toArray, List.set_cons_zero, List.set_cons_succ]
          refine wpAnyH_ready (rs := [20]) (by kernel_rfl) (by simp) ?_
          refine (AllReadyH.cons (o := ?bo21n20) ?bh21n20 (fun K hK => ?br21n20) AllReadyH.nil)
          case bh21n20 => (simp only [List.getElem?_toArray, List.getElem?_cons_zero, List.getElem?_cons_succ]; rfl)
          case br21n20 =>
            rw [if_pos (by rfl)]
            refine wp_storeH _ _ _ rfl (w.heap.size + 1) 0 (countC (countOf x)) rfl rfl hHeld.2.1 (countC_one _) rowCnt ?_
            have hfin := putL_at (b := w.heap.size + 1) (o := 0) (countC (countOf x)) 0 hHeld.2.1 (by omega) (by simp [countC])
            have HFIN := hide hfin
            have hSn : SC w w0 (putL (w.heap.size + 1) 0 (countC (countOf x)) 0 _) := ⟨hHeld.1.trans ((putL_turn _ _ _ _ _).belowFrom (by have := hHeld.2.2; omega) (fun k hk => by subst hk; exact Nat.le_refl _)), putL_wr _ _ hHeld.2.1, Nat.le_trans hHeld.2.2 (putL_turn _ _ _ _ _).size⟩
            clear hfin hHeld
            refine hK.out _ _ (hSn) (fun hHeld => ?_)
            clear hK
            refine wpAnyH_done (by kernel_rfl) ?_ _
            go_wp2_with fail
            refine bodyPost_ret (v := .agg (countC (countOf x)).toArray) (res_row (t := 2) (cs := countC (countOf x)) rfl rfl (unhide HFIN) rowCnt) rfl ⟨rfl, hHeld.low B0⟩
end Go.Proofs.Ytciipadkdglhmaa
