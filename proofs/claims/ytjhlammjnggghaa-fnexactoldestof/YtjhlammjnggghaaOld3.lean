/-
  OldestOf of the specification: the best one so far lies in a box.
-/
import Derived.Test.YtjhlammjnggghaaOld2
import Derived.Test.YtjhlammjnggghaaTrl1
namespace Go.Proofs.Ytjhlammjnggghaa
open Go.ChangeShapes Go.WideShapes Go.ChangeAt Go.RowKit Go.Sort
set_option linter.unusedVariables false
set_option maxRecDepth 100000

def noO : TrailD := ⟨0, 0, 0, []⟩
def BestAt (S : Nat → Prop) (w0 wk : World) (bb : Nat) (b : Option TrailD) : Prop := ∃ cs, Held wk bb cs ∧ WrAt wk bb 0 4 ∧ cs.length = 4 ∧ One cs ∧ trailR w0 S cs (b.getD noO) ∧ trailBulk (b.getD noO) ≤ 1048576
theorem BestAt.keep {S : Nat → Prop} {w0 wk w' : World} {bb : Nat} {b : Option TrailD} (h : BestAt S w0 wk bb b) (hb : Below wk.heap.size wk w') : BestAt S w0 w' bb b := by
  obtain ⟨cs, h1, h2, h3⟩ := h
  exact ⟨cs, h1.keep hb, h2.keep hb, h3⟩
theorem foldb_snoc {s : Option TrailD} {l : List TrailD} {k : Nat} (h : k < l.length) : (l.take (k + 1)).foldl bstep s = bstep ((l.take k).foldl bstep s) l[k] := by
  rw [List.take_succ_eq_append_getElem h, List.foldl_append]
  simp
theorem flatb_snoc {l : List StripeD} {k : Nat} (h : k < l.length) : ((l.take (k + 1)).flatMap StripeD.l).foldl bstep none = (l[k].l).foldl bstep (((l.take k).flatMap StripeD.l).foldl bstep none) := by
  rw [List.take_succ_eq_append_getElem h, List.flatMap_append, List.foldl_append]
  simp
/-- A trail is put into the box. -/
theorem BestAt.put {S : Nat → Prop} {w0 wk : World} {bb : Nat} {b b' : Option TrailD} (h : BestAt S w0 wk bb b) {ds : List Value} (h4 : ds.length = 4) (h1 : One ds) (hr : trailR w0 S ds (b'.getD noO)) (hb : trailBulk (b'.getD noO) ≤ 1048576) : BestAt S w0 (putL bb 0 ds 0 wk) bb b' := by
  obtain ⟨cs, hh, hw, _⟩ := h
  refine ⟨ds, ⟨Nat.lt_of_lt_of_le hh.1 (putL_turn bb 0 ds 0 wk).size, fun i v hv => ?_⟩, putL_wr _ _ hw, h4, h1, hr, hb⟩
  have := putL_at (b := bb) (o := 0) ds 0 hw (by omega) (by omega) i v hv
  simp only [Nat.zero_add] at this
  exact this
set_option maxHeartbeats 8000000 in
theorem specOldestOf (l : List StripeD) (S : Nat → Prop) (v : Value) (w : World) (h0 : LAt 2 stripeR w S v l) (b0 : bulkL stripeBulk l ≤ 1048576) :
    Calls Try.prog 23 #[v] w fun e w' => ∃ cs', e = .returned (.tuple #[.agg cs'.toArray, .bool (oldB l)]) ∧ trailO w' (Within w.heap.size w'.heap.size) cs' (oldT l) ∧ Below w.heap.size w w' := by
  obtain ⟨a, cap, rfl⟩ := h0.form
  have hl := h0.len
  have B1 := bnew w (.cells #[.int .i64 0, .int .i64 0, .int .i64 0, .slice none 0 0] 44)
  have R1 := WrAt.new w #[.int .i64 0, .int .i64 0, .int .i64 0, .slice none 0 0] 44 4 rfl
  have hs1 : (w.alloc (.cells #[.int .i64 0, .int .i64 0, .int .i64 0, .slice none 0 0] 44)).heap.size = w.heap.size + 1 := by simp
  have HA := hide (h0.keep stripeR_keeps B1)
  clear h0
  go_enter Try.func23, Try.ntmps23
  go_upto_region 1 with fail
  generalize World.alloc w _ = w1 at *
  have b2 := bnew w1 (.cells #[.int .i64 0, .int .i64 0, .int .i64 0, .slice none 0 0] 44)
  have P2 := Held.new w1 [.int .i64 0, .int .i64 0, .int .i64 0, .slice none 0 0] 44
  have hbt : BestAt S w1 (w1.alloc (.cells #[.int .i64 0, .int .i64 0, .int .i64 0, .slice none 0 0] 44)) w1.heap.size none := ⟨[.int .i64 0, .int .i64 0, .int .i64 0, .slice none 0 0], P2, WrAt.new w1 #[.int .i64 0, .int .i64 0, .int .i64 0, .slice none 0 0] 44 4 rfl, rfl, (by intro v hv; simp only [List.mem_cons, List.not_mem_nil, or_false] at hv; rcases hv with rfl | rfl | rfl | rfl <;> rfl), no_trailO _ _, by simp [noO, trailBulk, bulkL]⟩
  have HBT := hide hbt
  clear P2 hbt
  go_upto_region 2 with (first | (refine wpl_store_new rfl _ _ _ rfl _ [.int .i64 0, .int .i64 0, .int .i64 0, .slice none 0 0] rfl rfl ?_ (by intro v hv; simp only [List.mem_cons, List.not_mem_nil, or_false] at hv; rcases hv with rfl | rfl | rfl | rfl <;> rfl) rowITrail ?_; rfl))
  generalize World.alloc w1 _ = w2 at *
  obtain ⟨bb, hbb⟩ : ∃ bb, bb = w.heap.size + 1 := ⟨_, rfl⟩
  have HBT2 : Hid (BestAt S w1 w2 bb none) := hide (by rw [show bb = w1.heap.size by omega]; exact unhide HBT)
  have HBB : Hid (w1.heap.size ≤ bb) := hide (by omega)
  rw [← hbb]
  clear HBT hbb hs1
  go_wp2
  go_loopw [5, 6] (fun f i wk => ∃ k : Nat, k ≤ l.length ∧ i = .int .i64 k ∧ f = .bool (((l.take k).flatMap StripeD.l).foldl bstep none).isSome ∧ Hid (BestAt S w1 wk bb (((l.take k).flatMap StripeD.l).foldl bstep none)) ∧ Below w1.heap.size w1 wk) (fun _ i _ => l.length - (intOf i).toNat)
  case atStart => exact ⟨0, Nat.zero_le _, rfl, rfl, HBT2, b2⟩
  case round =>
    obtain ⟨k, hk, rfl, rfl, hbt, hbl⟩ := hrel
    clear HBT2 b2
    by_cases hlt : k < l.length
    · have hki : (k : Int) < (l.length : Int) := by omega
      obtain ⟨b, q, cs, rfl, hbk, hSb, hcs, hin⟩ := (unhide HA).at k hlt
      have hXb : stripeBulk l[k] ≤ 1048576 := by have := bulkL_mem stripeBulk (List.getElem_mem hlt); omega
      have HSN := hide (flatb_snoc hlt)
      generalize l[k] = X at *
      obtain ⟨a1, k1, z1, g1⟩ := stripeR_c1 hcs
      have HC := hide (And.intro hbk (hin 1 _ z1))
      have HG := hide g1
      have hl1 := g1.len
      clear hcs hin z1 g1
      generalize hB0 : ((l.take k).flatMap StripeD.l).foldl bstep none = B0 at *
      clear hB0
      go_wp2
      go_loopw [5, 7] (fun f i wk => ∃ j : Nat, j ≤ X.l.length ∧ i = .int .i64 j ∧ f = .bool ((X.l.take j).foldl bstep B0).isSome ∧ Hid (BestAt S w1 wk bb ((X.l.take j).foldl bstep B0)) ∧ Below w1.heap.size w1 wk) (fun _ i _ => X.l.length - (intOf i).toNat)
      case atStart => exact ⟨0, Nat.zero_le _, rfl, rfl, hbt, hbl⟩
      case round =>
        obtain ⟨j, hj, rfl, rfl, hbt2, hbl2⟩ := hrel
        clear hbt hbl
        have cc : wr.cell? ⟨b, q + k * 2 + 1, none⟩ = some (.slice a1 X.l.length k1) := by rw [hbl2.cell (unhide HC).1]; exact (unhide HC).2
        have hbw : b < wr.heap.size := Nat.lt_of_lt_of_le (unhide HC).1 hbl2.size
        by_cases hlt2 : j < X.l.length
        · have hji : (j : Int) < (X.l.length : Int) := by omega
          obtain ⟨c, r, ds, rfl, hck, hSc, hds0, hjn0⟩ := (unhide HG).at j hlt2
          have hjn := hjn0.turn hck (Below.turn hbl2) (fun e => e)
          have hcw : c < wr.heap.size := Nat.lt_of_lt_of_le hck hbl2.size
          have hYb : trailBulk X.l[j] ≤ 1048576 := by have := bulkL_mem trailBulk (List.getElem_mem hlt2); unfold stripeBulk at hXb; omega
          have hrw : RowT Try.prog 44 ds.length := by rw [trailR_len hds0]; exact rowITrail
          have HTS := hide (foldb_snoc (s := B0) hlt2)
          generalize X.l[j] = Y at *
          have on2 := trailR_one hds0
          have HL2 := hide (trailR_len hds0)
          have HD := hide hds0
          clear hjn0 hds0
          generalize hC0 : (X.l.take j).foldl bstep B0 = C0 at *
          clear hC0
          have mixed : Try.prog.follows .mixedOrders = true := by kernel_rfl
          obtain ⟨cs9, P9, W9, l9, on9, r9, bk9⟩ := unhide hbt2
          have hrw9 : RowT Try.prog 44 cs9.length := by rw [l9]; exact rowITrail
          have P9b := P9.inB
          have hP9 := P9.1
          cases C0 with
          | none =>
            have HT1 : Hid (bstep none Y = some Y) := hide rfl
            simp only [Option.isSome_none]
            clear P9 r9 bk9 on9 l9 W9
            go_upto_region 9 with fail
            refine wq_region (by assumption) (by kernel_rfl) ?_
            refine q_take (by kernel_rfl) (fun K hK => ?_)
            go_simp
            refine hK _ ?_
            clear hK K
            refine q_take (by kernel_rfl) (fun K hK => ?_)
            go_simp
            refine hK _ ?_
            clear hK K
            refine q_take (by kernel_rfl) (fun K hK => ?_)
            go_simp
            refine hK _ ?_
            clear hK K
            refine q_skipK (by kernel_rfl) (fun K hK => ?_)
            simp only [Act.put, List.setIfInBounds_toArray, List.set_cons_zero, List.set_cons_succ]
            refine hK _ ?_
            clear hK K
            refine q_skipK (by kernel_rfl) (fun K hK => ?_)
            simp only [Act.put, List.setIfInBounds_toArray, List.set_cons_zero, List.set_cons_succ]
            refine hK _ ?_
            clear hK K
            refine q_skipK (by kernel_rfl) (fun K hK => ?_)
            simp only [Act.put, List.setIfInBounds_toArray, List.set_cons_zero, List.set_cons_succ]
            refine hK _ ?_
            clear hK K
            refine q_skipK (by kernel_rfl) (fun K hK => ?_)
            simp only [Act.put, List.setIfInBounds_toArray, List.set_cons_zero, List.set_cons_succ]
            refine hK _ ?_
            clear hK K
            refine q_skipK (by kernel_rfl) (fun K hK => ?_)
            simp only [Act.put, List.setIfInBounds_toArray, List.set_cons_zero, List.set_cons_succ]
            refine hK _ ?_
            clear hK K
            refine q_skipK (by kernel_rfl) (fun K hK => ?_)
            simp only [Act.put, List.setIfInBounds_toArray, List.set_cons_zero, List.set_cons_succ]
            refine hK _ ?_
            clear hK K
            refine q_skipK (by kernel_rfl) (fun K hK => ?_)
            simp only [Act.put, List.setIfInBounds_toArray, List.set_cons_zero, List.set_cons_succ]
            refine hK _ ?_
            clear hK K
            refine q_skipK (by kernel_rfl) (fun K hK => ?_)
            simp only [Act.put, List.setIfInBounds_toArray, List.set_cons_zero, List.set_cons_succ]
            refine hK _ ?_
            clear hK K
            refine q_skipK (by kernel_rfl) (fun K hK => ?_)
            simp only [Act.put, List.setIfInBounds_toArray, List.set_cons_zero, List.set_cons_succ]
            refine hK _ ?_
            clear hK K
            refine q_skipK (by kernel_rfl) (fun K hK => ?_)
            simp only [Act.put, List.setIfInBounds_toArray, List.set_cons_zero, List.set_cons_succ]
            refine hK _ ?_
            clear hK K
            refine q_take (by kernel_rfl) (fun K hK => ?_)
            go_simp
            refine hK _ ?_
            clear hK K
            refine wq_nil ?_
            intro _ hw9
            obtain ⟨⟨dq, osq⟩, hw9'⟩ := hw9
            subst hw9'
            have hHeld := below_regrown wr dq osq
            generalize Go.Sort.grow (redrawn wr dq) osq = wq at *
            clear mixed hrw9 P9b
            have hbt3 := (unhide hbt2).keep hHeld
            have hbl3 := hbl2.trans (hHeld.mono hbl2.size)
            have hjn3 := hjn.turn hcw (Below.turn hHeld) (fun e => e)
            have cc3 : wq.cell? ⟨b, q + k * 2 + 1, none⟩ = some (.slice (some ⟨c, r, none⟩) X.l.length k1) := by rw [hHeld.cell hbw]; exact cc
            have hput := hbt3.put (b' := some Y) (unhide HL2) on2 (unhide HD) hYb
            have hw9 : WrAt wq bb 0 ds.length := by rw [unhide HL2]; obtain ⟨_, _, hw, _⟩ := hbt3; exact hw
            have hbp := hbl3.trans ((putL_turn bb 0 ds 0 wq).belowFrom hbl3.size (fun k hk => by have e2 : k = bb := hk; have := unhide HBB; omega))
            have HP := hide (And.intro hput hbp)
            clear hput hbp hbt3 hjn cc hHeld hbt2
            go_wp2_with (first | (refine wpl_load rfl 44 _ rfl _ _ rfl ds hjn3 hrw ?_) | (refine wpl_store_at rfl 44 _ _ rfl bb 0 ds rfl rfl hw9 on2 hrw ?_))
            go_roundw
            case rel => exact ⟨j + 1, by omega, by go_num, by rw [unhide HTS, unhide HT1]; rfl, by rw [unhide HTS, unhide HT1]; exact hide (unhide HP).1, (unhide HP).2⟩
            case measure => simp [intOf]; omega
          | some x =>
            simp only [Option.isSome_some]
            have CO := hide (fun wx (hb : Below wr.heap.size wr wx) => specOlder Y x S ds S cs9 wx (trailR_keeps _ _ S None1 ds _ (Below.turn (hbl2.trans (hb.mono hbl2.size))) none_off (unhide HD)) hYb (trailR_keeps _ _ S None1 cs9 _ (Below.turn (hbl2.trans (hb.mono hbl2.size))) none_off r9) bk9)
            clear P9 r9 bk9 on9 l9 W9
            go_upto_region 9 with fail
            cases ho : olderB Y x with
            | false =>
              have HT1 : Hid (bstep (some x) Y = some x) := hide (by simp [bstep, ho])
              rw [ho] at CO
              clear ho
              refine wq_region (by assumption) (by kernel_rfl) ?_
              refine q_take (by kernel_rfl) (fun K hK => ?_)
              go_simp
              refine hK _ ?_
              clear hK K
              refine q_take (by kernel_rfl) (fun K hK => ?_)
              go_simp
              refine hK _ ?_
              clear hK K
              refine q_take (by kernel_rfl) (fun K hK => ?_)
              go_simp
              refine hK _ ?_
              clear hK K
              refine q_take (by kernel_rfl) (fun K hK => ?_)
              go_simp
              refine hK _ ?_
              clear hK K
              refine q_take (by kernel_rfl) (fun K hK => ?_)
              go_simp
              refine hK _ ?_
              clear hK K
              refine q_take (by kernel_rfl) (fun K hK => ?_)
              go_simp
              refine hK _ ?_
              clear hK K
              refine q_take (by kernel_rfl) (fun K hK => ?_)
              go_simp
              refine hK _ ?_
              clear hK K
              refine q_cell (by kernel_rfl) 28 _ rfl b (q + k * 2 + 1) rfl (.slice (some ⟨c, r, none⟩) X.l.length k1) cc plainTrailsO (fun K hK => ?_)
              simp only [Act.put, List.setIfInBounds_toArray, List.set_cons_zero, List.set_cons_succ]
              refine hK _ ?_
              clear hK K
              refine q_take (by kernel_rfl) (fun K hK => ?_)
              go_simp
              refine hK _ ?_
              clear hK K
              refine q_take (by kernel_rfl) (fun K hK => ?_)
              go_simp
              refine hK _ ?_
              clear hK K
              refine q_load (by kernel_rfl) 44 _ rfl c (r + j * 4) rfl ds hcw hjn hrw (fun K hK => ?_)
              simp only [Act.put, List.setIfInBounds_toArray, List.set_cons_zero, List.set_cons_succ]
              refine hK _ ?_
              clear hK K
              refine q_load (by kernel_rfl) 44 _ rfl bb 0 rfl cs9 hP9 P9b hrw9 (fun K hK => ?_)
              simp only [Act.put, List.setIfInBounds_toArray, List.set_cons_zero, List.set_cons_succ]
              refine hK _ ?_
              clear hK K
              refine q_take (by kernel_rfl) (fun K hK => ?_)
              go_simp
              apply Exists.intro
              refine ⟨fun _ => ?_, hK _ ?_⟩
              exact Calls.regrown_of (unhide CO _ (below_regrown _ _ _))
              clear hK K
              refine q_take (by kernel_rfl) (fun K hK => ?_)
              go_simp
              refine hK _ ?_
              clear hK K
              refine wq_nil ?_
              intro _ hw9
              obtain ⟨⟨dq, osq⟩, hw9'⟩ := hw9
              subst hw9'
              have hHeld := below_regrown wr dq osq
              generalize Go.Sort.grow (redrawn wr dq) osq = wq at *
              clear mixed hrw9 P9b
              have hbt3 := (unhide hbt2).keep hHeld
              have hbl3 := hbl2.trans (hHeld.mono hbl2.size)
              clear hjn cc hHeld hbt2
              go_wp2
              go_roundw
              case rel => exact ⟨j + 1, by omega, by go_num, by rw [unhide HTS, unhide HT1]; rfl, by rw [unhide HTS, unhide HT1]; exact hide hbt3, hbl3⟩
              case measure => simp [intOf]; omega
            | true =>
              have HT1 : Hid (bstep (some x) Y = some Y) := hide (by simp [bstep, ho])
              rw [ho] at CO
              clear ho
              refine wq_region (by assumption) (by kernel_rfl) ?_
              refine q_take (by kernel_rfl) (fun K hK => ?_)
              go_simp
              refine hK _ ?_
              clear hK K
              refine q_take (by kernel_rfl) (fun K hK => ?_)
              go_simp
              refine hK _ ?_
              clear hK K
              refine q_take (by kernel_rfl) (fun K hK => ?_)
              go_simp
              refine hK _ ?_
              clear hK K
              refine q_take (by kernel_rfl) (fun K hK => ?_)
              go_simp
              refine hK _ ?_
              clear hK K
              refine q_take (by kernel_rfl) (fun K hK => ?_)
              go_simp
              refine hK _ ?_
              clear hK K
              refine q_take (by kernel_rfl) (fun K hK => ?_)
              go_simp
              refine hK _ ?_
              clear hK K
              refine q_take (by kernel_rfl) (fun K hK => ?_)
              go_simp
              refine hK _ ?_
              clear hK K
              refine q_cell (by kernel_rfl) 28 _ rfl b (q + k * 2 + 1) rfl (.slice (some ⟨c, r, none⟩) X.l.length k1) cc plainTrailsO (fun K hK => ?_)
              simp only [Act.put, List.setIfInBounds_toArray, List.set_cons_zero, List.set_cons_succ]
              refine hK _ ?_
              clear hK K
              refine q_take (by kernel_rfl) (fun K hK => ?_)
              go_simp
              refine hK _ ?_
              clear hK K
              refine q_take (by kernel_rfl) (fun K hK => ?_)
              go_simp
              refine hK _ ?_
              clear hK K
              refine q_load (by kernel_rfl) 44 _ rfl c (r + j * 4) rfl ds hcw hjn hrw (fun K hK => ?_)
              simp only [Act.put, List.setIfInBounds_toArray, List.set_cons_zero, List.set_cons_succ]
              refine hK _ ?_
              clear hK K
              refine q_load (by kernel_rfl) 44 _ rfl bb 0 rfl cs9 hP9 P9b hrw9 (fun K hK => ?_)
              simp only [Act.put, List.setIfInBounds_toArray, List.set_cons_zero, List.set_cons_succ]
              refine hK _ ?_
              clear hK K
              refine q_take (by kernel_rfl) (fun K hK => ?_)
              go_simp
              apply Exists.intro
              refine ⟨fun _ => ?_, hK _ ?_⟩
              exact Calls.regrown_of (unhide CO _ (below_regrown _ _ _))
              clear hK K
              refine q_take (by kernel_rfl) (fun K hK => ?_)
              go_simp
              refine hK _ ?_
              clear hK K
              refine wq_nil ?_
              intro _ hw9
              obtain ⟨⟨dq, osq⟩, hw9'⟩ := hw9
              subst hw9'
              have hHeld := below_regrown wr dq osq
              generalize Go.Sort.grow (redrawn wr dq) osq = wq at *
              clear mixed hrw9 P9b
              have hbt3 := (unhide hbt2).keep hHeld
              have hbl3 := hbl2.trans (hHeld.mono hbl2.size)
              have hjn3 := hjn.turn hcw (Below.turn hHeld) (fun e => e)
              have cc3 : wq.cell? ⟨b, q + k * 2 + 1, none⟩ = some (.slice (some ⟨c, r, none⟩) X.l.length k1) := by rw [hHeld.cell hbw]; exact cc
              have hput := hbt3.put (b' := some Y) (unhide HL2) on2 (unhide HD) hYb
              have hw9 : WrAt wq bb 0 ds.length := by rw [unhide HL2]; obtain ⟨_, _, hw, _⟩ := hbt3; exact hw
              have hbp := hbl3.trans ((putL_turn bb 0 ds 0 wq).belowFrom hbl3.size (fun k hk => by have e2 : k = bb := hk; have := unhide HBB; omega))
              have HP := hide (And.intro hput hbp)
              clear hput hbp hbt3 hjn cc hHeld hbt2
              go_wp2_with (first | (refine wpl_load rfl 44 _ rfl _ _ rfl ds hjn3 hrw ?_) | (refine wpl_store_at rfl 44 _ _ rfl bb 0 ds rfl rfl hw9 on2 hrw ?_))
              go_roundw
              case rel => exact ⟨j + 1, by omega, by go_num, by rw [unhide HTS, unhide HT1]; rfl, by rw [unhide HTS, unhide HT1]; exact hide (unhide HP).1, (unhide HP).2⟩
              case measure => simp [intOf]; omega
        · have hji : ¬ (j : Int) < (X.l.length : Int) := by omega
          obtain rfl : j = X.l.length := by omega
          rw [List.take_length] at hbt2 ⊢
          rw [← unhide HSN] at hbt2 ⊢
          clear HSN
          go_wp2
          go_roundw
          case rel => exact ⟨k + 1, by omega, by go_num, rfl, hbt2, hbl2⟩
          case measure => simp [intOf]; omega
    · have hki : ¬ (k : Int) < (l.length : Int) := by omega
      obtain rfl : k = l.length := by omega
      rw [List.take_length] at hbt ⊢
      rw [show (l.flatMap StripeD.l).foldl bstep none = oldO l from rfl] at hbt ⊢
      obtain ⟨cs9, P9, W9, l9, on9, r9, bk9⟩ := unhide hbt
      have hrw9 : RowT Try.prog 44 cs9.length := by rw [l9]; exact rowITrail
      have P9b := P9.inB
      have rc := trailR_keeps _ _ S None1 cs9 _ (Below.turn hbl) none_off r9
      have R3 := R1.keep hbl
      have B3 := bthen B1 hbl
      clear hbt P9 W9 l9 on9 r9 hbl
      have HRC := hide rc
      clear rc
      go_wp2_with (first | (refine wpl_load rfl 44 _ rfl _ 0 rfl cs9 P9b hrw9 ?_))
      refine (specL10Copy ((oldO l).getD noO) S cs9 wr (unhide HRC) bk9).mono ?_
      rintro e w6 ⟨cs4, rfl, yy, hb6⟩
      have R6 := R3.keep hb6
      have B6 := bthen B3 hb6
      have hs5 := B3.size
      have hlt5 := R3.1
      clear P9b HRC R3 B3 hb6
      have hln := trailO_len yy
      have on4 := trailR_one (trailO_read _ _ _ _ yy)
      have hri : RowT Try.prog 44 cs4.length := by rw [hln]; exact rowITrail
      have R7 : WrAt w6 w.heap.size 0 cs4.length := by rw [hln]; exact R6
      have tt := putL_turn w.heap.size 0 cs4 0 w6
      have y6 := trailO_keeps _ _ _ _ _ _ tt (fun k hk e => by have := hk.1; have e2 : k = w.heap.size := e; omega) yy
      have i6 := putL_at (b := w.heap.size) (o := 0) cs4 0 R7 (by omega) (by omega)
      have B7 := B6.trans (tt.belowFrom B6.size (fun k hk => by have e2 : k = w.heap.size := hk; omega))
      have hz6 := tt.size
      have HF := hide (And.intro y6 (And.intro i6 B7))
      have hs6 := hide hs5
      clear yy tt y6 i6 B7 hln R6
      go_wp2_with (first | (refine wpl_store_at rfl 44 _ _ rfl _ 0 cs4 rfl rfl R7 on4 hri ?_))
      obtain ⟨y6, i6, B7⟩ := unhide HF
      refine bodyPost_ret (v := .tuple #[.agg cs4.toArray, .bool (oldO l).isSome]) (res_row2O (t := 2) (u := 3) (cs := cs4) rfl rfl rfl i6 hri) rfl ⟨cs4, rfl, ?_, B7⟩
      exact trailO_widens _ _ _ _ _ (fun k hk => ⟨by have := hk.1; omega, by have := hk.2; omega⟩) y6
end Go.Proofs.Ytjhlammjnggghaa
