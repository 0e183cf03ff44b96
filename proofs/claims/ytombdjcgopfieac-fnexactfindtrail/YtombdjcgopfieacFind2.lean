/-
  FindTrail of the program.
-/
import Derived.Test.YtombdjcgopfieacFind0
import Derived.Test.YtombdjcgopfieacTrl2
namespace Go.Proofs.Ytombdjcgopfieac
open Go.ChangeShapes Go.WideShapes Go.ChangeAt Go.RowKit
set_option linter.unusedVariables false
set_option maxRecDepth 100000

def stripeAt (l : List StripeD) (id : Int) : Int := if l.length = 0 then 0 else stripev id l.length
set_option maxHeartbeats 2000000 in
theorem implfindTrail (l : List StripeD) (id : Int) (S : Nat → Prop) (v : Value) (w : World) (h0 : LAt 2 stripeR w S v l) (b0 : bulkL stripeBulk l ≤ 1048576) :
    Calls Try.prog 57 #[v, .int .i64 id] w fun e w' => e = .returned (.tuple #[.int .i64 (stripeAt l id), .int .i64 (placeAt l id)]) ∧ Below w.heap.size w w' := by
  obtain ⟨a, cap, rfl⟩ := h0.form
  have hl := h0.len
  by_cases hn : l.length = 0
  · have HNO := hide (at_nil l id hn)
    have HSA : Hid (stripeAt l id = 0) := hide (by rw [stripeAt, if_pos hn])
    have q : ((l.length : Int) == 0) = true := by simp [hn]
    clear hn h0
    go_enter Try.func57, Try.ntmps57
    go_wp2
    go_ret2
    exact ⟨by rw [unhide HNO, unhide HSA]; rfl, Below.refl _ _⟩
  have q : ((l.length : Int) == 0) = false := by simpa using hn
  obtain ⟨j, hj, hje⟩ := stripe_in2 id l.length (by omega)
  have hTA := at_is l id j hj hje
  have hc := implStripeOf id l.length w
  rw [hje] at hc
  have hbl := stripe_bulk_l hj b0
  have HSA : Hid (stripeAt l id = (j : Int)) := hide (by rw [stripeAt, if_neg hn, hje])
  obtain ⟨b, o, cs, rfl, hbk, hSb, hcs, hin⟩ := h0.at j hj
  have HPL : Hid (placeAt l id = atID l[j].l id) := hide (by rw [placeAt, hTA])
  have HC := hide hc
  have hji : (j : Int) < (l.length : Int) := by omega
  have hj0 : ¬ (j : Int) < 0 := by omega
  generalize l[j] = X at *
  obtain ⟨a1, k1, z1, g1⟩ := stripeR_c1 hcs
  have c1 : w.cell? ⟨b, o + j * 2 + 1, none⟩ = some (.slice a1 X.l.length k1) := hin 1 _ z1
  clear hTA hc hn hje z1 hin hcs h0
  go_enter Try.func57, Try.ntmps57
  go_wp2_with fail
  refine (unhide HC).mono ?_
  rintro e w1' ⟨rfl, rfl⟩
  go_wp2_with fail
  refine (implTrailAt X.l id S _ _ g1 hbl).mono ?_
  rintro e w3 ⟨rfl, hb3⟩
  clear c1 g1
  go_wp2
  go_ret2
  exact ⟨by rw [unhide HPL, unhide HSA]; rfl, hb3⟩
set_option maxHeartbeats 4000000 in
theorem implFindTrail (l : List StripeD) (id : Int) (S : Nat → Prop) (v : Value) (w : World) (h0 : LAt 2 stripeR w S v l) (b0 : bulkL stripeBulk l ≤ 1048576) :
    Calls Try.prog 21 #[v, .int .i64 id] w fun e w' => ∃ cs', e = .returned (.tuple #[.agg cs'.toArray, .bool (foundB l id)]) ∧ trailO w' (Within w.heap.size w'.heap.size) cs' (foundT l id) ∧ Below w.heap.size w w' := by
  obtain ⟨a, cap, rfl⟩ := h0.form
  have hl := h0.len
  have B1 := bnew w (.cells #[.int .i64 0, .int .i64 0, .int .i64 0, .slice none 0 0] 36)
  have R1 := WrAt.new w #[.int .i64 0, .int .i64 0, .int .i64 0, .slice none 0 0] 36 4 rfl
  have hs1 : w.heap.size < (w.alloc (.cells #[.int .i64 0, .int .i64 0, .int .i64 0, .slice none 0 0] 36)).heap.size := by simp
  have HA := hide (h0.keep stripeR_keeps B1)
  clear h0
  go_enter Try.func21, Try.ntmps21
  go_upto_region 1 with fail
  generalize World.alloc w _ = w1 at *
  go_wp2_with fail
  refine (implfindTrail l id S _ w1 (unhide HA) b0).mono ?_
  rintro e w2 ⟨rfl, hb2⟩
  have HA := hide ((unhide HA).keep stripeR_keeps hb2)
  have R2 := R1.keep hb2
  have B2 := bthen B1 hb2
  have hs2 := hb2.size
  clear R1 B1 hb2
  by_cases hk : placeAt l id < 0
  · have HNO := hide (found_no l id hk)
    go_wp2_with (first | (refine wpl_store_at rfl 36 _ _ rfl _ 0 [.int .i64 0, .int .i64 0, .int .i64 0, .slice none 0 0] rfl rfl R2 (by intro v hv; simp only [List.mem_cons, List.not_mem_nil, or_false] at hv; rcases hv with rfl | rfl | rfl | rfl <;> rfl) rowITrail ?_))
    refine bodyPost_ret (v := .tuple #[.agg #[.int .i64 0, .int .i64 0, .int .i64 0, .slice none 0 0], .bool false]) (res_row2 (t := 4) (u := 5) (cs := [.int .i64 0, .int .i64 0, .int .i64 0, .slice none 0 0]) rfl rfl rfl (putL_at (b := w.heap.size) (o := 0) [.int .i64 0, .int .i64 0, .int .i64 0, .slice none 0 0] 0 R2 (by omega) (by simp)) rowITrail) rfl ⟨[.int .i64 0, .int .i64 0, .int .i64 0, .slice none 0 0], ?_, ?_, ?_⟩
    · rw [(unhide HNO).2]
    · rw [(unhide HNO).1]; exact no_trail _ _
    · exact B2.trans ((putL_turn _ _ _ _ _).belowFrom B2.size (fun k hk => by omega))
  have hn : l.length ≠ 0 := fun e => hk (by rw [at_nil l id e]; omega)
  obtain ⟨j, hj, hje⟩ := stripe_in2 id l.length (by omega)
  have hTA := at_is l id j hj hje
  have hbl := stripe_bulk_l hj b0
  have hSA : stripeAt l id = (j : Int) := by rw [stripeAt, if_neg hn, hje]
  obtain ⟨b, o, cs, rfl, hbk, hSb, hcs, hin⟩ := (unhide HA).at j hj
  have HTA := hide hTA
  have hpl : placeAt l id = atID l[j].l id := by rw [placeAt, hTA]
  have hji : (j : Int) < (l.length : Int) := by omega
  have hj0 : ¬ (j : Int) < 0 := by omega
  generalize l[j] = X at *
  obtain ⟨a1, k1, z1, g1⟩ := stripeR_c1 hcs
  have c1 : w2.cell? ⟨b, o + j * 2 + 1, none⟩ = some (.slice a1 X.l.length k1) := hin 1 _ z1
  rw [hpl] at hk
  obtain ⟨k, hkl, hke⟩ := idx_is (p := fun x : TrailD => decide (x.id = id)) (l := X.l) hk
  have hke : atID X.l id = (k : Int) := hke
  have hTL : k < (trailsAt l id).length := by rw [hTA]; exact hkl
  have HFI := hide (found_is l id k hTL (by rw [hpl]; exact hke))
  obtain ⟨b3, o3, cs3, rfl, hbk3, hSb3, hcs3, hin3⟩ := g1.at k hkl
  have hYb := trail_bulk_k hkl hbl
  have HYK : Hid ((trailsAt l id)[k] = X.l[k]) := hide (by simp only [hTA])
  have hki : (k : Int) < (X.l.length : Int) := by omega
  have hk0 : ¬ (k : Int) < 0 := by omega
  have hrw3 : RowT Try.prog 36 cs3.length := by rw [trailR_len hcs3]; exact rowITrail
  have hPK : placeAt l id = (k : Int) := by rw [hpl]; exact hke
  rw [hSA, hPK]
  clear hke hk hpl g1 hSA hPK hje hTA hn hin hcs z1 HA
  go_wp2_with (first | (refine wpl_load rfl 36 _ rfl _ _ rfl cs3 hin3 hrw3 ?_))
  refine (implCopyTrail X.l[k] S cs3 w2 hcs3 hYb).mono ?_
  rintro e w4 ⟨cs4, rfl, yy, hb4⟩
  have R4 := R2.keep hb4
  have B4 := bthen B2 hb4
  clear hin3 hcs3 c1 R2 B2 hb4
  have hln := trailO_len yy
  have on4 := trailR_one (trailO_read _ _ _ _ yy)
  have hri : RowT Try.prog 36 cs4.length := by rw [hln]; exact rowITrail
  have R5 : WrAt w4 w.heap.size 0 cs4.length := by rw [hln]; exact R4
  have tt := putL_turn w.heap.size 0 cs4 0 w4
  have y6 := trailO_keeps _ _ _ _ _ _ tt (fun k hk e => by have := hk.1; omega) yy
  have i6 := putL_at (b := w.heap.size) (o := 0) cs4 0 R5 (by omega) (by omega)
  have B6 := B4.trans (tt.belowFrom B4.size (fun k hk => by omega))
  have hz6 := tt.size
  have HF := hide (And.intro y6 (And.intro i6 B6))
  clear yy tt y6 i6 B6 hln
  go_wp2_with (first | (refine wpl_store_at rfl 36 _ _ rfl _ 0 cs4 rfl rfl R5 on4 hri ?_))
  obtain ⟨y6, i6, B6⟩ := unhide HF
  refine bodyPost_ret (v := .tuple #[.agg cs4.toArray, .bool true]) (res_row2 (t := 4) (u := 5) (cs := cs4) rfl rfl rfl i6 hri) rfl ⟨cs4, ?_, ?_, B6⟩
  · rw [(unhide HFI).2]
  · rw [(unhide HFI).1, unhide HYK]; exact trailO_widens _ _ _ _ _ (fun k hk => ⟨by have := hk.1; omega, by have := hk.2; omega⟩) y6
end Go.Proofs.Ytombdjcgopfieac
