/-
  FindTrail of the specification.
-/
import Derived.Test.YtombdjcgopfieacFind0
import Derived.Test.YtombdjcgopfieacTrl1
namespace Go.Proofs.Ytombdjcgopfieac
open Go.ChangeShapes Go.WideShapes Go.ChangeAt Go.RowKit
set_option linter.unusedVariables false
set_option maxRecDepth 100000

set_option maxHeartbeats 4000000 in
theorem specFindTrail (l : List StripeD) (id : Int) (S : Nat → Prop) (v : Value) (w : World) (h0 : LAt 2 stripeR w S v l) (b0 : bulkL stripeBulk l ≤ 1048576) :
    Calls Try.prog 19 #[v, .int .i64 id] w fun e w' => ∃ cs', e = .returned (.tuple #[.agg cs'.toArray, .bool (foundB l id)]) ∧ trailO w' (Within w.heap.size w'.heap.size) cs' (foundT l id) ∧ Below w.heap.size w w' := by
  obtain ⟨a, cap, rfl⟩ := h0.form
  have hl := h0.len
  have B1 := bnew w (.cells #[.int .i64 0, .int .i64 0, .int .i64 0, .slice none 0 0] 36)
  have R1 := WrAt.new w #[.int .i64 0, .int .i64 0, .int .i64 0, .slice none 0 0] 36 4 rfl
  have hs1 : w.heap.size < (w.alloc (.cells #[.int .i64 0, .int .i64 0, .int .i64 0, .slice none 0 0] 36)).heap.size := by simp
  have HA := hide (h0.keep stripeR_keeps B1)
  clear h0
  go_enter Try.func19, Try.ntmps19
  go_upto_region 1 with fail
  generalize World.alloc w _ = w1 at *
  by_cases hn : l.length = 0
  · have HNO := hide (found_no l id (by rw [at_nil l id hn]; omega))
    have q : ((l.length : Int) == 0) = true := by simp [hn]
    have HN := hide hn
    clear hn
    go_wp2_with (first | (refine wpl_store_at rfl 36 _ _ rfl _ 0 [.int .i64 0, .int .i64 0, .int .i64 0, .slice none 0 0] rfl rfl R1 (by intro v hv; simp only [List.mem_cons, List.not_mem_nil, or_false] at hv; rcases hv with rfl | rfl | rfl | rfl <;> rfl) rowITrail ?_))
    refine bodyPost_ret (v := .tuple #[.agg #[.int .i64 0, .int .i64 0, .int .i64 0, .slice none 0 0], .bool false]) (res_row2 (t := 4) (u := 5) (cs := [.int .i64 0, .int .i64 0, .int .i64 0, .slice none 0 0]) rfl rfl rfl (putL_at (b := w.heap.size) (o := 0) [.int .i64 0, .int .i64 0, .int .i64 0, .slice none 0 0] 0 R1 (by omega) (by simp)) rowITrail) rfl ⟨[.int .i64 0, .int .i64 0, .int .i64 0, .slice none 0 0], ?_, ?_, ?_⟩
    · rw [(unhide HNO).2]
    · rw [(unhide HNO).1]; exact no_trail _ _
    · exact B1.trans ((putL_turn _ _ _ _ _).belowFrom B1.size (fun k hk => by omega))
  have q : ((l.length : Int) == 0) = false := by simpa using hn
  obtain ⟨j, hj, hje⟩ := stripe_in2 id l.length (by omega)
  have hTA := at_is l id j hj hje
  have hc := specStripeOf id l.length w1
  rw [hje] at hc
  have hbl := stripe_bulk_l hj b0
  obtain ⟨b, o, cs, rfl, hbk, hSb, hcs, hin⟩ := (unhide HA).at j hj
  have HTA := hide hTA
  have HC := hide hc
  have hji : (j : Int) < (l.length : Int) := by omega
  have hj0 : ¬ (j : Int) < 0 := by omega
  generalize l[j] = X at *
  have hrw : RowT Try.prog 81 cs.length := by rw [stripeR_len hcs]; exact rowIStripe
  have HL1 := hide (stripeR_len hcs)
  have on1 := stripeR_one hcs
  obtain ⟨a1, k1, z1, g1⟩ := stripeR_c1 hcs
  have HZ1 := hide z1
  clear hTA hc hn hje z1
  go_wp2_with fail
  refine (unhide HC).mono ?_
  rintro e w1' ⟨rfl, rfl⟩
  have hA1 := Held.new w1' cs 81
  have hbA := bnew w1' (.cells cs.toArray 81)
  have HG := hide (And.intro (g1.keep trailR_keeps hbA) (And.intro (R1.keep hbA) (bthen B1 hbA)))
  have hs2 := hbA.size
  clear g1 hbA
  go_upto_region 4 with (first | (refine wpl_load rfl 81 _ rfl _ _ rfl cs hin hrw ?_) | (refine wpl_store_new rfl _ _ _ rfl _ cs rfl rfl ?_ on1 hrw ?_; (rw [unhide HL1]; rfl)))
  generalize hWa : World.alloc w1' _ = wa at *
  clear hWa hin on1 R1 B1 HC hrw
  have i1 := hA1.2 1 _ (unhide HZ1)
  go_wp2_with fail
  refine (specTrailAt X.l id S _ wa (unhide HG).1 hbl).mono ?_
  rintro e w3 ⟨rfl, hb3⟩
  obtain ⟨g1, R2, B2⟩ := unhide HG
  have g3 := g1.keep trailR_keeps hb3
  have R3 := R2.keep hb3
  have B3 := bthen B2 hb3
  have hA3 := hA1.keep hb3
  have i3 := hA3.2 1 _ (unhide HZ1)
  have hs3 := hb3.size
  clear g1 R2 B2 hb3 hA1 hA3 i1 HG
  have hpl : placeAt l id = atID X.l id := by rw [placeAt, unhide HTA]
  by_cases hk : atID X.l id < 0
  · have HNO := hide (found_no l id (by rw [hpl]; exact hk))
    have HPL := hide hpl
    clear hpl
    go_wp2_with (first | (refine wpl_store_at rfl 36 _ _ rfl _ 0 [.int .i64 0, .int .i64 0, .int .i64 0, .slice none 0 0] rfl rfl R3 (by intro v hv; simp only [List.mem_cons, List.not_mem_nil, or_false] at hv; rcases hv with rfl | rfl | rfl | rfl <;> rfl) rowITrail ?_))
    refine bodyPost_ret (v := .tuple #[.agg #[.int .i64 0, .int .i64 0, .int .i64 0, .slice none 0 0], .bool false]) (res_row2 (t := 4) (u := 5) (cs := [.int .i64 0, .int .i64 0, .int .i64 0, .slice none 0 0]) rfl rfl rfl (putL_at (b := w.heap.size) (o := 0) [.int .i64 0, .int .i64 0, .int .i64 0, .slice none 0 0] 0 R3 (by omega) (by simp)) rowITrail) rfl ⟨[.int .i64 0, .int .i64 0, .int .i64 0, .slice none 0 0], ?_, ?_, ?_⟩
    · rw [(unhide HNO).2]
    · rw [(unhide HNO).1]; exact no_trail _ _
    · exact B3.trans ((putL_turn _ _ _ _ _).belowFrom B3.size (fun k hk => by omega))
  obtain ⟨k, hkl, hke⟩ := idx_is (p := fun x : TrailD => decide (x.id = id)) (l := X.l) hk
  have hke : atID X.l id = (k : Int) := hke
  have hTL : k < (trailsAt l id).length := by rw [unhide HTA]; exact hkl
  have HFI := hide (found_is l id k hTL (by rw [hpl]; exact hke))
  obtain ⟨b3, o3, cs3, rfl, hbk3, hSb3, hcs3, hin3⟩ := g3.at k hkl
  have hYb := trail_bulk_k hkl hbl
  have HYK : Hid ((trailsAt l id)[k] = X.l[k]) := hide (by simp only [unhide HTA])
  have hki : (k : Int) < (X.l.length : Int) := by omega
  have hk0 : ¬ (k : Int) < 0 := by omega
  have hrw3 : RowT Try.prog 36 cs3.length := by rw [trailR_len hcs3]; exact rowITrail
  rw [hke]
  have HKE := hide hke
  clear hke hk hpl g3
  go_wp2_with (first | (refine wpl_load rfl 36 _ rfl _ _ rfl cs3 hin3 hrw3 ?_))
  refine (specL10Copy X.l[k] S cs3 w3 hcs3 hYb).mono ?_
  rintro e w4 ⟨cs4, rfl, yy, hb4⟩
  have R4 := R3.keep hb4
  have B4 := bthen B3 hb4
  clear hin3 hcs3 i3 R3 B3 hb4
  have hln := trailO_len yy
  have on4 := trailR_one (trailO_read _ _ _ _ yy)
  have hri : RowT Try.prog 36 cs4.length := by rw [hln]; exact rowITrail
  have R5 : WrAt w4 w.heap.size 0 cs4.length := by rw [hln]; exact R4
  have tt := putL_turn w.heap.size 0 cs4 0 w4
  have y6 := trailO_keeps _ _ _ _ _ _ tt (fun k hk e => by have := hk.1; omega) yy
  have i6 := putL_at (b := w.heap.size) (o := 0) cs4 0 R5 (by omega) (by omega)
  have B6 := B4.trans (tt.belowFrom B4.size (fun k hk => by omega))
  have hz6 := tt.size
  have HF := hide (And.intro y6 (And.intro i6 B6))
  clear yy tt y6 i6 B6 hln
  go_wp2_with (first | (refine wpl_store_at rfl 36 _ _ rfl _ 0 cs4 rfl rfl R5 on4 hri ?_))
  obtain ⟨y6, i6, B6⟩ := unhide HF
  refine bodyPost_ret (v := .tuple #[.agg cs4.toArray, .bool true]) (res_row2 (t := 4) (u := 5) (cs := cs4) rfl rfl rfl i6 hri) rfl ⟨cs4, ?_, ?_, B6⟩
  · rw [(unhide HFI).2]
  · rw [(unhide HFI).1, unhide HYK]; exact trailO_widens _ _ _ _ _ (fun k hk => ⟨by have := hk.1; omega, by have := hk.2; omega⟩) y6
end Go.Proofs.Ytombdjcgopfieac
