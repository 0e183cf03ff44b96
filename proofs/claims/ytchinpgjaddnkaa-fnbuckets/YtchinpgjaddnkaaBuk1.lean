/-
  What draws buckets: contracts of the specification's drawing functions.
-/
import Derived.Test.YtchinpgjaddnkaaBukA
import Derived.Test.YtchinpgjaddnkaaABucket
import Derived.Test.YtchinpgjaddnkaaDrB
namespace Go.Proofs.Ytchinpgjaddnkaa
open Go.ChangeShapes Go.WideShapes Go.ChangeAt Go.RowKit
set_option linter.unusedVariables false
set_option maxRecDepth 100000
variable {B : Nat}

theorem rowIBucket : RowT Try.prog 29 4 := ⟨_, Try.underlying29, rfl, by kernel_rfl⟩
set_option maxHeartbeats 1000000 in
theorem l7Draw_any (b : Nat) (w : World) (hc : Cur B w b) :
    Calls Try.prog 53 #[.pointer (some ⟨b, 0, none⟩)] w fun e w' => (∃ r u t a : Int, e = .returned (.agg #[.int .i64 r, .int .i64 u, .int .i64 t, .int .i64 a]) ∧ 0 ≤ u ∧ u ≤ 999) ∧ Cur B w' b ∧ Turns b w w' := by
  have hlt := hc.lt
  have hB := hc.high
  have T0 := Turns.allocs (b := b) (w := w) (.cells #[.int .i64 0, .int .i64 0, .int .i64 0, .int .i64 0] 29)
  have R0 := WrAt.new w #[.int .i64 0, .int .i64 0, .int .i64 0, .int .i64 0] 29 4 rfl
  have hc0 := hc.keep (bnew w (.cells #[.int .i64 0, .int .i64 0, .int .i64 0, .int .i64 0] 29))
  clear hc
  go_enter Try.func53, Try.ntmps53
  go_upto_region 1 with fail
  generalize World.alloc w _ = w0 at *
  have hl0 := hc0.lt
  go_wp2_with fail
  refine (l1Int_any b w0.heap.size [0, 1, 2, 99] 4 _ (hc0.keep (bnew _ _)) (by omega) (by simp) (by simp) (by simp) ?_).mono ?_
  · exact cells_ints w0 3 [0, 1, 2, 99]
  rintro e w1 ⟨⟨r, rfl, hmr⟩, hc1, ht⟩
  clear hmr
  have T1 := (T0.alloc _).trans ht
  have R1 := ((R0.keep (bnew _ _)).turn ht.turn (by omega))
  have hl1 := hc1.lt
  clear hc0 T0 R0 ht
  go_wp2_with fail
  refine (l1Int_any b w1.heap.size [0, 1, 3, 8, 999] 5 _ (hc1.keep (bnew _ _)) (by omega) (by simp) (by simp) (by simp) ?_).mono ?_
  · exact cells_ints w1 3 [0, 1, 3, 8, 999]
  rintro e w2 ⟨⟨u, rfl, hmu⟩, hc2, ht⟩
  have hku : 0 ≤ u ∧ u ≤ 999 := by simp only [List.mem_cons, List.not_mem_nil, or_false] at hmu; omega
  clear hmu
  have T2 := (T1.alloc _).trans ht
  have R2 := ((R1.keep (bnew _ _)).turn ht.turn (by omega))
  have hl2 := hc2.lt
  clear hc1 T1 R1 ht
  go_wp2_with fail
  refine (specBucketNew r u w2).mono ?_
  rintro e w3 ⟨rfl, hb⟩
  have hc3 := hc2.keep hb
  have T3 := T2.new (Below.turn hb) (fun q e => False.elim e)
  have R3 := R2.keep hb
  have hl3 := hc3.lt
  clear hc2 T2 R2 hb
  have hc4 := hc3.keep (bnew w3 (.cells #[.int .i64 r, .int .i64 u, .int .i64 u, .int .i64 0] 29))
  have T4 := T3.alloc (.cells #[.int .i64 r, .int .i64 u, .int .i64 u, .int .i64 0] 29)
  have R4 := R3.keep (bnew w3 (.cells #[.int .i64 r, .int .i64 u, .int .i64 u, .int .i64 0] 29))
  have P4 := Held.new w3 [.int .i64 r, .int .i64 u, .int .i64 u, .int .i64 0] 29
  have V4 := WrAt.new w3 #[.int .i64 r, .int .i64 u, .int .i64 u, .int .i64 0] 29 4 rfl
  have hsb : b < w3.heap.size := hc3.lt
  have hsB : B ≤ w3.heap.size := hc3.high
  have hsw : w.heap.size < w3.heap.size := R3.1
  clear hc3 T3 R3
  go_upto_region 2 with (first | (refine wpl_store_new rfl _ _ _ rfl _ [.int .i64 r, .int .i64 u, .int .i64 u, .int .i64 0] rfl rfl ?_ (by intro v hv; simp only [List.mem_cons, List.not_mem_nil, or_false] at hv; rcases hv with rfl | rfl | rfl | rfl <;> rfl) rowIBucket ?_; rfl))
  generalize w3.heap.size = s at *
  generalize hW : World.alloc w3 _ = w4 at *
  clear hW
  have hl4 := hc4.lt
  go_wp2_with fail
  refine (l1Int_any b w4.heap.size [0, 3, 2147483647] 3 _ (hc4.keep (bnew _ _)) (by omega) (by simp) (by simp) (by simp) ?_).mono ?_
  · exact cells_ints w4 3 [0, 3, 2147483647]
  rintro e w5 ⟨⟨a, rfl, hma⟩, hc5, ht⟩
  clear hma
  have T5 := (T4.alloc _).trans ht
  have R5 := ((R4.keep (bnew _ _)).turn ht.turn (by omega))
  have P5 := ((P4.keep (bnew _ _)).turn ht.turn (by omega))
  have V5 := ((V4.keep (bnew _ _)).turn ht.turn (by omega))
  have hl5 := hc5.lt
  clear hc4 T4 R4 P4 V4 ht
  have q9 := P5.2 3 _ rfl
  have f9 := V5.free 3 (by omega)
  rw [Nat.zero_add] at f9
  go_upto_region 3 with fail
  generalize hW : World.setCell w5 _ _ = w6
  have P6 : Held w6 s [.int .i64 r, .int .i64 u, .int .i64 u, .int .i64 a] := by rw [← hW]; exact P5.set 3 (.int .i64 a) (by simp)
  have V6 : WrAt w6 s 0 4 := by rw [← hW]; exact V5.set _ _
  have R6 : WrAt w6 w.heap.size 0 4 := by rw [← hW]; exact R5.set _ _
  have tw : Turn (fun k => k = s) w5 w6 := by rw [← hW]; exact Turn.set w5 ⟨s, 3, none⟩ _
  have hc6 := hc5.new tw (fun q e => by omega)
  have T6 := T5.new tw (fun q e => by omega)
  have hl6 := hc6.lt
  clear hc5 T5 R5 P5 V5 hW q9 f9 tw
  have q1 := P6.2 1 _ rfl
  go_wp2_with fail
  refine (l1Below_any b (u + 1) (by omega) w6 hc6).mono ?_
  rintro e w7 ⟨⟨t, rfl, ht0, ht1⟩, hc7, ht⟩
  have T7 := T6.trans ht
  have R7 := (R6.turn ht.turn (by omega))
  have P7 := (P6.turn ht.turn (by omega))
  have V7 := (V6.turn ht.turn (by omega))
  have hl7 := hc7.lt
  clear hc6 T6 R6 P6 V6 ht
  clear q1
  have q9 := P7.2 2 _ rfl
  have f9 := V7.free 2 (by omega)
  rw [Nat.zero_add] at f9
  go_upto_region 4 with fail
  generalize hW : World.setCell w7 _ _ = w8
  have P8 : Held w8 s [.int .i64 r, .int .i64 u, .int .i64 t, .int .i64 a] := by rw [← hW]; exact P7.set 2 (.int .i64 t) (by simp)
  have V8 : WrAt w8 s 0 4 := by rw [← hW]; exact V7.set _ _
  have R8 : WrAt w8 w.heap.size 0 4 := by rw [← hW]; exact R7.set _ _
  have tw : Turn (fun k => k = s) w7 w8 := by rw [← hW]; exact Turn.set w7 ⟨s, 2, none⟩ _
  have hc8 := hc7.new tw (fun q e => by omega)
  have T8 := T7.new tw (fun q e => by omega)
  have hl8 := hc8.lt
  clear hc7 T7 R7 P7 V7 hW q9 f9 tw
  have tt := putL_turn w.heap.size 0 [.int .i64 r, .int .i64 u, .int .i64 t, .int .i64 a] 0 w8
  have i3 := putL_at (b := w.heap.size) (o := 0) [.int .i64 r, .int .i64 u, .int .i64 t, .int .i64 a] 0 R8 (by omega) (by simp)
  have HF := hide (And.intro (hc8.new tt (fun q e => by omega)) (And.intro (T8.new tt (fun q e => by omega)) i3))
  have c1 := P8.inB
  clear hc8 T8 P8 V8 tt i3
  go_wp2_with (first | (refine wpl_load rfl 29 _ rfl _ 0 rfl [.int .i64 r, .int .i64 u, .int .i64 t, .int .i64 a] c1 rowIBucket ?_) | (refine wpl_store_at rfl 29 _ _ rfl _ 0 [.int .i64 r, .int .i64 u, .int .i64 t, .int .i64 a] rfl rfl R8 (by intro v hv; simp only [List.mem_cons, List.not_mem_nil, or_false] at hv; rcases hv with rfl | rfl | rfl | rfl <;> rfl) rowIBucket ?_))
  obtain ⟨c4, t4, i4⟩ := unhide HF
  exact bodyPost_ret (v := .agg #[.int .i64 r, .int .i64 u, .int .i64 t, .int .i64 a]) (res_row (t := 2) (cs := [.int .i64 r, .int .i64 u, .int .i64 t, .int .i64 a]) rfl rfl i4 rowIBucket) rfl ⟨⟨r, u, t, a, rfl, hku⟩, c4, t4⟩
set_option maxHeartbeats 1000000 in
theorem l7Any_any (b : Nat) (w : World) (hc : Cur B w b) :
    Calls Try.prog 34 #[.pointer (some ⟨b, 0, none⟩)] w fun e w' => (∃ r u t a : Int, e = .returned (.agg #[.int .i64 r, .int .i64 u, .int .i64 t, .int .i64 a])) ∧ Cur B w' b ∧ Turns b w w' := by
  have hlt := hc.lt
  have hB := hc.high
  have T0 := Turns.allocs (b := b) (w := w) (.cells #[.int .i64 0, .int .i64 0, .int .i64 0, .int .i64 0] 29)
  have R0 := WrAt.new w #[.int .i64 0, .int .i64 0, .int .i64 0, .int .i64 0] 29 4 rfl
  have hc0 := hc.keep (bnew w (.cells #[.int .i64 0, .int .i64 0, .int .i64 0, .int .i64 0] 29))
  clear hc
  go_enter Try.func34, Try.ntmps34
  go_upto_region 1 with fail
  generalize World.alloc w _ = w0 at *
  have hl0 := hc0.lt
  go_wp2_with fail
  refine (l7Draw_any b w0 hc0).mono ?_
  rintro e w1 ⟨⟨r, u, t, a, rfl, hu0, hu1⟩, hc1, ht⟩
  have T1 := T0.trans ht
  have R1 := (R0.turn ht.turn (by omega))
  have hl1 := hc1.lt
  clear hc0 T0 R0 ht
  have hc2 := hc1.keep (bnew w1 (.cells #[.int .i64 r, .int .i64 u, .int .i64 t, .int .i64 a] 29))
  have T2 := T1.alloc (.cells #[.int .i64 r, .int .i64 u, .int .i64 t, .int .i64 a] 29)
  have R2 := R1.keep (bnew w1 (.cells #[.int .i64 r, .int .i64 u, .int .i64 t, .int .i64 a] 29))
  have P2 := Held.new w1 [.int .i64 r, .int .i64 u, .int .i64 t, .int .i64 a] 29
  have V2 := WrAt.new w1 #[.int .i64 r, .int .i64 u, .int .i64 t, .int .i64 a] 29 4 rfl
  have hsb : b < w1.heap.size := hc1.lt
  have hsB : B ≤ w1.heap.size := hc1.high
  have hsw : w.heap.size < w1.heap.size := R1.1
  clear hc1 T1 R1
  go_upto_region 2 with (first | (refine wpl_store_new rfl _ _ _ rfl _ [.int .i64 r, .int .i64 u, .int .i64 t, .int .i64 a] rfl rfl ?_ (by intro v hv; simp only [List.mem_cons, List.not_mem_nil, or_false] at hv; rcases hv with rfl | rfl | rfl | rfl <;> rfl) rowIBucket ?_; rfl))
  generalize w1.heap.size = s at *
  generalize hW : World.alloc w1 _ = w2 at *
  clear hW
  have hl2 := hc2.lt
  go_wp2_with fail
  refine (l1Below_any b 12 (by omega) w2 hc2).mono ?_
  rintro e w3 ⟨⟨x, rfl, hx0, hx1⟩, hc3, ht⟩
  have T3 := T2.trans ht
  have R3 := (R2.turn ht.turn (by omega))
  have P3 := (P2.turn ht.turn (by omega))
  have V3 := (V2.turn ht.turn (by omega))
  have hl3 := hc3.lt
  clear hc2 T2 R2 P2 V2 ht
  by_cases h0 : x = 0
  · subst h0
    go_wp2_with fail
    refine (l1Int_any b w3.heap.size [-1, 99, 100] 3 _ (hc3.keep (bnew _ _)) (by omega) (by simp) (by simp) (by simp) ?_).mono ?_
    · exact cells_ints w3 3 [-1, 99, 100]
    rintro e w4 ⟨⟨y, rfl, hmy⟩, hc4, ht⟩
    clear hmy
    have T4 := (T3.alloc _).trans ht
    have R4 := ((R3.keep (bnew _ _)).turn ht.turn (by omega))
    have P4 := ((P3.keep (bnew _ _)).turn ht.turn (by omega))
    have V4 := ((V3.keep (bnew _ _)).turn ht.turn (by omega))
    have hl4 := hc4.lt
    clear hc3 T3 R3 P3 V3 ht
    have q9 := P4.2 0 _ rfl
    have f9 := V4.free 0 (by omega)
    rw [Nat.zero_add] at f9
    go_upto_region 11 with fail
    generalize hW : World.setCell w4 _ _ = w5
    have P5 : Held w5 s [.int .i64 y, .int .i64 u, .int .i64 t, .int .i64 a] := by rw [← hW]; exact P4.set 0 (.int .i64 y) (by simp)
    have V5 : WrAt w5 s 0 4 := by rw [← hW]; exact V4.set _ _
    have R5 : WrAt w5 w.heap.size 0 4 := by rw [← hW]; exact R4.set _ _
    have tw : Turn (fun k => k = s) w4 w5 := by rw [← hW]; exact Turn.set w4 ⟨s, 0, none⟩ _
    have hc5 := hc4.new tw (fun q e => by omega)
    have T5 := T4.new tw (fun q e => by omega)
    have hl5 := hc5.lt
    clear hc4 T4 R4 P4 V4 hW q9 f9 tw
    have tt := putL_turn w.heap.size 0 [.int .i64 y, .int .i64 u, .int .i64 t, .int .i64 a] 0 w5
    have i3 := putL_at (b := w.heap.size) (o := 0) [.int .i64 y, .int .i64 u, .int .i64 t, .int .i64 a] 0 R5 (by omega) (by simp)
    have HF := hide (And.intro (hc5.new tt (fun q e => by omega)) (And.intro (T5.new tt (fun q e => by omega)) i3))
    have c1 := P5.inB
    clear hc5 T5 P5 V5 tt i3
    go_wp2_with (first | (refine wpl_load rfl 29 _ rfl _ 0 rfl [.int .i64 y, .int .i64 u, .int .i64 t, .int .i64 a] c1 rowIBucket ?_) | (refine wpl_store_at rfl 29 _ _ rfl _ 0 [.int .i64 y, .int .i64 u, .int .i64 t, .int .i64 a] rfl rfl R5 (by intro v hv; simp only [List.mem_cons, List.not_mem_nil, or_false] at hv; rcases hv with rfl | rfl | rfl | rfl <;> rfl) rowIBucket ?_))
    obtain ⟨c4, t4, i4⟩ := unhide HF
    exact bodyPost_ret (v := .agg #[.int .i64 y, .int .i64 u, .int .i64 t, .int .i64 a]) (res_row (t := 2) (cs := [.int .i64 y, .int .i64 u, .int .i64 t, .int .i64 a]) rfl rfl i4 rowIBucket) rfl ⟨⟨y, u, t, a, rfl⟩, c4, t4⟩
  replace h0 : (x == (0 : Int)) = false := beq_eq_false_iff_ne.2 h0
  by_cases h1 : x = 1
  · subst h1
    go_wp2_with fail
    refine (l1Int_any b w3.heap.size [-1, 999, 1000] 3 _ (hc3.keep (bnew _ _)) (by omega) (by simp) (by simp) (by simp) ?_).mono ?_
    · exact cells_ints w3 3 [-1, 999, 1000]
    rintro e w4 ⟨⟨y, rfl, hmy⟩, hc4, ht⟩
    clear hmy
    have T4 := (T3.alloc _).trans ht
    have R4 := ((R3.keep (bnew _ _)).turn ht.turn (by omega))
    have P4 := ((P3.keep (bnew _ _)).turn ht.turn (by omega))
    have V4 := ((V3.keep (bnew _ _)).turn ht.turn (by omega))
    have hl4 := hc4.lt
    clear hc3 T3 R3 P3 V3 ht
    have q9 := P4.2 1 _ rfl
    have f9 := V4.free 1 (by omega)
    rw [Nat.zero_add] at f9
    go_upto_region 11 with fail
    generalize hW : World.setCell w4 _ _ = w5
    have P5 : Held w5 s [.int .i64 r, .int .i64 y, .int .i64 t, .int .i64 a] := by rw [← hW]; exact P4.set 1 (.int .i64 y) (by simp)
    have V5 : WrAt w5 s 0 4 := by rw [← hW]; exact V4.set _ _
    have R5 : WrAt w5 w.heap.size 0 4 := by rw [← hW]; exact R4.set _ _
    have tw : Turn (fun k => k = s) w4 w5 := by rw [← hW]; exact Turn.set w4 ⟨s, 1, none⟩ _
    have hc5 := hc4.new tw (fun q e => by omega)
    have T5 := T4.new tw (fun q e => by omega)
    have hl5 := hc5.lt
    clear hc4 T4 R4 P4 V4 hW q9 f9 tw
    have tt := putL_turn w.heap.size 0 [.int .i64 r, .int .i64 y, .int .i64 t, .int .i64 a] 0 w5
    have i3 := putL_at (b := w.heap.size) (o := 0) [.int .i64 r, .int .i64 y, .int .i64 t, .int .i64 a] 0 R5 (by omega) (by simp)
    have HF := hide (And.intro (hc5.new tt (fun q e => by omega)) (And.intro (T5.new tt (fun q e => by omega)) i3))
    have c1 := P5.inB
    clear hc5 T5 P5 V5 tt i3
    go_wp2_with (first | (refine wpl_load rfl 29 _ rfl _ 0 rfl [.int .i64 r, .int .i64 y, .int .i64 t, .int .i64 a] c1 rowIBucket ?_) | (refine wpl_store_at rfl 29 _ _ rfl _ 0 [.int .i64 r, .int .i64 y, .int .i64 t, .int .i64 a] rfl rfl R5 (by intro v hv; simp only [List.mem_cons, List.not_mem_nil, or_false] at hv; rcases hv with rfl | rfl | rfl | rfl <;> rfl) rowIBucket ?_))
    obtain ⟨c4, t4, i4⟩ := unhide HF
    exact bodyPost_ret (v := .agg #[.int .i64 r, .int .i64 y, .int .i64 t, .int .i64 a]) (res_row (t := 2) (cs := [.int .i64 r, .int .i64 y, .int .i64 t, .int .i64 a]) rfl rfl i4 rowIBucket) rfl ⟨⟨r, y, t, a, rfl⟩, c4, t4⟩
  replace h1 : (x == (1 : Int)) = false := beq_eq_false_iff_ne.2 h1
  by_cases h2 : x = 2
  · subst h2
    have q1 := P3.2 1 _ rfl
    go_wp2_with fail
    refine (l1Int_any b w3.heap.size [-1, (u + 1)] 2 _ (hc3.keep (bnew _ _)) (by omega) (by simp) (by simp) (by simp) ?_).mono ?_
    · exact cells_ints w3 3 [-1, (u + 1)]
    rintro e w4 ⟨⟨y, rfl, hmy⟩, hc4, ht⟩
    clear hmy
    have T4 := (T3.alloc _).trans ht
    have R4 := ((R3.keep (bnew _ _)).turn ht.turn (by omega))
    have P4 := ((P3.keep (bnew _ _)).turn ht.turn (by omega))
    have V4 := ((V3.keep (bnew _ _)).turn ht.turn (by omega))
    have hl4 := hc4.lt
    clear hc3 T3 R3 P3 V3 ht
    clear q1
    have q9 := P4.2 2 _ rfl
    have f9 := V4.free 2 (by omega)
    rw [Nat.zero_add] at f9
    go_upto_region 11 with fail
    generalize hW : World.setCell w4 _ _ = w5
    have P5 : Held w5 s [.int .i64 r, .int .i64 u, .int .i64 y, .int .i64 a] := by rw [← hW]; exact P4.set 2 (.int .i64 y) (by simp)
    have V5 : WrAt w5 s 0 4 := by rw [← hW]; exact V4.set _ _
    have R5 : WrAt w5 w.heap.size 0 4 := by rw [← hW]; exact R4.set _ _
    have tw : Turn (fun k => k = s) w4 w5 := by rw [← hW]; exact Turn.set w4 ⟨s, 2, none⟩ _
    have hc5 := hc4.new tw (fun q e => by omega)
    have T5 := T4.new tw (fun q e => by omega)
    have hl5 := hc5.lt
    clear hc4 T4 R4 P4 V4 hW q9 f9 tw
    have tt := putL_turn w.heap.size 0 [.int .i64 r, .int .i64 u, .int .i64 y, .int .i64 a] 0 w5
    have i3 := putL_at (b := w.heap.size) (o := 0) [.int .i64 r, .int .i64 u, .int .i64 y, .int .i64 a] 0 R5 (by omega) (by simp)
    have HF := hide (And.intro (hc5.new tt (fun q e => by omega)) (And.intro (T5.new tt (fun q e => by omega)) i3))
    have c1 := P5.inB
    clear hc5 T5 P5 V5 tt i3
    go_wp2_with (first | (refine wpl_load rfl 29 _ rfl _ 0 rfl [.int .i64 r, .int .i64 u, .int .i64 y, .int .i64 a] c1 rowIBucket ?_) | (refine wpl_store_at rfl 29 _ _ rfl _ 0 [.int .i64 r, .int .i64 u, .int .i64 y, .int .i64 a] rfl rfl R5 (by intro v hv; simp only [List.mem_cons, List.not_mem_nil, or_false] at hv; rcases hv with rfl | rfl | rfl | rfl <;> rfl) rowIBucket ?_))
    obtain ⟨c4, t4, i4⟩ := unhide HF
    exact bodyPost_ret (v := .agg #[.int .i64 r, .int .i64 u, .int .i64 y, .int .i64 a]) (res_row (t := 2) (cs := [.int .i64 r, .int .i64 u, .int .i64 y, .int .i64 a]) rfl rfl i4 rowIBucket) rfl ⟨⟨r, u, y, a, rfl⟩, c4, t4⟩
  replace h2 : (x == (2 : Int)) = false := beq_eq_false_iff_ne.2 h2
  by_cases h3 : x = 3
  · subst h3
    go_wp2_with fail
    refine (l1Raw_any b w3 hc3).mono ?_
    rintro e w4 ⟨⟨y, rfl, hy⟩, hc4, ht⟩
    have T4 := T3.trans ht
    have R4 := (R3.turn ht.turn (by omega))
    have P4 := (P3.turn ht.turn (by omega))
    have V4 := (V3.turn ht.turn (by omega))
    have hl4 := hc4.lt
    clear hc3 T3 R3 P3 V3 ht
    have q9 := P4.2 3 _ rfl
    have f9 := V4.free 3 (by omega)
    rw [Nat.zero_add] at f9
    go_upto_region 11 with fail
    generalize hW : World.setCell w4 _ _ = w5
    have P5 : Held w5 s [.int .i64 r, .int .i64 u, .int .i64 t, .int .i64 y] := by rw [← hW]; exact P4.set 3 (.int .i64 y) (by simp)
    have V5 : WrAt w5 s 0 4 := by rw [← hW]; exact V4.set _ _
    have R5 : WrAt w5 w.heap.size 0 4 := by rw [← hW]; exact R4.set _ _
    have tw : Turn (fun k => k = s) w4 w5 := by rw [← hW]; exact Turn.set w4 ⟨s, 3, none⟩ _
    have hc5 := hc4.new tw (fun q e => by omega)
    have T5 := T4.new tw (fun q e => by omega)
    have hl5 := hc5.lt
    clear hc4 T4 R4 P4 V4 hW q9 f9 tw
    have tt := putL_turn w.heap.size 0 [.int .i64 r, .int .i64 u, .int .i64 t, .int .i64 y] 0 w5
    have i3 := putL_at (b := w.heap.size) (o := 0) [.int .i64 r, .int .i64 u, .int .i64 t, .int .i64 y] 0 R5 (by omega) (by simp)
    have HF := hide (And.intro (hc5.new tt (fun q e => by omega)) (And.intro (T5.new tt (fun q e => by omega)) i3))
    have c1 := P5.inB
    clear hc5 T5 P5 V5 tt i3
    go_wp2_with (first | (refine wpl_load rfl 29 _ rfl _ 0 rfl [.int .i64 r, .int .i64 u, .int .i64 t, .int .i64 y] c1 rowIBucket ?_) | (refine wpl_store_at rfl 29 _ _ rfl _ 0 [.int .i64 r, .int .i64 u, .int .i64 t, .int .i64 y] rfl rfl R5 (by intro v hv; simp only [List.mem_cons, List.not_mem_nil, or_false] at hv; rcases hv with rfl | rfl | rfl | rfl <;> rfl) rowIBucket ?_))
    obtain ⟨c4, t4, i4⟩ := unhide HF
    exact bodyPost_ret (v := .agg #[.int .i64 r, .int .i64 u, .int .i64 t, .int .i64 y]) (res_row (t := 2) (cs := [.int .i64 r, .int .i64 u, .int .i64 t, .int .i64 y]) rfl rfl i4 rowIBucket) rfl ⟨⟨r, u, t, y, rfl⟩, c4, t4⟩
  replace h3 : (x == (3 : Int)) = false := beq_eq_false_iff_ne.2 h3
  have tt := putL_turn w.heap.size 0 [.int .i64 r, .int .i64 u, .int .i64 t, .int .i64 a] 0 w3
  have i3 := putL_at (b := w.heap.size) (o := 0) [.int .i64 r, .int .i64 u, .int .i64 t, .int .i64 a] 0 R3 (by omega) (by simp)
  have HF := hide (And.intro (hc3.new tt (fun q e => by omega)) (And.intro (T3.new tt (fun q e => by omega)) i3))
  have c1 := P3.inB
  clear hc3 T3 P3 V3 tt i3
  go_wp2_with (first | (refine wpl_load rfl 29 _ rfl _ 0 rfl [.int .i64 r, .int .i64 u, .int .i64 t, .int .i64 a] c1 rowIBucket ?_) | (refine wpl_store_at rfl 29 _ _ rfl _ 0 [.int .i64 r, .int .i64 u, .int .i64 t, .int .i64 a] rfl rfl R3 (by intro v hv; simp only [List.mem_cons, List.not_mem_nil, or_false] at hv; rcases hv with rfl | rfl | rfl | rfl <;> rfl) rowIBucket ?_))
  obtain ⟨c4, t4, i4⟩ := unhide HF
  exact bodyPost_ret (v := .agg #[.int .i64 r, .int .i64 u, .int .i64 t, .int .i64 a]) (res_row (t := 2) (cs := [.int .i64 r, .int .i64 u, .int .i64 t, .int .i64 a]) rfl rfl i4 rowIBucket) rfl ⟨⟨r, u, t, a, rfl⟩, c4, t4⟩
end Go.Proofs.Ytchinpgjaddnkaa
