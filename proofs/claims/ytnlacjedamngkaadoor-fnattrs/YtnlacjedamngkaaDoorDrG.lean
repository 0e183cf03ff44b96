/-
  What draws attributes for a law: contracts of the specification's functions.
-/
import Derived.Test.YtnlacjedamngkaaDoorDrC2
import Derived.Test.YtnlacjedamngkaaDoorBridge
namespace Go.Proofs.YtnlacjedamngkaaDoor
open Go.ChangeShapes Go.WideShapes Go.ChangeAt Go.RowKit
set_option linter.unusedVariables false
set_option maxRecDepth 100000
variable {B : Nat}

set_option maxHeartbeats 1000000 in
theorem l2Attr_any (b : Nat) (w : World) (hc : Cur B w b) :
    Calls Tryd.prog 36 #[.pointer (some ⟨b, 0, none⟩)] w fun e w' => (∃ x : AttrD, e = .returned (.agg #[.string x.1, .bool x.2.1, .int .i64 x.2.2.1, .string x.2.2.2]) ∧ TinyA x) ∧ Cur B w' b ∧ Turns b w w' := by
  have hlt := hc.lt
  have hB := hc.high
  have T0 := Turns.allocs (b := b) (w := w) (.cells #[.string ⟨#[]⟩, .bool false, .int .i64 0, .string ⟨#[]⟩] 25)
  have R0 := WrAt.new w #[.string ⟨#[]⟩, .bool false, .int .i64 0, .string ⟨#[]⟩] 25 4 rfl
  have hc0 := hc.keep (bnew w (.cells #[.string ⟨#[]⟩, .bool false, .int .i64 0, .string ⟨#[]⟩] 25))
  clear hc
  go_enter Tryd.func36, Tryd.ntmps36
  go_upto_region 1 with fail
  generalize World.alloc w _ = w0 at *
  have hl0 := hc0.lt
  go_wp2_with fail
  refine (l1Names_any b w0 hc0).mono ?_
  rintro e w1 ⟨⟨k0, rfl, hk0⟩, hc1, ht⟩
  have T1 := T0.trans ht
  have R1 := (R0.turn ht.turn (by omega))
  have hl1 := hc1.lt
  clear hc0 T0 R0 ht
  go_wp2_with fail
  refine (l2One_any b k0 hk0 w1 hc1).mono ?_
  rintro e w2 ⟨⟨x, rfl, hx⟩, hc2, ht⟩
  have T2 := T1.trans ht
  have R2 := (R1.turn ht.turn (by omega))
  have hl2 := hc2.lt
  clear hc1 T1 R1 ht
  obtain ⟨kk, bb, nn, tq⟩ := x
  obtain ⟨hq1, hq2⟩ := hx
  replace hq1 : kk.size ≤ 40 := hq1
  replace hq2 : tq.size ≤ 40 := hq2
  have hc3 := hc2.keep (bnew w2 (.cells #[.string kk, .bool bb, .int .i64 nn, .string tq] 25))
  have T3 := T2.alloc (.cells #[.string kk, .bool bb, .int .i64 nn, .string tq] 25)
  have R3 := R2.keep (bnew w2 (.cells #[.string kk, .bool bb, .int .i64 nn, .string tq] 25))
  have P3 := Held.new w2 [.string kk, .bool bb, .int .i64 nn, .string tq] 25
  have V3 := WrAt.new w2 #[.string kk, .bool bb, .int .i64 nn, .string tq] 25 4 rfl
  have hsb : b < w2.heap.size := hc2.lt
  have hsB : B ≤ w2.heap.size := hc2.high
  have hsw : w.heap.size < w2.heap.size := R2.1
  clear hc2 T2 R2
  go_upto_region 2 with (first | (refine wpl_store_new rfl _ _ _ rfl _ [.string kk, .bool bb, .int .i64 nn, .string tq] rfl rfl ?_ (by intro v hv; simp only [List.mem_cons, List.not_mem_nil, or_false] at hv; rcases hv with rfl | rfl | rfl | rfl <;> rfl) rowIAttr ?_; rfl))
  generalize w2.heap.size = s at *
  generalize hW : World.alloc w2 _ = w3 at *
  clear hW
  have hl3 := hc3.lt
  go_wp2_with fail
  refine (l1Below_any b 6 (by omega) w3 hc3).mono ?_
  rintro e w4 ⟨⟨x, rfl, hx0, hx1⟩, hc4, ht⟩
  have T4 := T3.trans ht
  have R4 := (R3.turn ht.turn (by omega))
  have P4 := (P3.turn ht.turn (by omega))
  have V4 := (V3.turn ht.turn (by omega))
  have hl4 := hc4.lt
  clear hc3 T3 R3 P3 V3 ht
  by_cases h0 : x = 0
  · subst h0
    go_wp2_with fail
    refine (l1AnyName_any b w4 hc4).mono ?_
    rintro e w5 ⟨⟨y, rfl, hy9⟩, hc5, ht⟩
    have T5 := T4.trans ht
    have R5 := (R4.turn ht.turn (by omega))
    have P5 := (P4.turn ht.turn (by omega))
    have V5 := (V4.turn ht.turn (by omega))
    have hl5 := hc5.lt
    clear hc4 T4 R4 P4 V4 ht
    have q9 := P5.2 0 _ rfl
    have f9 := V5.free 0 (by omega)
    rw [Nat.zero_add] at f9
    go_upto_region 9 with fail
    generalize hW : World.setCell w5 _ _ = w6
    have P6 : Held w6 s [.string y, .bool bb, .int .i64 nn, .string tq] := by rw [← hW]; exact P5.set 0 (.string y) (by simp)
    have V6 : WrAt w6 s 0 4 := by rw [← hW]; exact V5.set _ _
    have R6 : WrAt w6 w.heap.size 0 4 := by rw [← hW]; exact R5.set _ _
    have tw : Turn (fun k => k = s) w5 w6 := by rw [← hW]; exact Turn.set w5 ⟨s, 0, none⟩ _
    have hc6 := hc5.new tw (fun q e => by omega)
    have T6 := T5.new tw (fun q e => by omega)
    have hl6 := hc6.lt
    clear hc5 T5 R5 P5 V5 hW q9 f9 tw
    have tt := putL_turn w.heap.size 0 [.string y, .bool bb, .int .i64 nn, .string tq] 0 w6
    have i3 := putL_at (b := w.heap.size) (o := 0) [.string y, .bool bb, .int .i64 nn, .string tq] 0 R6 (by omega) (by simp)
    have HF := hide (And.intro (hc6.new tt (fun q e => by omega)) (And.intro (T6.new tt (fun q e => by omega)) i3))
    have c1 := P6.inB
    clear hc6 T6 P6 V6 tt i3
    go_wp2_with (first | (refine wpl_load rfl 25 _ rfl _ 0 rfl [.string y, .bool bb, .int .i64 nn, .string tq] c1 rowIAttr ?_) | (refine wpl_store_at rfl 25 _ _ rfl _ 0 [.string y, .bool bb, .int .i64 nn, .string tq] rfl rfl R6 (by intro v hv; simp only [List.mem_cons, List.not_mem_nil, or_false] at hv; rcases hv with rfl | rfl | rfl | rfl <;> rfl) rowIAttr ?_))
    obtain ⟨c4, t4, i4⟩ := unhide HF
    exact bodyPost_ret (v := .agg #[.string y, .bool bb, .int .i64 nn, .string tq]) (res_row (t := 2) (cs := [.string y, .bool bb, .int .i64 nn, .string tq]) rfl rfl i4 rowIAttr) rfl ⟨⟨(y, bb, nn, tq), rfl, hy9, hq2⟩, c4, t4⟩
  replace h0 : (x == (0 : Int)) = false := beq_eq_false_iff_ne.2 h0
  by_cases h1 : x = 1
  · subst h1
    go_wp2_with fail
    refine (l1Raw_any b w4 hc4).mono ?_
    rintro e w5 ⟨⟨y, rfl, hy⟩, hc5, ht⟩
    have T5 := T4.trans ht
    have R5 := (R4.turn ht.turn (by omega))
    have P5 := (P4.turn ht.turn (by omega))
    have V5 := (V4.turn ht.turn (by omega))
    have hl5 := hc5.lt
    clear hc4 T4 R4 P4 V4 ht
    have q9 := P5.2 2 _ rfl
    have f9 := V5.free 2 (by omega)
    rw [Nat.zero_add] at f9
    go_upto_region 9 with fail
    generalize hW : World.setCell w5 _ _ = w6
    have P6 : Held w6 s [.string kk, .bool bb, .int .i64 y, .string tq] := by rw [← hW]; exact P5.set 2 (.int .i64 y) (by simp)
    have V6 : WrAt w6 s 0 4 := by rw [← hW]; exact V5.set _ _
    have R6 : WrAt w6 w.heap.size 0 4 := by rw [← hW]; exact R5.set _ _
    have tw : Turn (fun k => k = s) w5 w6 := by rw [← hW]; exact Turn.set w5 ⟨s, 2, none⟩ _
    have hc6 := hc5.new tw (fun q e => by omega)
    have T6 := T5.new tw (fun q e => by omega)
    have hl6 := hc6.lt
    clear hc5 T5 R5 P5 V5 hW q9 f9 tw
    have tt := putL_turn w.heap.size 0 [.string kk, .bool bb, .int .i64 y, .string tq] 0 w6
    have i3 := putL_at (b := w.heap.size) (o := 0) [.string kk, .bool bb, .int .i64 y, .string tq] 0 R6 (by omega) (by simp)
    have HF := hide (And.intro (hc6.new tt (fun q e => by omega)) (And.intro (T6.new tt (fun q e => by omega)) i3))
    have c1 := P6.inB
    clear hc6 T6 P6 V6 tt i3
    go_wp2_with (first | (refine wpl_load rfl 25 _ rfl _ 0 rfl [.string kk, .bool bb, .int .i64 y, .string tq] c1 rowIAttr ?_) | (refine wpl_store_at rfl 25 _ _ rfl _ 0 [.string kk, .bool bb, .int .i64 y, .string tq] rfl rfl R6 (by intro v hv; simp only [List.mem_cons, List.not_mem_nil, or_false] at hv; rcases hv with rfl | rfl | rfl | rfl <;> rfl) rowIAttr ?_))
    obtain ⟨c4, t4, i4⟩ := unhide HF
    exact bodyPost_ret (v := .agg #[.string kk, .bool bb, .int .i64 y, .string tq]) (res_row (t := 2) (cs := [.string kk, .bool bb, .int .i64 y, .string tq]) rfl rfl i4 rowIAttr) rfl ⟨⟨(kk, bb, y, tq), rfl, hq1, hq2⟩, c4, t4⟩
  replace h1 : (x == (1 : Int)) = false := beq_eq_false_iff_ne.2 h1
  by_cases h2 : x = 2
  · subst h2
    go_wp2_with fail
    refine (l1Plain_any b w4 hc4).mono ?_
    rintro e w5 ⟨⟨y, rfl, hy9⟩, hc5, ht⟩
    have T5 := T4.trans ht
    have R5 := (R4.turn ht.turn (by omega))
    have P5 := (P4.turn ht.turn (by omega))
    have V5 := (V4.turn ht.turn (by omega))
    have hl5 := hc5.lt
    clear hc4 T4 R4 P4 V4 ht
    have q9 := P5.2 3 _ rfl
    have f9 := V5.free 3 (by omega)
    rw [Nat.zero_add] at f9
    go_upto_region 9 with fail
    generalize hW : World.setCell w5 _ _ = w6
    have P6 : Held w6 s [.string kk, .bool bb, .int .i64 nn, .string y] := by rw [← hW]; exact P5.set 3 (.string y) (by simp)
    have V6 : WrAt w6 s 0 4 := by rw [← hW]; exact V5.set _ _
    have R6 : WrAt w6 w.heap.size 0 4 := by rw [← hW]; exact R5.set _ _
    have tw : Turn (fun k => k = s) w5 w6 := by rw [← hW]; exact Turn.set w5 ⟨s, 3, none⟩ _
    have hc6 := hc5.new tw (fun q e => by omega)
    have T6 := T5.new tw (fun q e => by omega)
    have hl6 := hc6.lt
    clear hc5 T5 R5 P5 V5 hW q9 f9 tw
    have tt := putL_turn w.heap.size 0 [.string kk, .bool bb, .int .i64 nn, .string y] 0 w6
    have i3 := putL_at (b := w.heap.size) (o := 0) [.string kk, .bool bb, .int .i64 nn, .string y] 0 R6 (by omega) (by simp)
    have HF := hide (And.intro (hc6.new tt (fun q e => by omega)) (And.intro (T6.new tt (fun q e => by omega)) i3))
    have c1 := P6.inB
    clear hc6 T6 P6 V6 tt i3
    go_wp2_with (first | (refine wpl_load rfl 25 _ rfl _ 0 rfl [.string kk, .bool bb, .int .i64 nn, .string y] c1 rowIAttr ?_) | (refine wpl_store_at rfl 25 _ _ rfl _ 0 [.string kk, .bool bb, .int .i64 nn, .string y] rfl rfl R6 (by intro v hv; simp only [List.mem_cons, List.not_mem_nil, or_false] at hv; rcases hv with rfl | rfl | rfl | rfl <;> rfl) rowIAttr ?_))
    obtain ⟨c4, t4, i4⟩ := unhide HF
    exact bodyPost_ret (v := .agg #[.string kk, .bool bb, .int .i64 nn, .string y]) (res_row (t := 2) (cs := [.string kk, .bool bb, .int .i64 nn, .string y]) rfl rfl i4 rowIAttr) rfl ⟨⟨(kk, bb, nn, y), rfl, hq1, hy9⟩, c4, t4⟩
  replace h2 : (x == (2 : Int)) = false := beq_eq_false_iff_ne.2 h2
  have tt := putL_turn w.heap.size 0 [.string kk, .bool bb, .int .i64 nn, .string tq] 0 w4
  have i3 := putL_at (b := w.heap.size) (o := 0) [.string kk, .bool bb, .int .i64 nn, .string tq] 0 R4 (by omega) (by simp)
  have HF := hide (And.intro (hc4.new tt (fun q e => by omega)) (And.intro (T4.new tt (fun q e => by omega)) i3))
  have c1 := P4.inB
  clear hc4 T4 P4 V4 tt i3
  go_wp2_with (first | (refine wpl_load rfl 25 _ rfl _ 0 rfl [.string kk, .bool bb, .int .i64 nn, .string tq] c1 rowIAttr ?_) | (refine wpl_store_at rfl 25 _ _ rfl _ 0 [.string kk, .bool bb, .int .i64 nn, .string tq] rfl rfl R4 (by intro v hv; simp only [List.mem_cons, List.not_mem_nil, or_false] at hv; rcases hv with rfl | rfl | rfl | rfl <;> rfl) rowIAttr ?_))
  obtain ⟨c4, t4, i4⟩ := unhide HF
  exact bodyPost_ret (v := .agg #[.string kk, .bool bb, .int .i64 nn, .string tq]) (res_row (t := 2) (cs := [.string kk, .bool bb, .int .i64 nn, .string tq]) rfl rfl i4 rowIAttr) rfl ⟨⟨(kk, bb, nn, tq), rfl, hq1, hq2⟩, c4, t4⟩
set_option maxHeartbeats 1000000 in
theorem DrawAttrOk_any (p : Option Addr) (len cap : Nat) (w : World) (hl : len ≤ 1048576) (hy : Bytes w p len) :
    Calls Tryd.prog 6 #[.slice p len cap] w fun e w' => (∃ x : AttrD, e = .returned (.agg #[.string x.1, .bool x.2.1, .int .i64 x.2.2.1, .string x.2.2.2]) ∧ TinyA x) ∧ Below w.heap.size w w' := by
  have bz := bnew w (.cells #[.string ⟨#[]⟩, .bool false, .int .i64 0, .string ⟨#[]⟩] 25)
  have R0 := WrAt.new w #[.string ⟨#[]⟩, .bool false, .int .i64 0, .string ⟨#[]⟩] 25 4 rfl
  have hyz := hy.keep bz
  have hz0 : (w.alloc (.cells #[.string ⟨#[]⟩, .bool false, .int .i64 0, .string ⟨#[]⟩] 25)).heap.size = w.heap.size + 1 := by simp
  go_enter Tryd.func6, Tryd.ntmps6
  go_upto_region 1 with fail
  generalize World.alloc w _ = w0 at *
  go_wp2_with fail
  refine (l1New_any p len cap w0 hl hyz).mono ?_
  rintro e w1 ⟨b, rfl, hb, hc1, hw1⟩
  have Z1 := bthen bz hw1
  have R1 := R0.keep hw1
  have hlt1 := hc1.lt
  have hs1 := hw1.size
  clear hyz bz R0 hw1
  go_wp2_with fail
  refine (l2Attr_any b w1 hc1).mono ?_
  rintro e w2 ⟨⟨x, rfl, hx⟩, hc2, ht2⟩
  obtain ⟨kk, bb, nn, tq⟩ := x
  have HX := hide hx
  have Z2 := Z1.trans (ht2.below (by omega) (by omega))
  have R2 := R1.turn ht2.turn (by omega)
  have tt9 := putL_turn w.heap.size 0 [.string kk, .bool bb, .int .i64 nn, .string tq] 0 w2
  have i3 := putL_at (b := w.heap.size) (o := 0) [.string kk, .bool bb, .int .i64 nn, .string tq] 0 R2 (by omega) (by simp)
  have HF := hide (And.intro (Z2.trans (tt9.belowFrom Z2.size (fun q e => by omega))) i3)
  clear hc1 ht2 Z1 R1 hc2 Z2 tt9 i3 hx
  go_wp2_with (first | (refine wpl_store_at rfl 25 _ _ rfl _ 0 [.string kk, .bool bb, .int .i64 nn, .string tq] rfl rfl R2 (by intro v hv; simp only [List.mem_cons, List.not_mem_nil, or_false] at hv; rcases hv with rfl | rfl | rfl | rfl <;> rfl) rowIAttr ?_))
  exact bodyPost_ret (v := .agg #[.string kk, .bool bb, .int .i64 nn, .string tq]) (res_row (t := 2) (cs := [.string kk, .bool bb, .int .i64 nn, .string tq]) rfl rfl (unhide HF).2 rowIAttr) rfl ⟨⟨(kk, bb, nn, tq), rfl, unhide HX⟩, (unhide HF).1⟩
theorem attrs_of {base : Nat} {w : World} {v : Value} {l : List AttrD} (h : GrowL 4 attrO 25 base w v l) (hl : l.length ≤ 1048576) : AttrsAt w v l := attrs_old ((h.done (by omega)).read attrR_widens (fun _ _ _ _ h => h))
theorem DrawAttrsOk_any (p : Option Addr) (len cap : Nat) (w : World) (hl : len ≤ 1048576) (hy : Bytes w p len) :
    Calls Tryd.prog 7 #[.slice p len cap] w fun e w' => (∃ v l, e = .returned v ∧ AttrsAt w' v l) ∧ Below w.heap.size w w' := by
  go_enter Tryd.func7, Tryd.ntmps7
  go_wp2_with fail
  refine (l1New_any p len cap w hl hy).mono ?_
  rintro e w1 ⟨b, rfl, hb, hc1, hw1⟩
  have hs1 := hw1.size
  go_wp2_with fail
  refine (l2Any_any b w1 hc1).mono ?_
  rintro e w2 ⟨⟨v, l, rfl, hll, ha, hg⟩, hc2, ht2⟩
  have hF := hide (attrs_of hg (by omega))
  have hB := hide (hw1.trans (ht2.below hb hs1))
  clear hc1 hw1 ha hg hc2 ht2
  go_wp2
  go_ret
  exact ⟨⟨_, l, rfl, unhide hF⟩, unhide hB⟩
theorem DrawFindAttr_any (p : Option Addr) (len cap : Nat) (w : World) (hl : len ≤ 1048576) (hy : Bytes w p len) :
    Calls Tryd.prog 8 #[.slice p len cap] w fun e w' => (∃ v l key, e = .returned (.tuple #[v, .string key]) ∧ AttrsAt w' v l) ∧ Below w.heap.size w w' := by
  go_enter Tryd.func8, Tryd.ntmps8
  go_wp2_with fail
  refine (l1New_any p len cap w hl hy).mono ?_
  rintro e w1 ⟨b, rfl, hb, hc1, hw1⟩
  have hs1 := hw1.size
  have hlt1 := hc1.lt
  have hB1 := hc1.high
  go_wp2_with fail
  refine (l2Any_any b w1 hc1).mono ?_
  rintro e w2 ⟨⟨v, l, rfl, hll, ha, hg⟩, hc2, ht2⟩
  have hs2 := ht2.size
  clear hc1 ha
  go_wp2_with fail
  refine (l1AnyName_any b w2 hc2).mono ?_
  rintro e w3 ⟨⟨key, rfl, hkey⟩, hc3, ht3⟩
  have hF := hide (attrs_of (hg.keepT attrO_keeps ht3.turn (fun k e => by omega)) (by omega))
  have hB := hide (hw1.trans ((ht2.trans ht3).below hb hs1))
  clear hc2 hw1 hg hc3 ht2 ht3
  go_wp2
  go_ret2
  exact ⟨⟨_, l, key, rfl, unhide hF⟩, unhide hB⟩
end Go.Proofs.YtnlacjedamngkaaDoor
