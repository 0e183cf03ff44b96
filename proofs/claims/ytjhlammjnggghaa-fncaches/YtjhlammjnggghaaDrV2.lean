/-
  What a law on remembered verdicts draws.
-/
import Derived.Test.YtjhlammjnggghaaDrV
import Derived.Test.YtjhlammjnggghaaAbs2
namespace Go.Proofs.Ytjhlammjnggghaa
open Go.ChangeShapes Go.WideShapes Go.ChangeAt Go.RowKit
set_option linter.unusedVariables false
set_option maxRecDepth 100000

/-- A drawn list of verdicts: where it lies. -/
def SeeV (w : World) (v : Value) (l : List VerdictD) : Prop := LAt 3 verdictR w All1 v l ∧ AllV l
theorem SeeV.keep {w w' : World} {v : Value} {l : List VerdictD} (h : SeeV w v l) (hb : Below w.heap.size w w') : SeeV w' v l := ⟨h.1.keep verdictR_keeps hb, h.2⟩
theorem see_of {base : Nat} {w : World} {v : Value} {l : List VerdictD} (h : RowV base w v l) (hl : l.length ≤ 1048576) (ha : AllV l) : SeeV w v l := ⟨(h.read hl).widens verdictR_widens (fun _ _ => trivial), ha⟩
theorem res_row3 {P : Program} {fn : Func} {tmps : Array Value} {w : World} {s t u : Tmp} {ty : TypeId} {b o : Nat} {cs : List Value} {v0 v : Value} (hr : fn.results = #[.tmp s, .cell t ty, .tmp u]) (hs : tmps.getD s undef = v0) (ht : tmps.getD t undef = .pointer (some ⟨b, o, none⟩)) (hu : tmps.getD u undef = v) (h : InB w b o cs) (hrow : RowT P ty cs.length) :
    (results fn tmps).run P w = .ok (.tuple #[v0, .agg cs.toArray, v]) w := by
  obtain ⟨d, hu', hd, hi⟩ := hrow
  have hl := run_loadVar_mid (P := P) w b o ty cs d h hu' hd hi
  unfold results
  rw [hr]
  have hs' : tmps[s]?.getD undef = v0 := by simpa using hs
  have ht' : tmps[t]?.getD undef = .pointer (some ⟨b, o, none⟩) := by simpa using ht
  have hu2 : tmps[u]?.getD undef = v := by simpa using hu
  simp [hs', ht', hu2, asAddr, hl]
theorem DrawCacheOk_any (a : Option Addr) (len cap : Nat) (w : World) (hl : len ≤ 1048576) (hy : Bytes w a len) :
    Calls Try.prog 37 #[.slice a len cap] w fun e w' => (∃ (v : Value) (l : List VerdictD) (n : Int), e = .returned (.tuple #[v, .int .i64 n]) ∧ l.length ≤ 6 ∧ 0 ≤ n ∧ n < 8 ∧ SeeV w' v l) ∧ Below w.heap.size w w' := by
  go_enter Try.func37, Try.ntmps37
  go_wp2_with fail
  refine (l1New_any a len cap w hl hy).mono ?_
  rintro e w1 ⟨b, rfl, hb, hc1, hw1⟩
  have hs1 := hw1.size
  have hlt1 := hc1.lt
  go_wp2_with fail
  refine (l12Any_any b w1 hc1).mono ?_
  rintro e w2 ⟨⟨v, l, rfl, hll, ha, hrow⟩, hc2, ht2⟩
  clear hc1
  go_wp2_with fail
  refine (l1Below_any b 8 (by omega) w2 hc2).mono ?_
  rintro e w3 ⟨⟨n, rfl, hn0, hn1⟩, hc3, ht3⟩
  have hF := hide (see_of (ownsV_turn hrow ht3.turn (fun k e => by omega)) (by omega) ha)
  have hB := hide (hw1.trans ((ht2.trans ht3).below hb hs1))
  clear hc2 hw1 ha hrow hc3 ht2 ht3
  go_wp2
  go_ret2
  exact ⟨⟨_, l, n, rfl, hll, hn0, hn1, unhide hF⟩, unhide hB⟩
theorem DrawVerdictOf_any (a : Option Addr) (len cap : Nat) (w : World) (hl : len ≤ 1048576) (hy : Bytes w a len) :
    Calls Try.prog 38 #[.slice a len cap] w fun e w' => (∃ (v : Value) (l : List VerdictD) (n : Int), e = .returned (.tuple #[v, .int .i64 n]) ∧ l.length ≤ 6 ∧ 0 ≤ n ∧ n < 9 ∧ SeeV w' v l) ∧ Below w.heap.size w w' := by
  go_enter Try.func38, Try.ntmps38
  go_wp2_with fail
  refine (l1New_any a len cap w hl hy).mono ?_
  rintro e w1 ⟨b, rfl, hb, hc1, hw1⟩
  have hs1 := hw1.size
  have hlt1 := hc1.lt
  go_wp2_with fail
  refine (l12Any_any b w1 hc1).mono ?_
  rintro e w2 ⟨⟨v, l, rfl, hll, ha, hrow⟩, hc2, ht2⟩
  clear hc1
  go_wp2_with fail
  refine (l1Below_any b 9 (by omega) w2 hc2).mono ?_
  rintro e w3 ⟨⟨n, rfl, hn0, hn1⟩, hc3, ht3⟩
  have hF := hide (see_of (ownsV_turn hrow ht3.turn (fun k e => by omega)) (by omega) ha)
  have hB := hide (hw1.trans ((ht2.trans ht3).below hb hs1))
  clear hc2 hw1 ha hrow hc3 ht2 ht3
  go_wp2
  go_ret2
  exact ⟨⟨_, l, n, rfl, hll, hn0, hn1, unhide hF⟩, unhide hB⟩
theorem DrawForgets_any (a : Option Addr) (len cap : Nat) (w : World) (hl : len ≤ 1048576) (hy : Bytes w a len) :
    Calls Try.prog 41 #[.slice a len cap] w fun e w' => (∃ (v : Value) (l : List VerdictD) (u : Value) (m : List VerdictD), e = .returned (.tuple #[v, u]) ∧ l.length ≤ 6 ∧ m.length ≤ 6 ∧ SeeV w' v l ∧ SeeV w' u m) ∧ Below w.heap.size w w' := by
  go_enter Try.func41, Try.ntmps41
  go_wp2_with fail
  refine (l1New_any a len cap w hl hy).mono ?_
  rintro e w1 ⟨b, rfl, hb, hc1, hw1⟩
  have hs1 := hw1.size
  have hlt1 := hc1.lt
  go_wp2_with fail
  refine (l12Any_any b w1 hc1).mono ?_
  rintro e w2 ⟨⟨v, l, rfl, hll, ha, hrow⟩, hc2, ht2⟩
  clear hc1
  go_wp2_with fail
  refine (l12Any_any b w2 hc2).mono ?_
  rintro e w3 ⟨⟨u, m, rfl, hml, ha3, hrow3⟩, hc3, ht3⟩
  have hF := hide (And.intro (see_of (ownsV_turn hrow ht3.turn (fun k e => by omega)) (by omega) ha) (see_of hrow3 (by omega) ha3))
  have hB := hide (hw1.trans ((ht2.trans ht3).below hb hs1))
  clear hc2 hw1 ha hrow hc3 ht2 ht3 ha3 hrow3
  go_wp2
  go_ret2
  exact ⟨⟨_, l, _, m, rfl, hll, hml, (unhide hF).1, (unhide hF).2⟩, unhide hB⟩
set_option maxHeartbeats 1000000 in
theorem DrawRemember_any (p : Option Addr) (len cap : Nat) (w : World) (hl : len ≤ 1048576) (hy : Bytes w p len) :
    Calls Try.prog 34 #[.slice p len cap] w fun e w' => (∃ (v : Value) (l : List VerdictD) (x : VerdictD) (n : Int), e = .returned (.tuple #[v, .agg #[.int .i64 x.trace, .int .i64 x.stamp, .bool x.keep], .int .i64 n]) ∧ l.length ≤ 6 ∧ SmallV x ∧ -1 ≤ n ∧ n < 7 ∧ SeeV w' v l) ∧ Below w.heap.size w w' := by
  have bz := bnew w (.cells #[.int .i64 0, .int .i64 0, .bool false] 59)
  have R0 := WrAt.new w #[.int .i64 0, .int .i64 0, .bool false] 59 3 rfl
  have hyz := hy.keep bz
  have hz0 : (w.alloc (.cells #[.int .i64 0, .int .i64 0, .bool false] 59)).heap.size = w.heap.size + 1 := by simp
  go_enter Try.func34, Try.ntmps34
  go_upto_region 1 with fail
  generalize World.alloc w _ = w0 at *
  go_wp2_with fail
  refine (l1New_any p len cap w0 hl hyz).mono ?_
  rintro e w1 ⟨b, rfl, hb, hc1, hw1⟩
  have Z1 := bthen bz hw1
  have R1 := R0.keep hw1
  have hlt1 := hc1.lt
  have hs1 := hw1.size
  clear hyz bz R0 hw1
  go_wp2_with fail
  refine (l12Any_any b w1 hc1).mono ?_
  rintro e w2 ⟨⟨v, l, rfl, hll, ha, hrow⟩, hc2, ht2⟩
  have HA := hide ha
  have HR := hide hrow
  clear hc1 ha hrow
  go_wp2_with fail
  refine (l1Below_any b 7 (by omega) w2 hc2).mono ?_
  rintro e w3 ⟨⟨x, rfl, hx0, hx1⟩, hc3, ht3⟩
  have T3 := ht2.trans ht3
  have HR3 := hide (ownsV_turn (unhide HR) ht3.turn (fun k e => by omega))
  clear hc2 ht2 ht3 HR
  go_wp2_with fail
  refine (l1Below_any b 9 (by omega) w3 hc3).mono ?_
  rintro e w4 ⟨⟨y, rfl, hy0, hy1⟩, hc4, ht4⟩
  have T4 := T3.trans ht4
  have HR4 := hide (ownsV_turn (unhide HR3) ht4.turn (fun k e => by omega))
  clear hc3 T3 ht4 HR3
  go_wp2_with fail
  refine (l1Once_any b 2 (by omega) w4 hc4).mono ?_
  rintro e w5 ⟨⟨z, rfl⟩, hc5, ht5⟩
  have T5 := T4.trans ht5
  have HR5 := hide (ownsV_turn (unhide HR4) ht5.turn (fun k e => by omega))
  clear hc4 T4 ht5 HR4
  go_wp2_with fail
  refine (l1Below_any b 8 (by omega) w5 hc5).mono ?_
  rintro e w6 ⟨⟨n, rfl, hn0, hn1⟩, hc6, ht6⟩
  have T6 := T5.trans ht6
  have hrow6 := ownsV_turn (unhide HR5) ht6.turn (fun k e => by omega)
  have Z6 := Z1.trans (T6.below (by omega) (by omega))
  have R6 := R1.turn T6.turn (by omega)
  have tt9 := putL_turn w.heap.size 0 [.int .i64 (1 + x), .int .i64 (1 + y), .bool z] 0 w6
  have i6 := putL_at (b := w.heap.size) (o := 0) [.int .i64 (1 + x), .int .i64 (1 + y), .bool z] 0 R6 (by omega) (by simp)
  have hsee := see_of (ownsV_turn hrow6 tt9 (fun k e => by have e2 : k = w.heap.size := e; omega)) (by omega) (unhide HA)
  have HF := hide (And.intro (Z6.trans (tt9.belowFrom Z6.size (fun q e => by have e2 : q = w.heap.size := e; omega))) (And.intro i6 hsee))
  clear hc5 T5 ht6 HR5 T6 hrow6 Z6 Z1 R1 hc6 tt9 i6 hsee
  go_wp2_with (first | (refine wpl_store_at rfl 59 _ _ rfl _ 0 [.int .i64 (1 + x), .int .i64 (1 + y), .bool z] rfl rfl R6 (by intro v hv; simp only [List.mem_cons, List.not_mem_nil, or_false] at hv; rcases hv with rfl | rfl | rfl <;> rfl) rowIVerdict ?_))
  obtain ⟨hB, hi, hS⟩ := unhide HF
  exact bodyPost_ret (v := .tuple #[v, .agg #[.int .i64 (1 + x), .int .i64 (1 + y), .bool z], .int .i64 (n - 1)]) (res_row3 (s := 2) (t := 3) (u := 4) (cs := [.int .i64 (1 + x), .int .i64 (1 + y), .bool z]) rfl rfl rfl rfl hi rowIVerdict) rfl ⟨⟨v, l, ⟨1 + x, 1 + y, z⟩, n - 1, rfl, hll, ⟨by show (0 : Int) ≤ 1 + x; omega, by show 1 + x ≤ (1000 : Int); omega⟩, by omega, by omega, hS⟩, hB⟩
end Go.Proofs.Ytjhlammjnggghaa
