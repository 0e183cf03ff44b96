/-
  Conf: what lies in memory, read and owned; contracts of the law's own sizes, copies and comparisons.
-/
import Derived.Test.YtlhjhnjpmafceaaTPol
import Derived.Test.YtlhjhnjpmafceaaToSt
import Derived.Deep.CutRange
namespace Go.Proofs.Ytlhjhnjpmafceaa
open Go.ChangeShapes Go.WideShapes Go.ChangeAt Go.RowKit
set_option linter.unusedVariables false
set_option maxRecDepth 100000

structure ConfD where
  stripes : Int
  wait : Int
  budget : Int
  cache : Int
  queue : Int
  rate : Int
  burst : Int
  rule : PolD
def confBulk (x : ConfD) : Nat := x.rule.key.size + x.rule.text.size + bulkL polBulk x.rule.l
def confR (w : World) (S : Nat → Prop) (cs : List Value) (x : ConfD) : Prop := ∃ s0, cs = [.int .i64 x.stripes, .int .i64 x.wait, .int .i64 x.budget, .int .i64 x.cache, .int .i64 x.queue, .int .i64 x.rate, .int .i64 x.burst, .int .i64 x.rule.kind, .int .i64 x.rule.n, .string x.rule.key, .string x.rule.text, s0] ∧ x.rule.key.size ≤ maxLen ∧ x.rule.text.size ≤ maxLen ∧ LAtC 5 polR w S s0 x.rule.l
def confO (w : World) (S : Nat → Prop) (cs : List Value) (x : ConfD) : Prop := ∃ s0, cs = [.int .i64 x.stripes, .int .i64 x.wait, .int .i64 x.budget, .int .i64 x.cache, .int .i64 x.queue, .int .i64 x.rate, .int .i64 x.burst, .int .i64 x.rule.kind, .int .i64 x.rule.n, .string x.rule.key, .string x.rule.text, s0] ∧ x.rule.key.size ≤ maxLen ∧ x.rule.text.size ≤ maxLen ∧ LOwC 5 polO w S s0 x.rule.l
theorem confR_keeps : Keeps confR := by
  intro w w' S T cs x ht hd h
  obtain ⟨s0, e, q0, q1, g0⟩ := h
  exact ⟨s0, e, q0, q1, g0.turn polR_keeps ht hd⟩
theorem confR_widens : Widens confR := by
  intro w S T cs x hs h
  obtain ⟨s0, e, q0, q1, g0⟩ := h
  exact ⟨s0, e, q0, q1, g0.widens polR_widens hs⟩
theorem confO_keeps : Keeps confO := by
  intro w w' S T cs x ht hd h
  obtain ⟨s0, e, q0, q1, g0⟩ := h
  exact ⟨s0, e, q0, q1, g0.turn polO_keeps ht hd⟩
theorem confO_widens : Widens confO := by
  intro w S T cs x hs h
  obtain ⟨s0, e, q0, q1, g0⟩ := h
  exact ⟨s0, e, q0, q1, g0.widens hs⟩
theorem confO_read (w : World) (S : Nat → Prop) (cs : List Value) (x : ConfD) (h : confO w S cs x) : confR w S cs x := by
  obtain ⟨s0, e, q0, q1, g0⟩ := h
  exact ⟨s0, e, q0, q1, g0.read polR_widens polO_read⟩
theorem confO_len {w : World} {S : Nat → Prop} {cs : List Value} {x : ConfD} (h : confO w S cs x) : cs.length = 12 := by
  obtain ⟨s0, rfl, _, _, _⟩ := h; rfl

set_option maxHeartbeats 2000000 in
theorem mSzConf (x : ConfD) (S : Nat → Prop) (cs : List Value) (left : Int) (w : World) (h0 : 0 ≤ left) (h1 : left ≤ 1048576) (hx : confR w S cs x) :
    Calls Try.prog 25 #[.agg cs.toArray, .int .i64 left] w fun e w' => (∃ z : Int, e = .returned (.int .i64 z) ∧ (z < 0 ∨ (0 ≤ z ∧ z + confBulk x ≤ left))) ∧ Below w.heap.size w w' := by
  unfold confBulk
  obtain ⟨s0, rfl, q0, q1, g0⟩ := hx
  obtain ⟨a0, k0, rfl⟩ := g0.form
  have H0 := Held.new w [.int .i64 x.stripes, .int .i64 x.wait, .int .i64 x.budget, .int .i64 x.cache, .int .i64 x.queue, .int .i64 x.rate, .int .i64 x.burst, .int .i64 x.rule.kind, .int .i64 x.rule.n, .string x.rule.key, .string x.rule.text, .slice a0 x.rule.l.length k0] 43
  have B0 := bnew w (.cells #[.int .i64 x.stripes, .int .i64 x.wait, .int .i64 x.budget, .int .i64 x.cache, .int .i64 x.queue, .int .i64 x.rate, .int .i64 x.burst, .int .i64 x.rule.kind, .int .i64 x.rule.n, .string x.rule.key, .string x.rule.text, .slice a0 x.rule.l.length k0] 43)
  go_enter Try.func25, Try.ntmps25
  go_wp2_with fail
  refine (mSzPol x.rule S [.int .i64 x.rule.kind, .int .i64 x.rule.n, .string x.rule.key, .string x.rule.text, .slice a0 x.rule.l.length k0] left _ h0 h1 (polR_open.2 ⟨_, rfl, q0, q1, g0.keep polR_keeps B0⟩)).mono ?_
  rintro e w1 ⟨⟨z1, rfl, hz1⟩, hb1⟩
  have HZ1 := hide hz1
  have B1 := bthen B0 hb1
  have H1 := H0.keep hb1
  clear hz1 hb1
  by_cases hneg1 : z1 < 0
  · go_wp2
    go_ret
    exact ⟨⟨_, rfl, .inl (by omega)⟩, B1⟩
  have hzz1 : 0 ≤ z1 ∧ z1 + polBulk x.rule ≤ left := by rcases unhide HZ1 with h | h <;> omega
  clear HZ1
  have hfin : z1 < 0 ∨ (0 ≤ z1 ∧ z1 + (x.rule.key.size + x.rule.text.size + bulkL polBulk x.rule.l : Nat) ≤ left) := by have hpb := polBulk_eq x.rule; omega
  have HF := hide hfin
  clear hfin
  go_wp2
  go_ret
  exact ⟨⟨_, rfl, unhide HF⟩, B1⟩

theorem rowLConf : RowT Try.prog 43 12 := ⟨_, Try.underlying43, rfl, by kernel_rfl⟩
theorem rowIConf : RowT Try.prog 47 12 := ⟨_, Try.underlying47, rfl, by kernel_rfl⟩
set_option maxHeartbeats 4000000 in
theorem mToConf (x : ConfD) (S : Nat → Prop) (cs : List Value) (w : World) (hb : confBulk x ≤ 1048576) (hx : confR w S cs x) :
    Calls Try.prog 27 #[.agg cs.toArray] w fun e w' => ∃ cs', e = .returned (.agg cs'.toArray) ∧ confO w' (Within w.heap.size w'.heap.size) cs' x ∧ Below w.heap.size w w' := by
  obtain ⟨s0, rfl, q0, q1, g0⟩ := hx
  obtain ⟨a0, k0, rfl⟩ := g0.form
  unfold confBulk at hb
  go_enter Try.func27, Try.ntmps27
  go_upto_region 2 with fail
  generalize hW : World.alloc (World.alloc (World.alloc w _) _) _ = w1
  have T1 : ToSt w w1 12 [.int .i64 x.stripes, .int .i64 x.wait, .int .i64 x.budget, .int .i64 x.cache, .int .i64 x.queue, .int .i64 x.rate, .int .i64 x.burst, .int .i64 x.rule.kind, .int .i64 x.rule.n, .string x.rule.key, .string x.rule.text, .slice a0 x.rule.l.length k0] [.int .i64 0, .int .i64 0, .int .i64 0, .int .i64 0, .int .i64 0, .int .i64 0, .int .i64 0, .int .i64 0, .int .i64 0, .string ⟨#[]⟩, .string ⟨#[]⟩, .slice none 0 0] := by rw [← hW]; exact ToSt.start w 12 [.int .i64 x.stripes, .int .i64 x.wait, .int .i64 x.budget, .int .i64 x.cache, .int .i64 x.queue, .int .i64 x.rate, .int .i64 x.burst, .int .i64 x.rule.kind, .int .i64 x.rule.n, .string x.rule.key, .string x.rule.text, .slice a0 x.rule.l.length k0] [.int .i64 0, .int .i64 0, .int .i64 0, .int .i64 0, .int .i64 0, .int .i64 0, .int .i64 0, .int .i64 0, .int .i64 0, .string ⟨#[]⟩, .string ⟨#[]⟩, .slice none 0 0] [.int .i64 0, .int .i64 0, .int .i64 0, .int .i64 0, .int .i64 0, .int .i64 0, .int .i64 0, .int .i64 0, .int .i64 0, .string ⟨#[]⟩, .string ⟨#[]⟩, .slice none 0 0] 43 47 rfl rfl
  clear hW
  have c1 := T1.par 0 _ rfl
  have c2 := T1.old 0 _ rfl
  have c3 := T1.free 0 (by omega)
  go_upto_region 3 with fail
  clear c1 c2 c3
  generalize hW : World.setCell w1 _ _ = w2
  have T2 : ToSt w w2 12 [.int .i64 x.stripes, .int .i64 x.wait, .int .i64 x.budget, .int .i64 x.cache, .int .i64 x.queue, .int .i64 x.rate, .int .i64 x.burst, .int .i64 x.rule.kind, .int .i64 x.rule.n, .string x.rule.key, .string x.rule.text, .slice a0 x.rule.l.length k0] [.int .i64 x.stripes, .int .i64 0, .int .i64 0, .int .i64 0, .int .i64 0, .int .i64 0, .int .i64 0, .int .i64 0, .int .i64 0, .string ⟨#[]⟩, .string ⟨#[]⟩, .slice none 0 0] := by rw [← hW]; exact T1.set 0 (.int .i64 x.stripes) (by simp)
  have hz2 : w2.heap.size = w1.heap.size := by rw [← hW]; simp
  clear hW T1
  have c1 := T2.par 1 _ rfl
  have c2 := T2.old 1 _ rfl
  have c3 := T2.free 1 (by omega)
  go_upto_region 4 with fail
  clear c1 c2 c3
  generalize hW : World.setCell w2 _ _ = w3
  have T3 : ToSt w w3 12 [.int .i64 x.stripes, .int .i64 x.wait, .int .i64 x.budget, .int .i64 x.cache, .int .i64 x.queue, .int .i64 x.rate, .int .i64 x.burst, .int .i64 x.rule.kind, .int .i64 x.rule.n, .string x.rule.key, .string x.rule.text, .slice a0 x.rule.l.length k0] [.int .i64 x.stripes, .int .i64 x.wait, .int .i64 0, .int .i64 0, .int .i64 0, .int .i64 0, .int .i64 0, .int .i64 0, .int .i64 0, .string ⟨#[]⟩, .string ⟨#[]⟩, .slice none 0 0] := by rw [← hW]; exact T2.set 1 (.int .i64 x.wait) (by simp)
  have hz3 : w3.heap.size = w2.heap.size := by rw [← hW]; simp
  clear hW T2
  have c1 := T3.par 2 _ rfl
  have c2 := T3.old 2 _ rfl
  have c3 := T3.free 2 (by omega)
  go_upto_region 5 with fail
  clear c1 c2 c3
  generalize hW : World.setCell w3 _ _ = w4
  have T4 : ToSt w w4 12 [.int .i64 x.stripes, .int .i64 x.wait, .int .i64 x.budget, .int .i64 x.cache, .int .i64 x.queue, .int .i64 x.rate, .int .i64 x.burst, .int .i64 x.rule.kind, .int .i64 x.rule.n, .string x.rule.key, .string x.rule.text, .slice a0 x.rule.l.length k0] [.int .i64 x.stripes, .int .i64 x.wait, .int .i64 x.budget, .int .i64 0, .int .i64 0, .int .i64 0, .int .i64 0, .int .i64 0, .int .i64 0, .string ⟨#[]⟩, .string ⟨#[]⟩, .slice none 0 0] := by rw [← hW]; exact T3.set 2 (.int .i64 x.budget) (by simp)
  have hz4 : w4.heap.size = w3.heap.size := by rw [← hW]; simp
  clear hW T3
  have c1 := T4.par 3 _ rfl
  have c2 := T4.old 3 _ rfl
  have c3 := T4.free 3 (by omega)
  go_upto_region 6 with fail
  clear c1 c2 c3
  generalize hW : World.setCell w4 _ _ = w5
  have T5 : ToSt w w5 12 [.int .i64 x.stripes, .int .i64 x.wait, .int .i64 x.budget, .int .i64 x.cache, .int .i64 x.queue, .int .i64 x.rate, .int .i64 x.burst, .int .i64 x.rule.kind, .int .i64 x.rule.n, .string x.rule.key, .string x.rule.text, .slice a0 x.rule.l.length k0] [.int .i64 x.stripes, .int .i64 x.wait, .int .i64 x.budget, .int .i64 x.cache, .int .i64 0, .int .i64 0, .int .i64 0, .int .i64 0, .int .i64 0, .string ⟨#[]⟩, .string ⟨#[]⟩, .slice none 0 0] := by rw [← hW]; exact T4.set 3 (.int .i64 x.cache) (by simp)
  have hz5 : w5.heap.size = w4.heap.size := by rw [← hW]; simp
  clear hW T4
  have c1 := T5.par 4 _ rfl
  have c2 := T5.old 4 _ rfl
  have c3 := T5.free 4 (by omega)
  go_upto_region 7 with fail
  clear c1 c2 c3
  generalize hW : World.setCell w5 _ _ = w6
  have T6 : ToSt w w6 12 [.int .i64 x.stripes, .int .i64 x.wait, .int .i64 x.budget, .int .i64 x.cache, .int .i64 x.queue, .int .i64 x.rate, .int .i64 x.burst, .int .i64 x.rule.kind, .int .i64 x.rule.n, .string x.rule.key, .string x.rule.text, .slice a0 x.rule.l.length k0] [.int .i64 x.stripes, .int .i64 x.wait, .int .i64 x.budget, .int .i64 x.cache, .int .i64 x.queue, .int .i64 0, .int .i64 0, .int .i64 0, .int .i64 0, .string ⟨#[]⟩, .string ⟨#[]⟩, .slice none 0 0] := by rw [← hW]; exact T5.set 4 (.int .i64 x.queue) (by simp)
  have hz6 : w6.heap.size = w5.heap.size := by rw [← hW]; simp
  clear hW T5
  have c1 := T6.par 5 _ rfl
  have c2 := T6.old 5 _ rfl
  have c3 := T6.free 5 (by omega)
  go_upto_region 8 with fail
  clear c1 c2 c3
  generalize hW : World.setCell w6 _ _ = w7
  have T7 : ToSt w w7 12 [.int .i64 x.stripes, .int .i64 x.wait, .int .i64 x.budget, .int .i64 x.cache, .int .i64 x.queue, .int .i64 x.rate, .int .i64 x.burst, .int .i64 x.rule.kind, .int .i64 x.rule.n, .string x.rule.key, .string x.rule.text, .slice a0 x.rule.l.length k0] [.int .i64 x.stripes, .int .i64 x.wait, .int .i64 x.budget, .int .i64 x.cache, .int .i64 x.queue, .int .i64 x.rate, .int .i64 0, .int .i64 0, .int .i64 0, .string ⟨#[]⟩, .string ⟨#[]⟩, .slice none 0 0] := by rw [← hW]; exact T6.set 5 (.int .i64 x.rate) (by simp)
  have hz7 : w7.heap.size = w6.heap.size := by rw [← hW]; simp
  clear hW T6
  have c1 := T7.par 6 _ rfl
  have c2 := T7.old 6 _ rfl
  have c3 := T7.free 6 (by omega)
  go_upto_region 9 with fail
  clear c1 c2 c3
  generalize hW : World.setCell w7 _ _ = w8
  have T8 : ToSt w w8 12 [.int .i64 x.stripes, .int .i64 x.wait, .int .i64 x.budget, .int .i64 x.cache, .int .i64 x.queue, .int .i64 x.rate, .int .i64 x.burst, .int .i64 x.rule.kind, .int .i64 x.rule.n, .string x.rule.key, .string x.rule.text, .slice a0 x.rule.l.length k0] [.int .i64 x.stripes, .int .i64 x.wait, .int .i64 x.budget, .int .i64 x.cache, .int .i64 x.queue, .int .i64 x.rate, .int .i64 x.burst, .int .i64 0, .int .i64 0, .string ⟨#[]⟩, .string ⟨#[]⟩, .slice none 0 0] := by rw [← hW]; exact T7.set 6 (.int .i64 x.burst) (by simp)
  have hz8 : w8.heap.size = w7.heap.size := by rw [← hW]; simp
  clear hW T7
  have c1 := T8.parIn 7 [.int .i64 x.rule.kind, .int .i64 x.rule.n, .string x.rule.key, .string x.rule.text, .slice a0 x.rule.l.length k0] rfl
  go_wp2_with (first | (refine wpl_load rfl 24 _ rfl _ _ rfl [.int .i64 x.rule.kind, .int .i64 x.rule.n, .string x.rule.key, .string x.rule.text, .slice a0 x.rule.l.length k0] c1 rowLPol ?_))
  clear c1
  refine (mToPol x.rule S [.int .i64 x.rule.kind, .int .i64 x.rule.n, .string x.rule.key, .string x.rule.text, .slice a0 x.rule.l.length k0] w8 (by first | omega | (rw [polBulk_eq]; omega)) (polR_open.2 ⟨_, rfl, q0, q1, g0.keep polR_keeps T8.below⟩)).mono ?_
  rintro e w9 ⟨cs9, rfl, yy, hb9⟩
  obtain ⟨t0, rfl, _, _, y0⟩ := polO_open yy
  obtain ⟨b0, m0, rfl⟩ := y0.form
  have hz9 := hb9.size
  have T9 := T8.call hb9
  have hs8 := T8.size
  clear hb9 T8
  have c2 := T9.wr 7 5 (by omega)
  go_upto_region 10 with (first | (refine wpl_store_at rfl 29 _ _ rfl _ _ [.int .i64 x.rule.kind, .int .i64 x.rule.n, .string x.rule.key, .string x.rule.text, .slice b0 x.rule.l.length m0] rfl rfl c2 (by intro v hv; simp only [List.mem_cons, List.not_mem_nil, or_false] at hv; rcases hv with rfl | rfl | rfl | rfl | rfl <;> rfl) rowIPol ?_))
  clear c2
  generalize hW : putL _ _ _ _ w9 = w10
  have T10 : ToSt w w10 12 [.int .i64 x.stripes, .int .i64 x.wait, .int .i64 x.budget, .int .i64 x.cache, .int .i64 x.queue, .int .i64 x.rate, .int .i64 x.burst, .int .i64 x.rule.kind, .int .i64 x.rule.n, .string x.rule.key, .string x.rule.text, .slice a0 x.rule.l.length k0] [.int .i64 x.stripes, .int .i64 x.wait, .int .i64 x.budget, .int .i64 x.cache, .int .i64 x.queue, .int .i64 x.rate, .int .i64 x.burst, .int .i64 x.rule.kind, .int .i64 x.rule.n, .string x.rule.key, .string x.rule.text, .slice b0 x.rule.l.length m0] := by rw [← hW]; exact T9.put 7 [.int .i64 x.rule.kind, .int .i64 x.rule.n, .string x.rule.key, .string x.rule.text, .slice b0 x.rule.l.length m0] (by simp)
  have y0 := own_putC (b := w.heap.size + 2) (o := 7) (cs := [.int .i64 x.rule.kind, .int .i64 x.rule.n, .string x.rule.key, .string x.rule.text, .slice b0 x.rule.l.length m0]) polO_keeps y0 (by omega)
  rw [hW] at y0
  have hz10 : w9.heap.size ≤ w10.heap.size := by rw [← hW]; exact (putL_turn _ _ _ _ _).size
  clear hW T9
  have hs10 := T10.size
  have hfin : confO w10 (Within (w.heap.size + 3) w10.heap.size) [.int .i64 x.stripes, .int .i64 x.wait, .int .i64 x.budget, .int .i64 x.cache, .int .i64 x.queue, .int .i64 x.rate, .int .i64 x.burst, .int .i64 x.rule.kind, .int .i64 x.rule.n, .string x.rule.key, .string x.rule.text, .slice b0 x.rule.l.length m0] x := ⟨_, rfl, q0, q1, y0.widens (fun k hk => ⟨by have := hk.1; omega, by have := hk.2; omega⟩)⟩
  have HF := hide hfin
  clear hfin y0
  have c1 := T10.2.2.2.2.1.inB
  have c2 := T10.2.2.2.1
  obtain ⟨f1, f2, f3⟩ := T10.fin rfl
  have HG := hide (And.intro f1 (And.intro f2 f3))
  clear f1 f2 f3
  go_wp2_with (first | (refine wpl_load rfl 47 _ rfl _ 0 rfl _ c1 rowIConf ?_) | (refine wpl_store_at rfl 47 _ _ rfl _ 0 [.int .i64 x.stripes, .int .i64 x.wait, .int .i64 x.budget, .int .i64 x.cache, .int .i64 x.queue, .int .i64 x.rate, .int .i64 x.burst, .int .i64 x.rule.kind, .int .i64 x.rule.n, .string x.rule.key, .string x.rule.text, .slice b0 x.rule.l.length m0] rfl rfl c2 (by intro v hv; simp only [List.mem_cons, List.not_mem_nil, or_false] at hv; rcases hv with rfl | rfl | rfl | rfl | rfl | rfl | rfl | rfl | rfl | rfl | rfl | rfl <;> rfl) rowIConf ?_))
  obtain ⟨f1, f2, f3⟩ := unhide HG
  refine bodyPost_ret (v := .agg #[.int .i64 x.stripes, .int .i64 x.wait, .int .i64 x.budget, .int .i64 x.cache, .int .i64 x.queue, .int .i64 x.rate, .int .i64 x.burst, .int .i64 x.rule.kind, .int .i64 x.rule.n, .string x.rule.key, .string x.rule.text, .slice b0 x.rule.l.length m0]) (res_row (t := 2) (cs := [.int .i64 x.stripes, .int .i64 x.wait, .int .i64 x.budget, .int .i64 x.cache, .int .i64 x.queue, .int .i64 x.rate, .int .i64 x.burst, .int .i64 x.rule.kind, .int .i64 x.rule.n, .string x.rule.key, .string x.rule.text, .slice b0 x.rule.l.length m0]) rfl rfl f1 rowIConf) rfl ⟨[.int .i64 x.stripes, .int .i64 x.wait, .int .i64 x.budget, .int .i64 x.cache, .int .i64 x.queue, .int .i64 x.rate, .int .i64 x.burst, .int .i64 x.rule.kind, .int .i64 x.rule.n, .string x.rule.key, .string x.rule.text, .slice b0 x.rule.l.length m0], rfl, ?_, f2⟩
  exact own_fin confO_keeps confO_widens (unhide HF) f3 (fun k hk e => by omega) (by omega)

set_option maxHeartbeats 4000000 in
theorem mEqConf (x : ConfD) (S S' : Nat → Prop) (cs cs' : List Value) (w : World) (hx : confR w S cs x) (hy : confR w S' cs' x) :
    Calls Try.prog 29 #[.agg cs.toArray, .agg cs'.toArray] w fun e w' => e = .returned (.bool true) ∧ Below w.heap.size w w' := by
  obtain ⟨s0, rfl, q0, q1, g0⟩ := hx
  obtain ⟨a0, k0, rfl⟩ := g0.form
  obtain ⟨sy0, rfl, qy0, qy1, gy0⟩ := hy
  obtain ⟨ay0, ky0, rfl⟩ := gy0.form
  have P0 := (Held.new w [.int .i64 x.stripes, .int .i64 x.wait, .int .i64 x.budget, .int .i64 x.cache, .int .i64 x.queue, .int .i64 x.rate, .int .i64 x.burst, .int .i64 x.rule.kind, .int .i64 x.rule.n, .string x.rule.key, .string x.rule.text, .slice a0 x.rule.l.length k0] 47).keep (bnew _ (.cells #[.int .i64 x.stripes, .int .i64 x.wait, .int .i64 x.budget, .int .i64 x.cache, .int .i64 x.queue, .int .i64 x.rate, .int .i64 x.burst, .int .i64 x.rule.kind, .int .i64 x.rule.n, .string x.rule.key, .string x.rule.text, .slice ay0 x.rule.l.length ky0] 47))
  have Q0 := Held.new (w.alloc (.cells #[.int .i64 x.stripes, .int .i64 x.wait, .int .i64 x.budget, .int .i64 x.cache, .int .i64 x.queue, .int .i64 x.rate, .int .i64 x.burst, .int .i64 x.rule.kind, .int .i64 x.rule.n, .string x.rule.key, .string x.rule.text, .slice a0 x.rule.l.length k0] 47)) [.int .i64 x.stripes, .int .i64 x.wait, .int .i64 x.budget, .int .i64 x.cache, .int .i64 x.queue, .int .i64 x.rate, .int .i64 x.burst, .int .i64 x.rule.kind, .int .i64 x.rule.n, .string x.rule.key, .string x.rule.text, .slice ay0 x.rule.l.length ky0] 47
  rw [show (w.alloc (.cells #[.int .i64 x.stripes, .int .i64 x.wait, .int .i64 x.budget, .int .i64 x.cache, .int .i64 x.queue, .int .i64 x.rate, .int .i64 x.burst, .int .i64 x.rule.kind, .int .i64 x.rule.n, .string x.rule.key, .string x.rule.text, .slice a0 x.rule.l.length k0] 47)).heap.size = w.heap.size + 1 by simp] at Q0
  have B0 := bthen (bnew w (.cells #[.int .i64 x.stripes, .int .i64 x.wait, .int .i64 x.budget, .int .i64 x.cache, .int .i64 x.queue, .int .i64 x.rate, .int .i64 x.burst, .int .i64 x.rule.kind, .int .i64 x.rule.n, .string x.rule.key, .string x.rule.text, .slice a0 x.rule.l.length k0] 47)) (bnew _ (.cells #[.int .i64 x.stripes, .int .i64 x.wait, .int .i64 x.budget, .int .i64 x.cache, .int .i64 x.queue, .int .i64 x.rate, .int .i64 x.burst, .int .i64 x.rule.kind, .int .i64 x.rule.n, .string x.rule.key, .string x.rule.text, .slice ay0 x.rule.l.length ky0] 47))
  go_enter Try.func29, Try.ntmps29
  go_wp2_with fail
  generalize World.alloc (World.alloc w _) _ = w0 at *
  refine (mEqPol x.rule S S' [.int .i64 x.rule.kind, .int .i64 x.rule.n, .string x.rule.key, .string x.rule.text, .slice a0 x.rule.l.length k0] [.int .i64 x.rule.kind, .int .i64 x.rule.n, .string x.rule.key, .string x.rule.text, .slice ay0 x.rule.l.length ky0] _ (polR_open.2 ⟨_, rfl, q0, q1, g0.keep polR_keeps B0⟩) (polR_open.2 ⟨_, rfl, qy0, qy1, gy0.keep polR_keeps B0⟩)).mono ?_
  rintro e w1 ⟨rfl, hb1⟩
  have B1 := bthen B0 hb1
  have P1 := P0.keep hb1
  have Q1 := Q0.keep hb1
  clear hb1
  have p0 := P1.2 0 _ rfl
  have p1 := P1.2 1 _ rfl
  have p2 := P1.2 2 _ rfl
  have p3 := P1.2 3 _ rfl
  have p4 := P1.2 4 _ rfl
  have p5 := P1.2 5 _ rfl
  have p6 := P1.2 6 _ rfl
  have p7 := P1.2 7 _ rfl
  have p8 := P1.2 8 _ rfl
  have p9 := P1.2 9 _ rfl
  have p10 := P1.2 10 _ rfl
  have p11 := P1.2 11 _ rfl
  have q_0 := Q1.2 0 _ rfl
  have q_1 := Q1.2 1 _ rfl
  have q_2 := Q1.2 2 _ rfl
  have q_3 := Q1.2 3 _ rfl
  have q_4 := Q1.2 4 _ rfl
  have q_5 := Q1.2 5 _ rfl
  have q_6 := Q1.2 6 _ rfl
  have q_7 := Q1.2 7 _ rfl
  have q_8 := Q1.2 8 _ rfl
  have q_9 := Q1.2 9 _ rfl
  have q_10 := Q1.2 10 _ rfl
  have q_11 := Q1.2 11 _ rfl
  go_wp2
  go_ret
  exact ⟨rfl, B1⟩

end Go.Proofs.Ytlhjhnjpmafceaa
