/-
  World: its cells, one by one.
-/
import Derived.Test.YtciipadkdglhmaaAbs
import Derived.Test.YtciipadkdglhmaaTWorld
namespace Go.Proofs.Ytciipadkdglhmaa
open Go.ChangeShapes Go.WideShapes Go.ChangeAt Go.RowKit
set_option linter.unusedVariables false
set_option maxRecDepth 100000

theorem worldR_len {w : World} {S : Nat → Prop} {cs : List Value} {x : WorldD} (h : worldR w S cs x) : cs.length = 32 := by
  obtain ⟨s0, s1, s2, s3, s4, s5, s6, s7, s8, s9, s10, rfl, _, _, g0, g1, g2, g3, g4, g5, g6, g7, g8, g9, g10⟩ := h
  rfl
theorem worldR_one {w : World} {S : Nat → Prop} {cs : List Value} {x : WorldD} (h : worldR w S cs x) : One cs := by
  obtain ⟨s0, s1, s2, s3, s4, s5, s6, s7, s8, s9, s10, rfl, _, _, g0, g1, g2, g3, g4, g5, g6, g7, g8, g9, g10⟩ := h
  obtain ⟨a0, k0, rfl⟩ := g0.form
  obtain ⟨a1, k1, rfl⟩ := g1.form
  obtain ⟨a2, k2, rfl⟩ := g2.form
  obtain ⟨a3, k3, rfl⟩ := g3.form
  obtain ⟨a4, k4, rfl⟩ := g4.form
  obtain ⟨a5, k5, rfl⟩ := g5.form
  obtain ⟨a6, k6, rfl⟩ := g6.form
  obtain ⟨a7, k7, rfl⟩ := g7.form
  obtain ⟨a8, k8, rfl⟩ := g8.form
  obtain ⟨a9, k9, rfl⟩ := g9.form
  obtain ⟨a10, k10, rfl⟩ := g10.form
  intro v hv
  simp only [List.mem_cons, List.not_mem_nil, or_false] at hv
  rcases hv with rfl | rfl | rfl | rfl | rfl | rfl | rfl | rfl | rfl | rfl | rfl | rfl | rfl | rfl | rfl | rfl | rfl | rfl | rfl | rfl | rfl | rfl | rfl | rfl | rfl | rfl | rfl | rfl | rfl | rfl | rfl | rfl <;> rfl
theorem worldR_c0 {w : World} {S : Nat → Prop} {cs : List Value} {x : WorldD} (h : worldR w S cs x) : cs[0]? = some (.int .i64 x.c.stripes) := by
  obtain ⟨s0, s1, s2, s3, s4, s5, s6, s7, s8, s9, s10, rfl, _, _, g0, g1, g2, g3, g4, g5, g6, g7, g8, g9, g10⟩ := h
  rfl
theorem worldR_c1 {w : World} {S : Nat → Prop} {cs : List Value} {x : WorldD} (h : worldR w S cs x) : cs[1]? = some (.int .i64 x.c.wait) := by
  obtain ⟨s0, s1, s2, s3, s4, s5, s6, s7, s8, s9, s10, rfl, _, _, g0, g1, g2, g3, g4, g5, g6, g7, g8, g9, g10⟩ := h
  rfl
theorem worldR_c2 {w : World} {S : Nat → Prop} {cs : List Value} {x : WorldD} (h : worldR w S cs x) : cs[2]? = some (.int .i64 x.c.budget) := by
  obtain ⟨s0, s1, s2, s3, s4, s5, s6, s7, s8, s9, s10, rfl, _, _, g0, g1, g2, g3, g4, g5, g6, g7, g8, g9, g10⟩ := h
  rfl
theorem worldR_c3 {w : World} {S : Nat → Prop} {cs : List Value} {x : WorldD} (h : worldR w S cs x) : cs[3]? = some (.int .i64 x.c.cache) := by
  obtain ⟨s0, s1, s2, s3, s4, s5, s6, s7, s8, s9, s10, rfl, _, _, g0, g1, g2, g3, g4, g5, g6, g7, g8, g9, g10⟩ := h
  rfl
theorem worldR_c4 {w : World} {S : Nat → Prop} {cs : List Value} {x : WorldD} (h : worldR w S cs x) : cs[4]? = some (.int .i64 x.c.queue) := by
  obtain ⟨s0, s1, s2, s3, s4, s5, s6, s7, s8, s9, s10, rfl, _, _, g0, g1, g2, g3, g4, g5, g6, g7, g8, g9, g10⟩ := h
  rfl
theorem worldR_c5 {w : World} {S : Nat → Prop} {cs : List Value} {x : WorldD} (h : worldR w S cs x) : cs[5]? = some (.int .i64 x.c.rate) := by
  obtain ⟨s0, s1, s2, s3, s4, s5, s6, s7, s8, s9, s10, rfl, _, _, g0, g1, g2, g3, g4, g5, g6, g7, g8, g9, g10⟩ := h
  rfl
theorem worldR_c6 {w : World} {S : Nat → Prop} {cs : List Value} {x : WorldD} (h : worldR w S cs x) : cs[6]? = some (.int .i64 x.c.burst) := by
  obtain ⟨s0, s1, s2, s3, s4, s5, s6, s7, s8, s9, s10, rfl, _, _, g0, g1, g2, g3, g4, g5, g6, g7, g8, g9, g10⟩ := h
  rfl
theorem worldR_c7 {w : World} {S : Nat → Prop} {cs : List Value} {x : WorldD} (h : worldR w S cs x) : cs[7]? = some (.int .i64 x.c.rule.kind) := by
  obtain ⟨s0, s1, s2, s3, s4, s5, s6, s7, s8, s9, s10, rfl, _, _, g0, g1, g2, g3, g4, g5, g6, g7, g8, g9, g10⟩ := h
  rfl
theorem worldR_c8 {w : World} {S : Nat → Prop} {cs : List Value} {x : WorldD} (h : worldR w S cs x) : cs[8]? = some (.int .i64 x.c.rule.n) := by
  obtain ⟨s0, s1, s2, s3, s4, s5, s6, s7, s8, s9, s10, rfl, _, _, g0, g1, g2, g3, g4, g5, g6, g7, g8, g9, g10⟩ := h
  rfl
theorem worldR_c9 {w : World} {S : Nat → Prop} {cs : List Value} {x : WorldD} (h : worldR w S cs x) : cs[9]? = some (.string x.c.rule.key) := by
  obtain ⟨s0, s1, s2, s3, s4, s5, s6, s7, s8, s9, s10, rfl, _, _, g0, g1, g2, g3, g4, g5, g6, g7, g8, g9, g10⟩ := h
  rfl
theorem worldR_c10 {w : World} {S : Nat → Prop} {cs : List Value} {x : WorldD} (h : worldR w S cs x) : cs[10]? = some (.string x.c.rule.text) := by
  obtain ⟨s0, s1, s2, s3, s4, s5, s6, s7, s8, s9, s10, rfl, _, _, g0, g1, g2, g3, g4, g5, g6, g7, g8, g9, g10⟩ := h
  rfl
theorem worldR_c11 {w : World} {S : Nat → Prop} {cs : List Value} {x : WorldD} (h : worldR w S cs x) : ∃ a k, cs[11]? = some (.slice a x.c.rule.l.length k) ∧ LAt 5 polR w S (.slice a x.c.rule.l.length k) x.c.rule.l := by
  obtain ⟨s0, s1, s2, s3, s4, s5, s6, s7, s8, s9, s10, rfl, _, _, g0, g1, g2, g3, g4, g5, g6, g7, g8, g9, g10⟩ := h
  obtain ⟨a, k, rfl⟩ := g0.form
  exact ⟨a, k, rfl, g0⟩
theorem worldR_c12 {w : World} {S : Nat → Prop} {cs : List Value} {x : WorldD} (h : worldR w S cs x) : cs[12]? = some (.int .i64 x.time) := by
  obtain ⟨s0, s1, s2, s3, s4, s5, s6, s7, s8, s9, s10, rfl, _, _, g0, g1, g2, g3, g4, g5, g6, g7, g8, g9, g10⟩ := h
  rfl
theorem worldR_c13 {w : World} {S : Nat → Prop} {cs : List Value} {x : WorldD} (h : worldR w S cs x) : cs[13]? = some (.bool x.shut) := by
  obtain ⟨s0, s1, s2, s3, s4, s5, s6, s7, s8, s9, s10, rfl, _, _, g0, g1, g2, g3, g4, g5, g6, g7, g8, g9, g10⟩ := h
  rfl
theorem worldR_c14 {w : World} {S : Nat → Prop} {cs : List Value} {x : WorldD} (h : worldR w S cs x) : ∃ a k, cs[14]? = some (.slice a x.st.length k) ∧ LAt 2 stripeR w S (.slice a x.st.length k) x.st := by
  obtain ⟨s0, s1, s2, s3, s4, s5, s6, s7, s8, s9, s10, rfl, _, _, g0, g1, g2, g3, g4, g5, g6, g7, g8, g9, g10⟩ := h
  obtain ⟨a, k, rfl⟩ := g1.form
  exact ⟨a, k, rfl, g1⟩
theorem worldR_c15 {w : World} {S : Nat → Prop} {cs : List Value} {x : WorldD} (h : worldR w S cs x) : cs[15]? = some (.int .i64 x.ruleHeld) := by
  obtain ⟨s0, s1, s2, s3, s4, s5, s6, s7, s8, s9, s10, rfl, _, _, g0, g1, g2, g3, g4, g5, g6, g7, g8, g9, g10⟩ := h
  rfl
theorem worldR_c16 {w : World} {S : Nat → Prop} {cs : List Value} {x : WorldD} (h : worldR w S cs x) : cs[16]? = some (.int .i64 x.b.rate) := by
  obtain ⟨s0, s1, s2, s3, s4, s5, s6, s7, s8, s9, s10, rfl, _, _, g0, g1, g2, g3, g4, g5, g6, g7, g8, g9, g10⟩ := h
  rfl
theorem worldR_c17 {w : World} {S : Nat → Prop} {cs : List Value} {x : WorldD} (h : worldR w S cs x) : cs[17]? = some (.int .i64 x.b.burst) := by
  obtain ⟨s0, s1, s2, s3, s4, s5, s6, s7, s8, s9, s10, rfl, _, _, g0, g1, g2, g3, g4, g5, g6, g7, g8, g9, g10⟩ := h
  rfl
theorem worldR_c18 {w : World} {S : Nat → Prop} {cs : List Value} {x : WorldD} (h : worldR w S cs x) : cs[18]? = some (.int .i64 x.b.tokens) := by
  obtain ⟨s0, s1, s2, s3, s4, s5, s6, s7, s8, s9, s10, rfl, _, _, g0, g1, g2, g3, g4, g5, g6, g7, g8, g9, g10⟩ := h
  rfl
theorem worldR_c19 {w : World} {S : Nat → Prop} {cs : List Value} {x : WorldD} (h : worldR w S cs x) : cs[19]? = some (.int .i64 x.b.since) := by
  obtain ⟨s0, s1, s2, s3, s4, s5, s6, s7, s8, s9, s10, rfl, _, _, g0, g1, g2, g3, g4, g5, g6, g7, g8, g9, g10⟩ := h
  rfl
theorem worldR_c20 {w : World} {S : Nat → Prop} {cs : List Value} {x : WorldD} (h : worldR w S cs x) : ∃ a k, cs[20]? = some (.slice a x.cache.length k) ∧ LAt 3 verdictR w S (.slice a x.cache.length k) x.cache := by
  obtain ⟨s0, s1, s2, s3, s4, s5, s6, s7, s8, s9, s10, rfl, _, _, g0, g1, g2, g3, g4, g5, g6, g7, g8, g9, g10⟩ := h
  obtain ⟨a, k, rfl⟩ := g2.form
  exact ⟨a, k, rfl, g2⟩
theorem worldR_c21 {w : World} {S : Nat → Prop} {cs : List Value} {x : WorldD} (h : worldR w S cs x) : cs[21]? = some (.int .i64 x.used) := by
  obtain ⟨s0, s1, s2, s3, s4, s5, s6, s7, s8, s9, s10, rfl, _, _, g0, g1, g2, g3, g4, g5, g6, g7, g8, g9, g10⟩ := h
  rfl
theorem worldR_c22 {w : World} {S : Nat → Prop} {cs : List Value} {x : WorldD} (h : worldR w S cs x) : cs[22]? = some (.int .i64 x.w.now) := by
  obtain ⟨s0, s1, s2, s3, s4, s5, s6, s7, s8, s9, s10, rfl, _, _, g0, g1, g2, g3, g4, g5, g6, g7, g8, g9, g10⟩ := h
  rfl
theorem worldR_c23 {w : World} {S : Nat → Prop} {cs : List Value} {x : WorldD} (h : worldR w S cs x) : ∃ a k, cs[23]? = some (.slice a x.w.near.length k) ∧ LAt 1 timerSR w S (.slice a x.w.near.length k) x.w.near := by
  obtain ⟨s0, s1, s2, s3, s4, s5, s6, s7, s8, s9, s10, rfl, _, _, g0, g1, g2, g3, g4, g5, g6, g7, g8, g9, g10⟩ := h
  obtain ⟨a, k, rfl⟩ := g3.form
  exact ⟨a, k, rfl, g3⟩
theorem worldR_c24 {w : World} {S : Nat → Prop} {cs : List Value} {x : WorldD} (h : worldR w S cs x) : ∃ a k, cs[24]? = some (.slice a x.w.far.length k) ∧ LAt 1 timerSR w S (.slice a x.w.far.length k) x.w.far := by
  obtain ⟨s0, s1, s2, s3, s4, s5, s6, s7, s8, s9, s10, rfl, _, _, g0, g1, g2, g3, g4, g5, g6, g7, g8, g9, g10⟩ := h
  obtain ⟨a, k, rfl⟩ := g4.form
  exact ⟨a, k, rfl, g4⟩
theorem worldR_c25 {w : World} {S : Nat → Prop} {cs : List Value} {x : WorldD} (h : worldR w S cs x) : ∃ a k, cs[25]? = some (.slice a x.w.rest.length k) ∧ LAt 3 timerR w S (.slice a x.w.rest.length k) x.w.rest := by
  obtain ⟨s0, s1, s2, s3, s4, s5, s6, s7, s8, s9, s10, rfl, _, _, g0, g1, g2, g3, g4, g5, g6, g7, g8, g9, g10⟩ := h
  obtain ⟨a, k, rfl⟩ := g5.form
  exact ⟨a, k, rfl, g5⟩
theorem worldR_c26 {w : World} {S : Nat → Prop} {cs : List Value} {x : WorldD} (h : worldR w S cs x) : ∃ a k, cs[26]? = some (.slice a x.due.length k) ∧ LAt 3 timerR w S (.slice a x.due.length k) x.due := by
  obtain ⟨s0, s1, s2, s3, s4, s5, s6, s7, s8, s9, s10, rfl, _, _, g0, g1, g2, g3, g4, g5, g6, g7, g8, g9, g10⟩ := h
  obtain ⟨a, k, rfl⟩ := g6.form
  exact ⟨a, k, rfl, g6⟩
theorem worldR_c27 {w : World} {S : Nat → Prop} {cs : List Value} {x : WorldD} (h : worldR w S cs x) : ∃ a k, cs[27]? = some (.slice a x.queue.length k) ∧ LAt 7 itemR w S (.slice a x.queue.length k) x.queue := by
  obtain ⟨s0, s1, s2, s3, s4, s5, s6, s7, s8, s9, s10, rfl, _, _, g0, g1, g2, g3, g4, g5, g6, g7, g8, g9, g10⟩ := h
  obtain ⟨a, k, rfl⟩ := g7.form
  exact ⟨a, k, rfl, g7⟩
theorem worldR_c28 {w : World} {S : Nat → Prop} {cs : List Value} {x : WorldD} (h : worldR w S cs x) : ∃ a k, cs[28]? = some (.slice a x.out.length k) ∧ LAt 7 itemR w S (.slice a x.out.length k) x.out := by
  obtain ⟨s0, s1, s2, s3, s4, s5, s6, s7, s8, s9, s10, rfl, _, _, g0, g1, g2, g3, g4, g5, g6, g7, g8, g9, g10⟩ := h
  obtain ⟨a, k, rfl⟩ := g8.form
  exact ⟨a, k, rfl, g8⟩
theorem worldR_c29 {w : World} {S : Nat → Prop} {cs : List Value} {x : WorldD} (h : worldR w S cs x) : ∃ a k, cs[29]? = some (.slice a x.tasks.length k) ∧ LAt 12 taskR w S (.slice a x.tasks.length k) x.tasks := by
  obtain ⟨s0, s1, s2, s3, s4, s5, s6, s7, s8, s9, s10, rfl, _, _, g0, g1, g2, g3, g4, g5, g6, g7, g8, g9, g10⟩ := h
  obtain ⟨a, k, rfl⟩ := g9.form
  exact ⟨a, k, rfl, g9⟩
theorem worldR_c30 {w : World} {S : Nat → Prop} {cs : List Value} {x : WorldD} (h : worldR w S cs x) : ∃ a k, cs[30]? = some (.slice a x.deeds.length k) ∧ LAt 20 deedR w S (.slice a x.deeds.length k) x.deeds := by
  obtain ⟨s0, s1, s2, s3, s4, s5, s6, s7, s8, s9, s10, rfl, _, _, g0, g1, g2, g3, g4, g5, g6, g7, g8, g9, g10⟩ := h
  obtain ⟨a, k, rfl⟩ := g10.form
  exact ⟨a, k, rfl, g10⟩
theorem worldR_c31 {w : World} {S : Nat → Prop} {cs : List Value} {x : WorldD} (h : worldR w S cs x) : cs[31]? = some (.int .i64 x.next) := by
  obtain ⟨s0, s1, s2, s3, s4, s5, s6, s7, s8, s9, s10, rfl, _, _, g0, g1, g2, g3, g4, g5, g6, g7, g8, g9, g10⟩ := h
  rfl
theorem worldR_sub_c {w : World} {S : Nat → Prop} {cs : List Value} {x : WorldD} (h : worldR w S cs x) : ∃ c', confR w S c' x.c ∧ (cs.drop 0).take c'.length = c' := by
  obtain ⟨s0, s1, s2, s3, s4, s5, s6, s7, s8, s9, s10, rfl, q0, q1, g0, g1, g2, g3, g4, g5, g6, g7, g8, g9, g10⟩ := h
  exact ⟨_, ⟨s0, rfl, q0, q1, g0⟩, rfl⟩
theorem worldR_sub_b {w : World} {S : Nat → Prop} {cs : List Value} {x : WorldD} (h : worldR w S cs x) : ∃ c', bucketR w S c' x.b ∧ (cs.drop 16).take c'.length = c' := by
  obtain ⟨s0, s1, s2, s3, s4, s5, s6, s7, s8, s9, s10, rfl, q0, q1, g0, g1, g2, g3, g4, g5, g6, g7, g8, g9, g10⟩ := h
  exact ⟨_, rfl, rfl⟩
theorem worldR_sub_w {w : World} {S : Nat → Prop} {cs : List Value} {x : WorldD} (h : worldR w S cs x) : ∃ c', wheelR w S c' x.w ∧ (cs.drop 22).take c'.length = c' := by
  obtain ⟨s0, s1, s2, s3, s4, s5, s6, s7, s8, s9, s10, rfl, q0, q1, g0, g1, g2, g3, g4, g5, g6, g7, g8, g9, g10⟩ := h
  exact ⟨_, ⟨s3, s4, s5, rfl, g3, g4, g5⟩, rfl⟩
end Go.Proofs.Ytciipadkdglhmaa
