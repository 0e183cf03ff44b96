/-
  Deed: its cells, one by one.
-/
import Derived.Test.YtciipadkdglhmaaAbs
import Derived.Test.YtciipadkdglhmaaTDeed
namespace Go.Proofs.Ytciipadkdglhmaa
open Go.ChangeShapes Go.WideShapes Go.ChangeAt Go.RowKit
set_option linter.unusedVariables false
set_option maxRecDepth 100000

theorem deedR_len {w : World} {S : Nat → Prop} {cs : List Value} {x : DeedD} (h : deedR w S cs x) : cs.length = 20 := by
  obtain ⟨s0, rfl, g0⟩ := h
  rfl
theorem deedR_one {w : World} {S : Nat → Prop} {cs : List Value} {x : DeedD} (h : deedR w S cs x) : One cs := by
  obtain ⟨s0, rfl, g0⟩ := h
  obtain ⟨a0, k0, rfl⟩ := g0.form
  intro v hv
  simp only [List.mem_cons, List.not_mem_nil, or_false] at hv
  rcases hv with rfl | rfl | rfl | rfl | rfl | rfl | rfl | rfl | rfl | rfl | rfl | rfl | rfl | rfl | rfl | rfl | rfl | rfl | rfl | rfl <;> rfl
theorem deedR_c0 {w : World} {S : Nat → Prop} {cs : List Value} {x : DeedD} (h : deedR w S cs x) : cs[0]? = some (.int .i64 x.op) := by
  obtain ⟨s0, rfl, g0⟩ := h
  rfl
theorem deedR_c1 {w : World} {S : Nat → Prop} {cs : List Value} {x : DeedD} (h : deedR w S cs x) : cs[1]? = some (.int .i64 x.task) := by
  obtain ⟨s0, rfl, g0⟩ := h
  rfl
theorem deedR_c2 {w : World} {S : Nat → Prop} {cs : List Value} {x : DeedD} (h : deedR w S cs x) : cs[2]? = some (.int .i64 x.s.1) := by
  obtain ⟨s0, rfl, g0⟩ := h
  rfl
theorem deedR_c3 {w : World} {S : Nat → Prop} {cs : List Value} {x : DeedD} (h : deedR w S cs x) : cs[3]? = some (.int .i64 x.s.2.1) := by
  obtain ⟨s0, rfl, g0⟩ := h
  rfl
theorem deedR_c4 {w : World} {S : Nat → Prop} {cs : List Value} {x : DeedD} (h : deedR w S cs x) : cs[4]? = some (.int .i64 x.s.2.2.1) := by
  obtain ⟨s0, rfl, g0⟩ := h
  rfl
theorem deedR_c5 {w : World} {S : Nat → Prop} {cs : List Value} {x : DeedD} (h : deedR w S cs x) : cs[5]? = some (.int .i64 x.s.2.2.2.1) := by
  obtain ⟨s0, rfl, g0⟩ := h
  rfl
theorem deedR_c6 {w : World} {S : Nat → Prop} {cs : List Value} {x : DeedD} (h : deedR w S cs x) : cs[6]? = some (.bool x.s.2.2.2.2.1) := by
  obtain ⟨s0, rfl, g0⟩ := h
  rfl
theorem deedR_c7 {w : World} {S : Nat → Prop} {cs : List Value} {x : DeedD} (h : deedR w S cs x) : ∃ a k, cs[7]? = some (.slice a x.s.2.2.2.2.2.length k) ∧ LAt 4 attrR w S (.slice a x.s.2.2.2.2.2.length k) x.s.2.2.2.2.2 := by
  obtain ⟨s0, rfl, g0⟩ := h
  obtain ⟨a, k, rfl⟩ := g0.form
  exact ⟨a, k, rfl, g0⟩
theorem deedR_c8 {w : World} {S : Nat → Prop} {cs : List Value} {x : DeedD} (h : deedR w S cs x) : cs[8]? = some (.int .i64 x.trace) := by
  obtain ⟨s0, rfl, g0⟩ := h
  rfl
theorem deedR_c9 {w : World} {S : Nat → Prop} {cs : List Value} {x : DeedD} (h : deedR w S cs x) : cs[9]? = some (.int .i64 x.stamp) := by
  obtain ⟨s0, rfl, g0⟩ := h
  rfl
theorem deedR_c10 {w : World} {S : Nat → Prop} {cs : List Value} {x : DeedD} (h : deedR w S cs x) : cs[10]? = some (.int .i64 x.code) := by
  obtain ⟨s0, rfl, g0⟩ := h
  rfl
theorem deedR_c11 {w : World} {S : Nat → Prop} {cs : List Value} {x : DeedD} (h : deedR w S cs x) : cs[11]? = some (.bool x.keep) := by
  obtain ⟨s0, rfl, g0⟩ := h
  rfl
theorem deedR_c12 {w : World} {S : Nat → Prop} {cs : List Value} {x : DeedD} (h : deedR w S cs x) : cs[12]? = some (.bool x.void) := by
  obtain ⟨s0, rfl, g0⟩ := h
  rfl
theorem deedR_c13 {w : World} {S : Nat → Prop} {cs : List Value} {x : DeedD} (h : deedR w S cs x) : cs[13]? = some (.int .i64 x.took) := by
  obtain ⟨s0, rfl, g0⟩ := h
  rfl
theorem deedR_c14 {w : World} {S : Nat → Prop} {cs : List Value} {x : DeedD} (h : deedR w S cs x) : cs[14]? = some (.int .i64 x.n) := by
  obtain ⟨s0, rfl, g0⟩ := h
  rfl
theorem deedR_c15 {w : World} {S : Nat → Prop} {cs : List Value} {x : DeedD} (h : deedR w S cs x) : cs[15]? = some (.int .i64 x.forgot) := by
  obtain ⟨s0, rfl, g0⟩ := h
  rfl
theorem deedR_c16 {w : World} {S : Nat → Prop} {cs : List Value} {x : DeedD} (h : deedR w S cs x) : cs[16]? = some (.int .i64 x.now) := by
  obtain ⟨s0, rfl, g0⟩ := h
  rfl
theorem deedR_c17 {w : World} {S : Nat → Prop} {cs : List Value} {x : DeedD} (h : deedR w S cs x) : cs[17]? = some (.int .i64 x.inv) := by
  obtain ⟨s0, rfl, g0⟩ := h
  rfl
theorem deedR_c18 {w : World} {S : Nat → Prop} {cs : List Value} {x : DeedD} (h : deedR w S cs x) : cs[18]? = some (.int .i64 x.lin) := by
  obtain ⟨s0, rfl, g0⟩ := h
  rfl
theorem deedR_c19 {w : World} {S : Nat → Prop} {cs : List Value} {x : DeedD} (h : deedR w S cs x) : cs[19]? = some (.int .i64 x.res) := by
  obtain ⟨s0, rfl, g0⟩ := h
  rfl
theorem deedR_sub_s {w : World} {S : Nat → Prop} {cs : List Value} {x : DeedD} (h : deedR w S cs x) : ∃ c', spanR w S c' x.s ∧ (cs.drop 2).take c'.length = c' := by
  obtain ⟨s0, rfl, g0⟩ := h
  exact ⟨_, ⟨s0, rfl, g0⟩, rfl⟩
end Go.Proofs.Ytciipadkdglhmaa
