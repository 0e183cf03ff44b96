/-
  Conf: its cells, one by one.
-/
import Derived.Test.YtlhjhnjpmafceaaAbs
import Derived.Test.YtlhjhnjpmafceaaTConf
namespace Go.Proofs.Ytlhjhnjpmafceaa
open Go.ChangeShapes Go.WideShapes Go.ChangeAt Go.RowKit
set_option linter.unusedVariables false
set_option maxRecDepth 100000

theorem confR_len {w : World} {S : Nat → Prop} {cs : List Value} {x : ConfD} (h : confR w S cs x) : cs.length = 12 := by
  obtain ⟨s0, rfl, _, _, g0⟩ := h
  rfl
theorem confR_one {w : World} {S : Nat → Prop} {cs : List Value} {x : ConfD} (h : confR w S cs x) : One cs := by
  obtain ⟨s0, rfl, _, _, g0⟩ := h
  obtain ⟨a0, k0, rfl⟩ := g0.form
  intro v hv
  simp only [List.mem_cons, List.not_mem_nil, or_false] at hv
  rcases hv with rfl | rfl | rfl | rfl | rfl | rfl | rfl | rfl | rfl | rfl | rfl | rfl <;> rfl
theorem confR_c0 {w : World} {S : Nat → Prop} {cs : List Value} {x : ConfD} (h : confR w S cs x) : cs[0]? = some (.int .i64 x.stripes) := by
  obtain ⟨s0, rfl, _, _, g0⟩ := h
  rfl
theorem confR_c1 {w : World} {S : Nat → Prop} {cs : List Value} {x : ConfD} (h : confR w S cs x) : cs[1]? = some (.int .i64 x.wait) := by
  obtain ⟨s0, rfl, _, _, g0⟩ := h
  rfl
theorem confR_c2 {w : World} {S : Nat → Prop} {cs : List Value} {x : ConfD} (h : confR w S cs x) : cs[2]? = some (.int .i64 x.budget) := by
  obtain ⟨s0, rfl, _, _, g0⟩ := h
  rfl
theorem confR_c3 {w : World} {S : Nat → Prop} {cs : List Value} {x : ConfD} (h : confR w S cs x) : cs[3]? = some (.int .i64 x.cache) := by
  obtain ⟨s0, rfl, _, _, g0⟩ := h
  rfl
theorem confR_c4 {w : World} {S : Nat → Prop} {cs : List Value} {x : ConfD} (h : confR w S cs x) : cs[4]? = some (.int .i64 x.queue) := by
  obtain ⟨s0, rfl, _, _, g0⟩ := h
  rfl
theorem confR_c5 {w : World} {S : Nat → Prop} {cs : List Value} {x : ConfD} (h : confR w S cs x) : cs[5]? = some (.int .i64 x.rate) := by
  obtain ⟨s0, rfl, _, _, g0⟩ := h
  rfl
theorem confR_c6 {w : World} {S : Nat → Prop} {cs : List Value} {x : ConfD} (h : confR w S cs x) : cs[6]? = some (.int .i64 x.burst) := by
  obtain ⟨s0, rfl, _, _, g0⟩ := h
  rfl
theorem confR_c7 {w : World} {S : Nat → Prop} {cs : List Value} {x : ConfD} (h : confR w S cs x) : cs[7]? = some (.int .i64 x.rule.kind) := by
  obtain ⟨s0, rfl, _, _, g0⟩ := h
  rfl
theorem confR_c8 {w : World} {S : Nat → Prop} {cs : List Value} {x : ConfD} (h : confR w S cs x) : cs[8]? = some (.int .i64 x.rule.n) := by
  obtain ⟨s0, rfl, _, _, g0⟩ := h
  rfl
theorem confR_c9 {w : World} {S : Nat → Prop} {cs : List Value} {x : ConfD} (h : confR w S cs x) : cs[9]? = some (.string x.rule.key) := by
  obtain ⟨s0, rfl, _, _, g0⟩ := h
  rfl
theorem confR_c10 {w : World} {S : Nat → Prop} {cs : List Value} {x : ConfD} (h : confR w S cs x) : cs[10]? = some (.string x.rule.text) := by
  obtain ⟨s0, rfl, _, _, g0⟩ := h
  rfl
theorem confR_c11 {w : World} {S : Nat → Prop} {cs : List Value} {x : ConfD} (h : confR w S cs x) : ∃ a k, cs[11]? = some (.slice a x.rule.l.length k) ∧ LAtC 5 polR w S (.slice a x.rule.l.length k) x.rule.l := by
  obtain ⟨s0, rfl, _, _, g0⟩ := h
  obtain ⟨a, k, rfl⟩ := g0.form
  exact ⟨a, k, rfl, g0⟩
theorem confR_sub_rule {w : World} {S : Nat → Prop} {cs : List Value} {x : ConfD} (h : confR w S cs x) : ∃ c', polR w S c' x.rule ∧ (cs.drop 7).take c'.length = c' := by
  obtain ⟨s0, rfl, q0, q1, g0⟩ := h
  exact ⟨_, polR_open.2 ⟨s0, rfl, q0, q1, g0⟩, rfl⟩
end Go.Proofs.Ytlhjhnjpmafceaa
