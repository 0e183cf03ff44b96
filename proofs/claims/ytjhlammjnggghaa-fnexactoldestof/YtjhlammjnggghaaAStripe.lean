/-
  Stripe: its cells, one by one.
-/
import Derived.Test.YtjhlammjnggghaaAbs
import Derived.Test.YtjhlammjnggghaaTStripe
namespace Go.Proofs.Ytjhlammjnggghaa
open Go.ChangeShapes Go.WideShapes Go.ChangeAt Go.RowKit
set_option linter.unusedVariables false
set_option maxRecDepth 100000

theorem stripeR_len {w : World} {S : Nat → Prop} {cs : List Value} {x : StripeD} (h : stripeR w S cs x) : cs.length = 2 := by
  obtain ⟨s0, rfl, g0⟩ := h
  rfl
theorem stripeR_one {w : World} {S : Nat → Prop} {cs : List Value} {x : StripeD} (h : stripeR w S cs x) : One cs := by
  obtain ⟨s0, rfl, g0⟩ := h
  obtain ⟨a0, k0, rfl⟩ := g0.form
  intro v hv
  simp only [List.mem_cons, List.not_mem_nil, or_false] at hv
  rcases hv with rfl | rfl <;> rfl
theorem stripeR_c0 {w : World} {S : Nat → Prop} {cs : List Value} {x : StripeD} (h : stripeR w S cs x) : cs[0]? = some (.int .i64 x.held) := by
  obtain ⟨s0, rfl, g0⟩ := h
  rfl
theorem stripeR_c1 {w : World} {S : Nat → Prop} {cs : List Value} {x : StripeD} (h : stripeR w S cs x) : ∃ a k, cs[1]? = some (.slice a x.l.length k) ∧ LAt 4 trailR w S (.slice a x.l.length k) x.l := by
  obtain ⟨s0, rfl, g0⟩ := h
  obtain ⟨a, k, rfl⟩ := g0.form
  exact ⟨a, k, rfl, g0⟩
theorem rowLStripe : RowT Try.prog 138 2 := ⟨_, Try.underlying138, rfl, by kernel_rfl⟩
theorem rowIStripe : RowT Try.prog 140 2 := ⟨_, Try.underlying140, rfl, by kernel_rfl⟩
end Go.Proofs.Ytjhlammjnggghaa
