/-
  Contracts of functions that look at parts of a Trail, a Deed or a Task alone, of the program and of the specification.
-/
import Derived.Test.YtjhlammjnggghaaTTrail
import Derived.Test.YtjhlammjnggghaaTTask
import Derived.Test.YtjhlammjnggghaaMix
namespace Go.Proofs.Ytjhlammjnggghaa
open Go.ChangeShapes Go.WideShapes Go.ChangeAt Go.RowKit
set_option linter.unusedVariables false
set_option maxRecDepth 100000

def olderB (x y : TrailD) : Bool := decide (x.first < y.first) || (decide (x.first = y.first) && decide (x.stamp < y.stamp))
theorem specOlder (x y : TrailD) (S0 : Nat → Prop) (c0 : List Value) (S1 : Nat → Prop) (c1 : List Value) (w : World) (h0 : trailR w S0 c0 x) (b0 : trailBulk x ≤ 1048576) (h1 : trailR w S1 c1 y) (b1 : trailBulk y ≤ 1048576) :
    Calls Try.prog 109 #[.agg c0.toArray, .agg c1.toArray] w fun e w' => e = .returned (.bool (olderB x y)) ∧ Below w.heap.size w w' := by
    obtain ⟨s, rfl, g⟩ := h0
    obtain ⟨s', rfl, g'⟩ := h1
    obtain ⟨a, k, rfl⟩ := g.form
    obtain ⟨a', k', rfl⟩ := g'.form
    unfold olderB
    rcases Int.lt_trichotomy x.first y.first with e | e | e
    · go_enter Try.func109, Try.ntmps109
      go_wp2
      go_ret
      exact ⟨ret_bool (by simp [e]), by (repeat (first | with_reducible assumption | with_reducible exact Below.refl _ _ | with_reducible refine Below.drew ?_ | with_reducible refine bdrewN ?_ _ | (with_reducible refine Below.alloc ?_ ?side _; case side => (first | omega | (simp [go_sem]; done) | (simp [go_sem]; omega))) | (with_reducible refine Below.setCell ?_ ?side _; case side => (first | omega | (simp [go_sem]; done) | (simp [go_sem]; omega)))))⟩
    · have q1 : (x.first == y.first) = true := by simp [e]
      have q2 : ¬ x.first < y.first := by omega
      have HE := hide e
      clear e
      go_enter Try.func109, Try.ntmps109
      go_wp2
      go_ret
      exact ⟨ret_bool (by simp [unhide HE]), by (repeat (first | with_reducible assumption | with_reducible exact Below.refl _ _ | with_reducible refine Below.drew ?_ | with_reducible refine bdrewN ?_ _ | (with_reducible refine Below.alloc ?_ ?side _; case side => (first | omega | (simp [go_sem]; done) | (simp [go_sem]; omega))) | (with_reducible refine Below.setCell ?_ ?side _; case side => (first | omega | (simp [go_sem]; done) | (simp [go_sem]; omega)))))⟩
    · have q1 : (x.first == y.first) = false := by rw [beq_eq_false_iff_ne]; omega
      have q2 : ¬ x.first < y.first := by omega
      go_enter Try.func109, Try.ntmps109
      go_wp2
      go_ret
      exact ⟨ret_bool (by have : x.first ≠ y.first := by omega
                          simp [q2, this]), by (repeat (first | with_reducible assumption | with_reducible exact Below.refl _ _ | with_reducible refine Below.drew ?_ | with_reducible refine bdrewN ?_ _ | (with_reducible refine Below.alloc ?_ ?side _; case side => (first | omega | (simp [go_sem]; done) | (simp [go_sem]; omega))) | (with_reducible refine Below.setCell ?_ ?side _; case side => (first | omega | (simp [go_sem]; done) | (simp [go_sem]; omega)))))⟩
theorem implOlder (x y : TrailD) (S0 : Nat → Prop) (c0 : List Value) (S1 : Nat → Prop) (c1 : List Value) (w : World) (h0 : trailR w S0 c0 x) (b0 : trailBulk x ≤ 1048576) (h1 : trailR w S1 c1 y) (b1 : trailBulk y ≤ 1048576) :
    Calls Try.prog 184 #[.agg c0.toArray, .agg c1.toArray] w fun e w' => e = .returned (.bool (olderB x y)) ∧ Below w.heap.size w w' := by
    obtain ⟨s, rfl, g⟩ := h0
    obtain ⟨s', rfl, g'⟩ := h1
    obtain ⟨a, k, rfl⟩ := g.form
    obtain ⟨a', k', rfl⟩ := g'.form
    unfold olderB
    rcases Int.lt_trichotomy x.first y.first with e | e | e
    · go_enter Try.func184, Try.ntmps184
      go_wp2
      go_ret
      exact ⟨ret_bool (by simp [e]), by (repeat (first | with_reducible assumption | with_reducible exact Below.refl _ _ | with_reducible refine Below.drew ?_ | with_reducible refine bdrewN ?_ _ | (with_reducible refine Below.alloc ?_ ?side _; case side => (first | omega | (simp [go_sem]; done) | (simp [go_sem]; omega))) | (with_reducible refine Below.setCell ?_ ?side _; case side => (first | omega | (simp [go_sem]; done) | (simp [go_sem]; omega)))))⟩
    · have q1 : (x.first == y.first) = true := by simp [e]
      have q2 : ¬ x.first < y.first := by omega
      have HE := hide e
      clear e
      go_enter Try.func184, Try.ntmps184
      go_wp2
      go_ret
      exact ⟨ret_bool (by simp [unhide HE]), by (repeat (first | with_reducible assumption | with_reducible exact Below.refl _ _ | with_reducible refine Below.drew ?_ | with_reducible refine bdrewN ?_ _ | (with_reducible refine Below.alloc ?_ ?side _; case side => (first | omega | (simp [go_sem]; done) | (simp [go_sem]; omega))) | (with_reducible refine Below.setCell ?_ ?side _; case side => (first | omega | (simp [go_sem]; done) | (simp [go_sem]; omega)))))⟩
    · have q1 : (x.first == y.first) = false := by rw [beq_eq_false_iff_ne]; omega
      have q2 : ¬ x.first < y.first := by omega
      go_enter Try.func184, Try.ntmps184
      go_wp2
      go_ret
      exact ⟨ret_bool (by have : x.first ≠ y.first := by omega
                          simp [q2, this]), by (repeat (first | with_reducible assumption | with_reducible exact Below.refl _ _ | with_reducible refine Below.drew ?_ | with_reducible refine bdrewN ?_ _ | (with_reducible refine Below.alloc ?_ ?side _; case side => (first | omega | (simp [go_sem]; done) | (simp [go_sem]; omega))) | (with_reducible refine Below.setCell ?_ ?side _; case side => (first | omega | (simp [go_sem]; done) | (simp [go_sem]; omega)))))⟩

end Go.Proofs.Ytjhlammjnggghaa
