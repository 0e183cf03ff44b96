/-
  Contracts of SameDeed, of the program (by twelve numbers that are compared at once) and of the specification.
-/
import Derived.Test.YtklhljknkcmecaaPlain3
import Derived.Test.YtklhljknkcmecaaPlain4
import Derived.Test.YtklhljknkcmecaaToSt
namespace Go.Proofs.Ytklhljknkcmecaa
open Go.ChangeShapes Go.WideShapes Go.ChangeAt Go.RowKit
set_option linter.unusedVariables false
set_option maxRecDepth 100000

set_option maxHeartbeats 1000000 in
theorem eqNums (a0 a1 a2 a3 a4 a5 a6 a7 a8 a9 a10 a11 b0 b1 b2 b3 b4 b5 b6 b7 b8 b9 b10 b11 : Int) (w : World) :
    (Op.equalIn 10000 104 (.agg #[.int .i64 a0, .int .i64 a1, .int .i64 a2, .int .i64 a3, .int .i64 a4, .int .i64 a5, .int .i64 a6, .int .i64 a7, .int .i64 a8, .int .i64 a9, .int .i64 a10, .int .i64 a11]) (.agg #[.int .i64 b0, .int .i64 b1, .int .i64 b2, .int .i64 b3, .int .i64 b4, .int .i64 b5, .int .i64 b6, .int .i64 b7, .int .i64 b8, .int .i64 b9, .int .i64 b10, .int .i64 b11])).run Try.prog w = .ok (decide (a0 = b0 ∧ a1 = b1 ∧ a2 = b2 ∧ a3 = b3 ∧ a4 = b4 ∧ a5 = b5 ∧ a6 = b6 ∧ a7 = b7 ∧ a8 = b8 ∧ a9 = b9 ∧ a10 = b10 ∧ a11 = b11)) w := by
  have e1 : ∀ (x y : Int) (w : World), (Op.equalIn 9999 3 (.int .i64 x) (.int .i64 y)).run Try.prog w = .ok (x == y) w := fun x y w => by go_simp
  have n1 : ∀ w, (sizeOf 3).run Try.prog w = .ok 1 w := fun w => by go_simp
  unfold Op.equalIn
  simp only [Sem.run_bind, run_underlying Try.underlying104, Result.andThen_ok, n1]
  simp [List.range']
  by_cases h0 : a0 = b0
  case neg => go_simp
  subst h0
  by_cases h1 : a1 = b1
  case neg => go_simp
  subst h1
  by_cases h2 : a2 = b2
  case neg => go_simp
  subst h2
  by_cases h3 : a3 = b3
  case neg => go_simp
  subst h3
  by_cases h4 : a4 = b4
  case neg => go_simp
  subst h4
  by_cases h5 : a5 = b5
  case neg => go_simp
  subst h5
  by_cases h6 : a6 = b6
  case neg => go_simp
  subst h6
  by_cases h7 : a7 = b7
  case neg => go_simp
  subst h7
  by_cases h8 : a8 = b8
  case neg => go_simp
  subst h8
  by_cases h9 : a9 = b9
  case neg => go_simp
  subst h9
  by_cases h10 : a10 = b10
  case neg => go_simp
  subst h10
  by_cases h11 : a11 = b11
  case neg => go_simp
  subst h11
  go_simp
theorem implNums (x : DeedD) (S0 : Nat → Prop) (c0 : List Value) (w : World) (h0 : deedR w S0 c0 x) :
    Calls Try.prog 85 #[.agg c0.toArray] w fun e w' => e = .returned (.agg #[.int .i64 x.op, .int .i64 x.task, .int .i64 x.trace, .int .i64 x.stamp, .int .i64 x.code, .int .i64 x.took, .int .i64 x.n, .int .i64 x.forgot, .int .i64 x.now, .int .i64 x.inv, .int .i64 x.lin, .int .i64 x.res]) ∧ Below w.heap.size w w' := by
  obtain ⟨s, rfl, g⟩ := h0
  obtain ⟨a, k, rfl⟩ := g.form
  go_enter Try.func85, Try.ntmps85
  go_wp2
  exact bodyPost_ret (v := .agg #[.int .i64 x.op, .int .i64 x.task, .int .i64 x.trace, .int .i64 x.stamp, .int .i64 x.code, .int .i64 x.took, .int .i64 x.n, .int .i64 x.forgot, .int .i64 x.now, .int .i64 x.inv, .int .i64 x.lin, .int .i64 x.res]) (by simp [results, Try.results85, go_sem]) rfl ⟨rfl, by (repeat (first | with_reducible assumption | with_reducible exact Below.refl _ _ | with_reducible refine Below.drew ?_ | with_reducible refine bdrewN ?_ _ | (with_reducible refine Below.alloc ?_ ?side _; case side => (first | omega | (simp [go_sem]; done) | (simp [go_sem]; omega))) | (with_reducible refine Below.setCell ?_ ?side _; case side => (first | omega | (simp [go_sem]; done) | (simp [go_sem]; omega)))))⟩
end Go.Proofs.Ytklhljknkcmecaa
