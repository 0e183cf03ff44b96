/-
  CountOf of both, its answer cell by cell.
-/
import Derived.Test.YtciipadkdglhmaaCnt3
namespace Go.Proofs.Ytciipadkdglhmaa
open Go.ChangeShapes Go.WideShapes Go.ChangeAt Go.RowKit
set_option linter.unusedVariables false
set_option maxRecDepth 100000

theorem specCountOfL (x : WorldD) (S0 : Nat → Prop) (c0 : List Value) (w : World) (h0 : worldR w S0 c0 x) (b0 : worldBulk x ≤ 1048576) :
    Calls Try.prog 5 #[.agg c0.toArray] w fun e w' => e = .returned (.agg #[.int .i64 (countOf x).came, .int .i64 (countOf x).went, .int .i64 (countOf x).moving, .int .i64 (countOf x).held, .int .i64 (countOf x).dropped]) ∧ Below w.heap.size w w' := specCountOf x S0 c0 w h0 b0
theorem implCountOfL (x : WorldD) (S0 : Nat → Prop) (c0 : List Value) (w : World) (h0 : worldR w S0 c0 x) (b0 : worldBulk x ≤ 1048576) :
    Calls Try.prog 7 #[.agg c0.toArray] w fun e w' => e = .returned (.agg #[.int .i64 (countOf x).came, .int .i64 (countOf x).went, .int .i64 (countOf x).moving, .int .i64 (countOf x).held, .int .i64 (countOf x).dropped]) ∧ Below w.heap.size w w' := implCountOf x S0 c0 w h0 b0
end Go.Proofs.Ytciipadkdglhmaa
