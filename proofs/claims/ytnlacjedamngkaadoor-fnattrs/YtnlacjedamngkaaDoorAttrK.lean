/-
  AttrOk in terms of worlds that grow.
-/
import Derived.Test.YtnlacjedamngkaaDoorAttr
namespace Go.Proofs.YtnlacjedamngkaaDoor
open Go.ChangeShapes Go.WideShapes Go.ChangeAt Go.RowKit
set_option linter.unusedVariables false
set_option maxRecDepth 100000
theorem atk_ok (k : ByteArray) (b : Bool) (n : Int) (t : ByteArray) (w : World) (v : Bool) (hk : k.size ≤ maxLen) (ht : t.size ≤ maxLen) (h : attrB k b n t = v) : Calls Tryd.prog 11 #[.agg #[.string k, .bool b, .int .i64 n, .string t]] w fun e w' => e = .returned (.bool v) ∧ Below w.heap.size w w' := by
  subst h
  exact implAttrOk k b n t w hk ht
theorem atk_okS (k : ByteArray) (b : Bool) (n : Int) (t : ByteArray) (w : World) (v : Bool) (hk : k.size ≤ maxLen) (ht : t.size ≤ maxLen) (h : attrB k b n t = v) : Calls Tryd.prog 12 #[.agg #[.string k, .bool b, .int .i64 n, .string t]] w fun e w' => e = .returned (.bool v) ∧ Below w.heap.size w w' := by
  subst h
  refine (specAttrOk k b n t w hk ht).mono ?_
  rintro e w' ⟨rfl, rfl⟩
  exact ⟨rfl, bnew _ _⟩
end Go.Proofs.YtnlacjedamngkaaDoor
