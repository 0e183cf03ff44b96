/-
  Contracts of chapter 2's functions of one Attr, of the program and of the specification, and of the law's own sizes, copies and comparisons.
-/
import Derived.Test.YtnlacjedamngkaaStr1
import Derived.BigQuiet
import Derived.Deep.QuietTactic
import Derived.Deep.RegionWith
namespace Go.Proofs.Ytnlacjedamngkaa
open Go.ChangeShapes Go.WideShapes Go.ChangeAt Go.RowKit
set_option linter.unusedVariables false
set_option maxRecDepth 100000

def attrB (k : ByteArray) (b : Bool) (n : Int) (t : ByteArray) : Bool := nameB k && (if b then inB n 0 2147483647 && t.toList.isEmpty else decide (n = 0) && plainB t)
theorem beq_eq_dec (n : Int) : (n == 0) = decide (n = 0) := by by_cases h : n = 0 <;> simp [h]
def szv (left : Int) (k t : ByteArray) : Int := if left < k.size then -1 else if left - k.size < t.size then -1 else left - k.size - t.size

theorem lawSzAttr (k : ByteArray) (b : Bool) (n : Int) (t : ByteArray) (left : Int) (w : World) (h0 : 0 ≤ left) (h1 : left ≤ 1048576) (hk : k.size ≤ maxLen) (ht : t.size ≤ maxLen) :
    Calls Try.prog 88 #[.agg #[.string k, .bool b, .int .i64 n, .string t], .int .i64 left] w fun e w' => e = .returned (.int .i64 (szv left k t)) ∧ w' = w.alloc (.cells #[.string k, .bool b, .int .i64 n, .string t] 112) := by
  unfold maxLen at hk ht
  unfold szv
  by_cases h2 : left < k.size
  case pos =>
    rw [if_pos h2]
    go_enter Try.func88, Try.ntmps88
    go_wp2
    go_ret
    exact ⟨rfl, rfl⟩
  rw [if_neg h2]
  by_cases h3 : left - k.size < t.size
  case pos =>
    rw [if_pos h3]
    go_enter Try.func88, Try.ntmps88
    go_wp2
    go_ret
    exact ⟨rfl, rfl⟩
  rw [if_neg h3]
  go_enter Try.func88, Try.ntmps88
  go_wp2
  go_ret
  exact ⟨rfl, rfl⟩

theorem lawToAttr (k : ByteArray) (b : Bool) (n : Int) (t : ByteArray) (w : World) :
    Calls Try.prog 90 #[.agg #[.string k, .bool b, .int .i64 n, .string t]] w fun e w' => e = .returned (.agg #[.string k, .bool b, .int .i64 n, .string t]) ∧ w' = ((w.alloc (.cells #[.string k, .bool b, .int .i64 n, .string t] 112)).alloc (.cells #[.string k, .bool b, .int .i64 n, .string t] 114)).alloc (.cells #[.string k, .bool b, .int .i64 n, .string t] 114) := by
  go_enter Try.func90, Try.ntmps90
  go_wp2
  exact bodyPost_ret (v := .agg #[.string k, .bool b, .int .i64 n, .string t]) (by simp [results, Try.results90, go_sem]) rfl ⟨rfl, rfl⟩
theorem lawToAttr' (k : ByteArray) (b : Bool) (n : Int) (t : ByteArray) (w : World) :
    Calls Try.prog 90 #[.agg #[.string k, .bool b, .int .i64 n, .string t]] w fun e w' => e = .returned (.agg #[.string k, .bool b, .int .i64 n, .string t]) ∧ Below w.heap.size w w' :=
  (lawToAttr k b n t w).mono fun e w' ⟨h, hw⟩ => ⟨h, by rw [hw]; (repeat (first | with_reducible assumption | with_reducible exact Below.refl _ _ | with_reducible refine Below.drew ?_ | with_reducible refine bdrewN ?_ _ | (with_reducible refine Below.alloc ?_ ?side _; case side => (first | omega | (simp [go_sem]; done) | (simp [go_sem]; omega))) | (with_reducible refine Below.setCell ?_ ?side _; case side => (first | omega | (simp [go_sem]; done) | (simp [go_sem]; omega)))))⟩

end Go.Proofs.Ytnlacjedamngkaa
