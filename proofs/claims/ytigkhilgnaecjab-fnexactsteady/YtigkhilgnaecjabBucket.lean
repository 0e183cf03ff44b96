/-
  Contracts of chapter 7's functions (tokens), of the program and of the specification, and of the law's own copies and comparisons of buckets.
-/
import Derived.Test.YtigkhilgnaecjabNum
import Derived.BigQuiet
import Derived.Deep.QuietTactic
import Derived.Deep.RegionWith
namespace Go.Proofs.Ytigkhilgnaecjab
open Go.ChangeShapes Go.WideShapes Go.ChangeAt Go.RowKit
set_option linter.unusedVariables false
set_option maxRecDepth 100000

def bokB (r b t a : Int) : Bool := inB r 0 99 && (inB b 0 999 && (inB t 0 b && inB a 0 2147483647))

theorem lawEqBucket (r b t a : Int) (w : World) :
    Calls Try.prog 63 #[.agg #[.int .i64 r, .int .i64 b, .int .i64 t, .int .i64 a], .agg #[.int .i64 r, .int .i64 b, .int .i64 t, .int .i64 a]] w fun e w' => e = .returned (.bool true) ∧ Below w.heap.size w w' := by
  go_enter Try.func63, Try.ntmps63
  go_wp2
  go_ret
  exact ⟨rfl, by (repeat (first | with_reducible assumption | with_reducible exact Below.refl _ _ | with_reducible refine Below.drew ?_ | with_reducible refine bdrewN ?_ _ | (with_reducible refine Below.alloc ?_ ?side _; case side => (first | omega | (simp [go_sem]; done) | (simp [go_sem]; omega))) | (with_reducible refine Below.setCell ?_ ?side _; case side => (first | omega | (simp [go_sem]; done) | (simp [go_sem]; omega)))))⟩

theorem lawToBucket (r b t a : Int) (w : World) :
    Calls Try.prog 48 #[.agg #[.int .i64 r, .int .i64 b, .int .i64 t, .int .i64 a]] w fun e w' => e = .returned (.agg #[.int .i64 r, .int .i64 b, .int .i64 t, .int .i64 a]) ∧ Below w.heap.size w w' := by
  go_enter Try.func48, Try.ntmps48
  go_wp2
  exact bodyPost_ret (v := .agg #[.int .i64 r, .int .i64 b, .int .i64 t, .int .i64 a]) (by simp [results, Try.results48, go_sem]) rfl ⟨rfl, by (repeat (first | with_reducible assumption | with_reducible exact Below.refl _ _ | with_reducible refine Below.drew ?_ | with_reducible refine bdrewN ?_ _ | (with_reducible refine Below.alloc ?_ ?side _; case side => (first | omega | (simp [go_sem]; done) | (simp [go_sem]; omega))) | (with_reducible refine Below.setCell ?_ ?side _; case side => (first | omega | (simp [go_sem]; done) | (simp [go_sem]; omega)))))⟩

theorem specMostIn (r b t a k : Int) (w : World) :
    Calls Try.prog 74 #[.agg #[.int .i64 r, .int .i64 b, .int .i64 t, .int .i64 a], .int .i64 k] w fun e w' => e = .returned (.int .i64 (addv b (mulv r k))) ∧ Below w.heap.size w w' := by
  go_enter Try.func74, Try.ntmps74
  go_wp2_with fail
  go_quiet (first | (go_at_call 128; exact Calls.quiet_of_same (specAdd _ _ _)) | (go_at_call 129; exact Calls.quiet_of_same (specMul _ _ _)))
  go_wp2
  go_ret
  exact ⟨rfl, by (repeat (first | with_reducible assumption | with_reducible exact Below.refl _ _ | with_reducible refine Below.drew ?_ | with_reducible refine bdrewN ?_ _ | (with_reducible refine Below.alloc ?_ ?side _; case side => (first | omega | (simp [go_sem]; done) | (simp [go_sem]; omega))) | (with_reducible refine Below.setCell ?_ ?side _; case side => (first | omega | (simp [go_sem]; done) | (simp [go_sem]; omega)))))⟩

theorem implMostIn (r b t a k : Int) (w : World) :
    Calls Try.prog 76 #[.agg #[.int .i64 r, .int .i64 b, .int .i64 t, .int .i64 a], .int .i64 k] w fun e w' => e = .returned (.int .i64 (addv b (mulv r k))) ∧ Below w.heap.size w w' := by
  go_enter Try.func76, Try.ntmps76
  go_wp2_with fail
  go_region_with (first | (go_at_call 132; refine (implAdd _ _ _).mono ?_; rintro e w' ⟨rfl, hb⟩) | (go_at_call 133; refine (implMul _ _ _).mono ?_; rintro e w' ⟨rfl, rfl⟩))
  all_goals (go_wp2; go_ret; exact ⟨rfl, bthen (by (repeat (first | with_reducible assumption | with_reducible exact Below.refl _ _ | with_reducible refine Below.drew ?_ | with_reducible refine bdrewN ?_ _ | (with_reducible refine Below.alloc ?_ ?side _; case side => (first | omega | (simp [go_sem]; done) | (simp [go_sem]; omega))) | (with_reducible refine Below.setCell ?_ ?side _; case side => (first | omega | (simp [go_sem]; done) | (simp [go_sem]; omega)))))) hb⟩)

end Go.Proofs.Ytigkhilgnaecjab
