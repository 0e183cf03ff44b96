/-
  Contracts of chapter 7's functions (tokens), of the program and of the specification, and of the law's own copies and comparisons of buckets.
-/
import Derived.Test.YtchinpgjaddnkaaNum
import Derived.BigQuiet
import Derived.Deep.QuietTactic
import Derived.Deep.RegionWith
namespace Go.Proofs.Ytchinpgjaddnkaa
open Go.ChangeShapes Go.WideShapes Go.ChangeAt Go.RowKit
set_option linter.unusedVariables false
set_option maxRecDepth 100000

def bokB (r b t a : Int) : Bool := inB r 0 99 && (inB b 0 999 && (inB t 0 b && inB a 0 2147483647))

theorem specBucketNew (r b : Int) (w : World) :
    Calls Try.prog 27 #[.int .i64 r, .int .i64 b] w fun e w' => e = .returned (.agg #[.int .i64 r, .int .i64 b, .int .i64 b, .int .i64 0]) ∧ Below w.heap.size w w' := by
  go_enter Try.func27, Try.ntmps27
  go_wp2
  exact bodyPost_ret (v := .agg #[.int .i64 r, .int .i64 b, .int .i64 b, .int .i64 0]) (by simp [results, Try.results27, go_sem]) rfl ⟨rfl, by (repeat (first | with_reducible assumption | with_reducible exact Below.refl _ _ | with_reducible refine Below.drew ?_ | with_reducible refine bdrewN ?_ _ | (with_reducible refine Below.alloc ?_ ?side _; case side => (first | omega | (simp [go_sem]; done) | (simp [go_sem]; omega))) | (with_reducible refine Below.setCell ?_ ?side _; case side => (first | omega | (simp [go_sem]; done) | (simp [go_sem]; omega)))))⟩

theorem implBucketNew (r b : Int) (w : World) :
    Calls Try.prog 26 #[.int .i64 r, .int .i64 b] w fun e w' => e = .returned (.agg #[.int .i64 r, .int .i64 b, .int .i64 b, .int .i64 0]) ∧ Below w.heap.size w w' := by
  go_enter Try.func26, Try.ntmps26
  go_wp2
  exact bodyPost_ret (v := .agg #[.int .i64 r, .int .i64 b, .int .i64 b, .int .i64 0]) (by simp [results, Try.results26, go_sem]) rfl ⟨rfl, by (repeat (first | with_reducible assumption | with_reducible exact Below.refl _ _ | with_reducible refine Below.drew ?_ | with_reducible refine bdrewN ?_ _ | (with_reducible refine Below.alloc ?_ ?side _; case side => (first | omega | (simp [go_sem]; done) | (simp [go_sem]; omega))) | (with_reducible refine Below.setCell ?_ ?side _; case side => (first | omega | (simp [go_sem]; done) | (simp [go_sem]; omega)))))⟩

theorem specBucketOk (r b t a : Int) (v : Bool) (h : bokB r b t a = v) (w : World) :
    Calls Try.prog 23 #[.agg #[.int .i64 r, .int .i64 b, .int .i64 t, .int .i64 a]] w fun e w' => e = .returned (.bool v) ∧ w' = w.alloc (.cells #[.int .i64 r, .int .i64 b, .int .i64 t, .int .i64 a] 29) := by
  subst h
  cases h1 : inB r 0 99
  case false => (go_enter Try.func23, Try.ntmps23; go_wp2_with (go_at_call 46; refine (specIn _ _ _ _ (by assumption) _).mono ?_; rintro e w' ⟨rfl, rfl⟩); go_ret; exact ⟨ret_bool (by simp [bokB, *]), rfl⟩)
  cases h2 : inB b 0 999
  case false => (go_enter Try.func23, Try.ntmps23; go_wp2_with (go_at_call 46; refine (specIn _ _ _ _ (by assumption) _).mono ?_; rintro e w' ⟨rfl, rfl⟩); go_ret; exact ⟨ret_bool (by simp [bokB, *]), rfl⟩)
  cases h3 : inB t 0 b
  case false => (go_enter Try.func23, Try.ntmps23; go_wp2_with (go_at_call 46; refine (specIn _ _ _ _ (by assumption) _).mono ?_; rintro e w' ⟨rfl, rfl⟩); go_ret; exact ⟨ret_bool (by simp [bokB, *]), rfl⟩)
  cases h4 : inB a 0 2147483647
  case false => (go_enter Try.func23, Try.ntmps23; go_wp2_with (go_at_call 46; refine (specIn _ _ _ _ (by assumption) _).mono ?_; rintro e w' ⟨rfl, rfl⟩); go_ret; exact ⟨ret_bool (by simp [bokB, *]), rfl⟩)
  (go_enter Try.func23, Try.ntmps23; go_wp2_with (go_at_call 46; refine (specIn _ _ _ _ (by assumption) _).mono ?_; rintro e w' ⟨rfl, rfl⟩); go_ret; exact ⟨ret_bool (by simp [bokB, *]), rfl⟩)

theorem implBucketOk (r b t a : Int) (v : Bool) (h : bokB r b t a = v) (w : World) :
    Calls Try.prog 22 #[.agg #[.int .i64 r, .int .i64 b, .int .i64 t, .int .i64 a]] w fun e w' => e = .returned (.bool v) ∧ w' = w.alloc (.cells #[.int .i64 r, .int .i64 b, .int .i64 t, .int .i64 a] 29) := by
  subst h
  by_cases h1 : 0 ≤ r
  case neg => (go_enter Try.func22, Try.ntmps22; go_wp2_with (go_at_call 45; refine (implAmountOk _ _ (by assumption) _).mono ?_; rintro e w' ⟨rfl, rfl⟩); go_ret; exact ⟨ret_bool (by first | (simp [bokB, inB, *]; done) | (simp [bokB, inB, *]; intros; omega)), rfl⟩)
  by_cases h2 : r ≤ 99
  case neg => (go_enter Try.func22, Try.ntmps22; go_wp2_with (go_at_call 45; refine (implAmountOk _ _ (by assumption) _).mono ?_; rintro e w' ⟨rfl, rfl⟩); go_ret; exact ⟨ret_bool (by first | (simp [bokB, inB, *]; done) | (simp [bokB, inB, *]; intros; omega)), rfl⟩)
  by_cases h3 : 0 ≤ b
  case neg => (go_enter Try.func22, Try.ntmps22; go_wp2_with (go_at_call 45; refine (implAmountOk _ _ (by assumption) _).mono ?_; rintro e w' ⟨rfl, rfl⟩); go_ret; exact ⟨ret_bool (by first | (simp [bokB, inB, *]; done) | (simp [bokB, inB, *]; intros; omega)), rfl⟩)
  by_cases h4 : b ≤ 999
  case neg => (go_enter Try.func22, Try.ntmps22; go_wp2_with (go_at_call 45; refine (implAmountOk _ _ (by assumption) _).mono ?_; rintro e w' ⟨rfl, rfl⟩); go_ret; exact ⟨ret_bool (by first | (simp [bokB, inB, *]; done) | (simp [bokB, inB, *]; intros; omega)), rfl⟩)
  by_cases h5 : 0 ≤ t
  case neg => (go_enter Try.func22, Try.ntmps22; go_wp2_with (go_at_call 45; refine (implAmountOk _ _ (by assumption) _).mono ?_; rintro e w' ⟨rfl, rfl⟩); go_ret; exact ⟨ret_bool (by first | (simp [bokB, inB, *]; done) | (simp [bokB, inB, *]; intros; omega)), rfl⟩)
  by_cases h6 : t ≤ b
  case neg => (go_enter Try.func22, Try.ntmps22; go_wp2_with (go_at_call 45; refine (implAmountOk _ _ (by assumption) _).mono ?_; rintro e w' ⟨rfl, rfl⟩); go_ret; exact ⟨ret_bool (by first | (simp [bokB, inB, *]; done) | (simp [bokB, inB, *]; intros; omega)), rfl⟩)
  cases h8 : inB a 0 2147483647
  case false => (go_enter Try.func22, Try.ntmps22; go_wp2_with (go_at_call 45; refine (implAmountOk _ _ (by assumption) _).mono ?_; rintro e w' ⟨rfl, rfl⟩); go_ret; exact ⟨ret_bool (by simp only [bokB, h8]; simp [inB, *]), rfl⟩)
  (go_enter Try.func22, Try.ntmps22; go_wp2_with (go_at_call 45; refine (implAmountOk _ _ (by assumption) _).mono ?_; rintro e w' ⟨rfl, rfl⟩); go_ret; exact ⟨ret_bool (by simp only [bokB, h8]; simp [inB, *]), rfl⟩)

theorem specMostIn (r b t a k : Int) (w : World) :
    Calls Try.prog 25 #[.agg #[.int .i64 r, .int .i64 b, .int .i64 t, .int .i64 a], .int .i64 k] w fun e w' => e = .returned (.int .i64 (addv b (mulv r k))) ∧ Below w.heap.size w w' := by
  go_enter Try.func25, Try.ntmps25
  go_wp2_with fail
  go_quiet (first | (go_at_call 42; exact Calls.quiet_of_same (specAdd _ _ _)) | (go_at_call 43; exact Calls.quiet_of_same (specMul _ _ _)))
  go_wp2
  go_ret
  exact ⟨rfl, by (repeat (first | with_reducible assumption | with_reducible exact Below.refl _ _ | with_reducible refine Below.drew ?_ | with_reducible refine bdrewN ?_ _ | (with_reducible refine Below.alloc ?_ ?side _; case side => (first | omega | (simp [go_sem]; done) | (simp [go_sem]; omega))) | (with_reducible refine Below.setCell ?_ ?side _; case side => (first | omega | (simp [go_sem]; done) | (simp [go_sem]; omega)))))⟩

theorem implMostIn (r b t a k : Int) (w : World) :
    Calls Try.prog 24 #[.agg #[.int .i64 r, .int .i64 b, .int .i64 t, .int .i64 a], .int .i64 k] w fun e w' => e = .returned (.int .i64 (addv b (mulv r k))) ∧ Below w.heap.size w w' := by
  go_enter Try.func24, Try.ntmps24
  go_wp2_with fail
  go_region_with (first | (go_at_call 47; refine (implAdd _ _ _).mono ?_; rintro e w' ⟨rfl, hb⟩) | (go_at_call 48; refine (implMul _ _ _).mono ?_; rintro e w' ⟨rfl, rfl⟩))
  all_goals (go_wp2; go_ret; exact ⟨rfl, bthen (by (repeat (first | with_reducible assumption | with_reducible exact Below.refl _ _ | with_reducible refine Below.drew ?_ | with_reducible refine bdrewN ?_ _ | (with_reducible refine Below.alloc ?_ ?side _; case side => (first | omega | (simp [go_sem]; done) | (simp [go_sem]; omega))) | (with_reducible refine Below.setCell ?_ ?side _; case side => (first | omega | (simp [go_sem]; done) | (simp [go_sem]; omega)))))) hb⟩)

end Go.Proofs.Ytchinpgjaddnkaa
