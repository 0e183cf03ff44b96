/-
  Contracts of chapter 7's Spend, of the program and of the specification.
-/
import Derived.Test.YtchinpgjaddnkaaBucket
namespace Go.Proofs.Ytchinpgjaddnkaa
open Go.ChangeShapes Go.WideShapes Go.ChangeAt Go.RowKit
set_option linter.unusedVariables false
set_option maxRecDepth 100000

def spendOk (r b t a n : Int) : Bool := bokB r b t a && (decide (0 ≤ n) && decide (n ≤ t))
theorem bok_in {r b t a : Int} (h : bokB r b t a = true) : 0 ≤ t ∧ t ≤ 999 := by
  simp only [bokB, Bool.and_eq_true, inB_iff] at h
  omega
theorem specSpend_no (r b t a n : Int) (w : World) (h : spendOk r b t a n = false) :
    Calls Try.prog 17 #[.agg #[.int .i64 (r), .int .i64 (b), .int .i64 (t), .int .i64 (a)], .int .i64 n] w fun e w' => e = .returned (.tuple #[.agg #[.int .i64 (r), .int .i64 (b), .int .i64 (t), .int .i64 (a)], .bool false]) ∧ Below w.heap.size w w' := by
  cases h1 : bokB r b t a
  case false =>
    go_enter Try.func17, Try.ntmps17
    go_wp2_with fail
    refine (specBucketOk r b t a _ h1 _).mono ?_
    rintro e w1 ⟨rfl, rfl⟩
    go_wp2
    exact bodyPost_ret (v := .tuple #[.agg #[.int .i64 (r), .int .i64 (b), .int .i64 (t), .int .i64 (a)], .bool false]) (by simp [results, Try.results17, go_sem]) rfl ⟨rfl, by (repeat (first | with_reducible assumption | with_reducible exact Below.refl _ _ | with_reducible refine Below.drew ?_ | with_reducible refine bdrewN ?_ _ | (with_reducible refine Below.alloc ?_ ?side _; case side => (first | omega | (simp [go_sem]; done) | (simp [go_sem]; omega))) | (with_reducible refine Below.setCell ?_ ?side _; case side => (first | omega | (simp [go_sem]; done) | (simp [go_sem]; omega)))))⟩
  by_cases h2 : n < 0
  case pos =>
    go_enter Try.func17, Try.ntmps17
    go_wp2_with fail
    refine (specBucketOk r b t a _ h1 _).mono ?_
    rintro e w1 ⟨rfl, rfl⟩
    go_wp2
    exact bodyPost_ret (v := .tuple #[.agg #[.int .i64 (r), .int .i64 (b), .int .i64 (t), .int .i64 (a)], .bool false]) (by simp [results, Try.results17, go_sem]) rfl ⟨rfl, by (repeat (first | with_reducible assumption | with_reducible exact Below.refl _ _ | with_reducible refine Below.drew ?_ | with_reducible refine bdrewN ?_ _ | (with_reducible refine Below.alloc ?_ ?side _; case side => (first | omega | (simp [go_sem]; done) | (simp [go_sem]; omega))) | (with_reducible refine Below.setCell ?_ ?side _; case side => (first | omega | (simp [go_sem]; done) | (simp [go_sem]; omega)))))⟩
  have h3 : t < n := by
    simp only [spendOk, h1, Bool.true_and, Bool.and_eq_false_iff, decide_eq_false_iff_not] at h
    omega
  clear h
  go_enter Try.func17, Try.ntmps17
  go_wp2_with fail
  refine (specBucketOk r b t a _ h1 _).mono ?_
  rintro e w1 ⟨rfl, rfl⟩
  go_wp2
  exact bodyPost_ret (v := .tuple #[.agg #[.int .i64 (r), .int .i64 (b), .int .i64 (t), .int .i64 (a)], .bool false]) (by simp [results, Try.results17, go_sem]) rfl ⟨rfl, by (repeat (first | with_reducible assumption | with_reducible exact Below.refl _ _ | with_reducible refine Below.drew ?_ | with_reducible refine bdrewN ?_ _ | (with_reducible refine Below.alloc ?_ ?side _; case side => (first | omega | (simp [go_sem]; done) | (simp [go_sem]; omega))) | (with_reducible refine Below.setCell ?_ ?side _; case side => (first | omega | (simp [go_sem]; done) | (simp [go_sem]; omega)))))⟩
theorem specSpend_yes (r b t a n : Int) (w : World) (h : spendOk r b t a n = true) :
    Calls Try.prog 17 #[.agg #[.int .i64 (r), .int .i64 (b), .int .i64 (t), .int .i64 (a)], .int .i64 n] w fun e w' => e = .returned (.tuple #[.agg #[.int .i64 (r), .int .i64 (b), .int .i64 (t - n), .int .i64 (a)], .bool true]) ∧ Below w.heap.size w w' := by
  simp only [spendOk, Bool.and_eq_true, decide_eq_true_eq] at h
  obtain ⟨h1, h2, h3⟩ := h
  obtain ⟨h4, h5⟩ := bok_in h1
  go_enter Try.func17, Try.ntmps17
  go_wp2_with fail
  refine (specBucketOk r b t a _ h1 _).mono ?_
  rintro e w1 ⟨rfl, rfl⟩
  go_wp2
  exact bodyPost_ret (v := .tuple #[.agg #[.int .i64 (r), .int .i64 (b), .int .i64 (t - n), .int .i64 (a)], .bool true]) (by simp [results, Try.results17, go_sem]) rfl ⟨rfl, by (repeat (first | with_reducible assumption | with_reducible exact Below.refl _ _ | with_reducible refine Below.drew ?_ | with_reducible refine bdrewN ?_ _ | (with_reducible refine Below.alloc ?_ ?side _; case side => (first | omega | (simp [go_sem]; done) | (simp [go_sem]; omega))) | (with_reducible refine Below.setCell ?_ ?side _; case side => (first | omega | (simp [go_sem]; done) | (simp [go_sem]; omega)))))⟩
theorem implSpend_no (r b t a n : Int) (w : World) (h : spendOk r b t a n = false) :
    Calls Try.prog 16 #[.agg #[.int .i64 (r), .int .i64 (b), .int .i64 (t), .int .i64 (a)], .int .i64 n] w fun e w' => e = .returned (.tuple #[.agg #[.int .i64 (r), .int .i64 (b), .int .i64 (t), .int .i64 (a)], .bool false]) ∧ Below w.heap.size w w' := by
  cases h1 : bokB r b t a
  case false =>
    go_enter Try.func16, Try.ntmps16
    go_wp2_with fail
    go_enter Try.func38, Try.ntmps38
    go_wp2_with fail
    refine (implBucketOk r b t a _ h1 _).mono ?_
    rintro e w1 ⟨rfl, rfl⟩
    go_wp2
    exact bodyPost_ret (v := .tuple #[.agg #[.int .i64 (r), .int .i64 (b), .int .i64 (t), .int .i64 (a)], .bool false]) (by simp [results, Try.results16, go_sem]) rfl ⟨rfl, by (repeat (first | with_reducible assumption | with_reducible exact Below.refl _ _ | with_reducible refine Below.drew ?_ | with_reducible refine bdrewN ?_ _ | (with_reducible refine Below.alloc ?_ ?side _; case side => (first | omega | (simp [go_sem]; done) | (simp [go_sem]; omega))) | (with_reducible refine Below.setCell ?_ ?side _; case side => (first | omega | (simp [go_sem]; done) | (simp [go_sem]; omega)))))⟩
  by_cases h2 : n < 0
  case pos =>
    go_enter Try.func16, Try.ntmps16
    go_wp2_with fail
    go_enter Try.func38, Try.ntmps38
    go_wp2_with fail
    refine (implBucketOk r b t a _ h1 _).mono ?_
    rintro e w1 ⟨rfl, rfl⟩
    go_wp2
    exact bodyPost_ret (v := .tuple #[.agg #[.int .i64 (r), .int .i64 (b), .int .i64 (t), .int .i64 (a)], .bool false]) (by simp [results, Try.results16, go_sem]) rfl ⟨rfl, by (repeat (first | with_reducible assumption | with_reducible exact Below.refl _ _ | with_reducible refine Below.drew ?_ | with_reducible refine bdrewN ?_ _ | (with_reducible refine Below.alloc ?_ ?side _; case side => (first | omega | (simp [go_sem]; done) | (simp [go_sem]; omega))) | (with_reducible refine Below.setCell ?_ ?side _; case side => (first | omega | (simp [go_sem]; done) | (simp [go_sem]; omega)))))⟩
  have h3 : t < n := by
    simp only [spendOk, h1, Bool.true_and, Bool.and_eq_false_iff, decide_eq_false_iff_not] at h
    omega
  clear h
  go_enter Try.func16, Try.ntmps16
  go_wp2_with fail
  go_enter Try.func38, Try.ntmps38
  go_wp2_with fail
  refine (implBucketOk r b t a _ h1 _).mono ?_
  rintro e w1 ⟨rfl, rfl⟩
  go_wp2
  exact bodyPost_ret (v := .tuple #[.agg #[.int .i64 (r), .int .i64 (b), .int .i64 (t), .int .i64 (a)], .bool false]) (by simp [results, Try.results16, go_sem]) rfl ⟨rfl, by (repeat (first | with_reducible assumption | with_reducible exact Below.refl _ _ | with_reducible refine Below.drew ?_ | with_reducible refine bdrewN ?_ _ | (with_reducible refine Below.alloc ?_ ?side _; case side => (first | omega | (simp [go_sem]; done) | (simp [go_sem]; omega))) | (with_reducible refine Below.setCell ?_ ?side _; case side => (first | omega | (simp [go_sem]; done) | (simp [go_sem]; omega)))))⟩
theorem implSpend_yes (r b t a n : Int) (w : World) (h : spendOk r b t a n = true) :
    Calls Try.prog 16 #[.agg #[.int .i64 (r), .int .i64 (b), .int .i64 (t), .int .i64 (a)], .int .i64 n] w fun e w' => e = .returned (.tuple #[.agg #[.int .i64 (r), .int .i64 (b), .int .i64 (t - n), .int .i64 (a)], .bool true]) ∧ Below w.heap.size w w' := by
  simp only [spendOk, Bool.and_eq_true, decide_eq_true_eq] at h
  obtain ⟨h1, h2, h3⟩ := h
  obtain ⟨h4, h5⟩ := bok_in h1
  go_enter Try.func16, Try.ntmps16
  go_wp2_with fail
  go_enter Try.func38, Try.ntmps38
  go_wp2_with fail
  refine (implBucketOk r b t a _ h1 _).mono ?_
  rintro e w1 ⟨rfl, rfl⟩
  go_wp2
  exact bodyPost_ret (v := .tuple #[.agg #[.int .i64 (r), .int .i64 (b), .int .i64 (t - n), .int .i64 (a)], .bool true]) (by simp [results, Try.results16, go_sem]) rfl ⟨rfl, by (repeat (first | with_reducible assumption | with_reducible exact Below.refl _ _ | with_reducible refine Below.drew ?_ | with_reducible refine bdrewN ?_ _ | (with_reducible refine Below.alloc ?_ ?side _; case side => (first | omega | (simp [go_sem]; done) | (simp [go_sem]; omega))) | (with_reducible refine Below.setCell ?_ ?side _; case side => (first | omega | (simp [go_sem]; done) | (simp [go_sem]; omega)))))⟩

end Go.Proofs.Ytchinpgjaddnkaa
