/-
  Contracts of chapter 2's functions of one Attr, of the program and of the specification, and of the law's own sizes, copies and comparisons.
-/
import Derived.Test.YtjhlammjnggghaaStr1
import Derived.BigQuiet
import Derived.Deep.QuietTactic
import Derived.Deep.RegionWith
namespace Go.Proofs.Ytjhlammjnggghaa
open Go.ChangeShapes Go.WideShapes Go.ChangeAt Go.RowKit
set_option linter.unusedVariables false
set_option maxRecDepth 100000

def attrB (k : ByteArray) (b : Bool) (n : Int) (t : ByteArray) : Bool := nameB k && (if b then inB n 0 2147483647 && t.toList.isEmpty else decide (n = 0) && plainB t)
theorem beq_eq_dec (n : Int) : (n == 0) = decide (n = 0) := by by_cases h : n = 0 <;> simp [h]
def szv (left : Int) (k t : ByteArray) : Int := if left < k.size then -1 else if left - k.size < t.size then -1 else left - k.size - t.size

theorem lawSzAttr (k : ByteArray) (b : Bool) (n : Int) (t : ByteArray) (left : Int) (w : World) (h0 : 0 ≤ left) (h1 : left ≤ 1048576) (hk : k.size ≤ maxLen) (ht : t.size ≤ maxLen) :
    Calls Try.prog 175 #[.agg #[.string k, .bool b, .int .i64 n, .string t], .int .i64 left] w fun e w' => e = .returned (.int .i64 (szv left k t)) ∧ w' = w.alloc (.cells #[.string k, .bool b, .int .i64 n, .string t] 203) := by
  unfold maxLen at hk ht
  unfold szv
  by_cases h2 : left < k.size
  case pos =>
    rw [if_pos h2]
    go_enter Try.func175, Try.ntmps175
    go_wp2
    go_ret
    exact ⟨rfl, rfl⟩
  rw [if_neg h2]
  by_cases h3 : left - k.size < t.size
  case pos =>
    rw [if_pos h3]
    go_enter Try.func175, Try.ntmps175
    go_wp2
    go_ret
    exact ⟨rfl, rfl⟩
  rw [if_neg h3]
  go_enter Try.func175, Try.ntmps175
  go_wp2
  go_ret
  exact ⟨rfl, rfl⟩

theorem lawToAttr (k : ByteArray) (b : Bool) (n : Int) (t : ByteArray) (w : World) :
    Calls Try.prog 176 #[.agg #[.string k, .bool b, .int .i64 n, .string t]] w fun e w' => e = .returned (.agg #[.string k, .bool b, .int .i64 n, .string t]) ∧ w' = ((w.alloc (.cells #[.string k, .bool b, .int .i64 n, .string t] 203)).alloc (.cells #[.string k, .bool b, .int .i64 n, .string t] 180)).alloc (.cells #[.string k, .bool b, .int .i64 n, .string t] 180) := by
  go_enter Try.func176, Try.ntmps176
  go_wp2
  exact bodyPost_ret (v := .agg #[.string k, .bool b, .int .i64 n, .string t]) (by simp [results, Try.results176, go_sem]) rfl ⟨rfl, rfl⟩
theorem lawToAttr' (k : ByteArray) (b : Bool) (n : Int) (t : ByteArray) (w : World) :
    Calls Try.prog 176 #[.agg #[.string k, .bool b, .int .i64 n, .string t]] w fun e w' => e = .returned (.agg #[.string k, .bool b, .int .i64 n, .string t]) ∧ Below w.heap.size w w' :=
  (lawToAttr k b n t w).mono fun e w' ⟨h, hw⟩ => ⟨h, by rw [hw]; (repeat (first | with_reducible assumption | with_reducible exact Below.refl _ _ | with_reducible refine Below.drew ?_ | with_reducible refine bdrewN ?_ _ | (with_reducible refine Below.alloc ?_ ?side _; case side => (first | omega | (simp [go_sem]; done) | (simp [go_sem]; omega))) | (with_reducible refine Below.setCell ?_ ?side _; case side => (first | omega | (simp [go_sem]; done) | (simp [go_sem]; omega)))))⟩

theorem specAttrOk (k : ByteArray) (b : Bool) (n : Int) (t : ByteArray) (w : World) (hk : k.size ≤ maxLen) (ht : t.size ≤ maxLen) :
    Calls Try.prog 236 #[.agg #[.string k, .bool b, .int .i64 n, .string t]] w fun e w' => e = .returned (.bool (attrB k b n t)) ∧ w' = w.alloc (.cells #[.string k, .bool b, .int .i64 n, .string t] 180) := by
  cases h1 : nameB k
  case false =>
    go_enter Try.func236, Try.ntmps236
    go_wp2_with fail
    refine (specNameOk k _ hk).mono ?_
    rintro e w1 ⟨rfl, rfl⟩
    rw [h1]
    go_wp2
    go_ret
    exact ⟨ret_bool (by simp [attrB, *]), rfl⟩
  cases b
  case true =>
    cases h2 : inB n 0 2147483647
    case false =>
      go_enter Try.func236, Try.ntmps236
      go_wp2_with fail
      refine (specNameOk k _ hk).mono ?_
      rintro e w1 ⟨rfl, rfl⟩
      rw [h1]
      go_wp2_with fail
      refine (specIn n 0 2147483647 _ h2 _).mono ?_
      rintro e w1 ⟨rfl, rfl⟩
      go_wp2
      go_ret
      exact ⟨ret_bool (by simp [attrB, *]), rfl⟩
    go_enter Try.func236, Try.ntmps236
    go_wp2_with fail
    refine (specNameOk k _ hk).mono ?_
    rintro e w1 ⟨rfl, rfl⟩
    rw [h1]
    go_wp2_with fail
    refine (specIn n 0 2147483647 _ h2 _).mono ?_
    rintro e w1 ⟨rfl, rfl⟩
    go_wp2
    go_ret
    exact ⟨ret_bool (by simp [attrB, *]), rfl⟩
  by_cases h3 : n = 0
  case neg =>
    go_enter Try.func236, Try.ntmps236
    go_wp2_with fail
    refine (specNameOk k _ hk).mono ?_
    rintro e w1 ⟨rfl, rfl⟩
    rw [h1]
    go_wp2
    go_ret
    exact ⟨ret_bool (by simp [attrB, *]), rfl⟩
  subst h3
  go_enter Try.func236, Try.ntmps236
  go_wp2_with fail
  refine (specNameOk k _ hk).mono ?_
  rintro e w1 ⟨rfl, rfl⟩
  rw [h1]
  go_wp2_with fail
  refine (specPlainOk t _ ht).mono ?_
  rintro e w1 ⟨rfl, rfl⟩
  go_wp2
  go_ret
  exact ⟨ret_bool (by simp [attrB, *]), rfl⟩

theorem implSaidBy (k : ByteArray) (b : Bool) (n : Int) (t : ByteArray) (w : World) :
    Calls Try.prog 255 #[.agg #[.string k, .bool b, .int .i64 n, .string t]] w fun e w' => e = .returned (if b then .iface 287 (.agg #[.int .i64 n, .string t]) else .iface 289 (.agg #[.string t, .int .i64 n])) ∧ w' = w.alloc (.cells #[.string k, .bool b, .int .i64 n, .string t] 180) := by
  cases b
  · go_enter Try.func255, Try.ntmps255
    go_wp2
    go_ret
    exact ⟨rfl, rfl⟩
  · go_enter Try.func255, Try.ntmps255
    go_wp2
    go_ret
    exact ⟨rfl, rfl⟩

theorem implRightN (n : Int) (t : ByteArray) (w : World) :
    Calls Try.prog 302 #[.agg #[.int .i64 n, .string t]] w fun e w' => e = .returned (.bool (inB n 0 2147483647 && t.toList.isEmpty)) ∧ Below w.heap.size w w' := by
  cases h2 : inB n 0 2147483647
  · go_enter Try.func302, Try.ntmps302
    go_wp2_with (go_at_call 304; refine (implAmountOk _ _ (by assumption) _).mono ?_; rintro e w' ⟨rfl, rfl⟩)
    go_ret
    exact ⟨rfl, by (repeat (first | with_reducible assumption | with_reducible exact Below.refl _ _ | with_reducible refine Below.drew ?_ | with_reducible refine bdrewN ?_ _ | (with_reducible refine Below.alloc ?_ ?side _; case side => (first | omega | (simp [go_sem]; done) | (simp [go_sem]; omega))) | (with_reducible refine Below.setCell ?_ ?side _; case side => (first | omega | (simp [go_sem]; done) | (simp [go_sem]; omega)))))⟩
  · go_enter Try.func302, Try.ntmps302
    go_wp2_with (go_at_call 304; refine (implAmountOk _ _ (by assumption) _).mono ?_; rintro e w' ⟨rfl, rfl⟩)
    go_ret
    exact ⟨ret_bool (by simp), by (repeat (first | with_reducible assumption | with_reducible exact Below.refl _ _ | with_reducible refine Below.drew ?_ | with_reducible refine bdrewN ?_ _ | (with_reducible refine Below.alloc ?_ ?side _; case side => (first | omega | (simp [go_sem]; done) | (simp [go_sem]; omega))) | (with_reducible refine Below.setCell ?_ ?side _; case side => (first | omega | (simp [go_sem]; done) | (simp [go_sem]; omega)))))⟩

theorem implRightT (n : Int) (t : ByteArray) (w : World) (ht : t.size ≤ maxLen) :
    Calls Try.prog 305 #[.agg #[.string t, .int .i64 n]] w fun e w' => e = .returned (.bool (decide (n = 0) && plainB t)) ∧ Below w.heap.size w w' := by
  cases h2 : plainB t
  · go_enter Try.func305, Try.ntmps305
    go_wp2_with fail
    refine (implPlainOk t _ ht).mono ?_
    rintro e w1 ⟨rfl, hb⟩
    rw [h2]
    go_wp2
    go_ret
    exact ⟨ret_bool (by simp), bthen (bnew _ _) hb⟩
  · go_enter Try.func305, Try.ntmps305
    go_wp2_with fail
    refine (implPlainOk t _ ht).mono ?_
    rintro e w1 ⟨rfl, hb⟩
    rw [h2]
    have c1 : w1.cell? ⟨w.heap.size, 1, none⟩ = some (.int .i64 n) := by rw [hb.cell (by simp [go_sem])]; simp [go_sem]
    go_wp2
    go_ret
    exact ⟨ret_bool (by rw [Bool.and_true]; exact beq_eq_dec n), bthen (bnew _ _) hb⟩

theorem implAttrOk (k : ByteArray) (b : Bool) (n : Int) (t : ByteArray) (w : World) (hk : k.size ≤ maxLen) (ht : t.size ≤ maxLen) :
    Calls Try.prog 233 #[.agg #[.string k, .bool b, .int .i64 n, .string t]] w fun e w' => e = .returned (.bool (attrB k b n t)) ∧ Below w.heap.size w w' := by
  cases h1 : nameB k
  · go_enter Try.func233, Try.ntmps233
    go_wp2_with fail
    refine (implNameOk k _ hk).mono ?_
    rintro e w1 ⟨rfl, hb⟩
    rw [h1]
    go_wp2
    go_ret
    exact ⟨ret_bool (by simp [attrB, *]), bthen (bnew _ _) hb⟩
  · cases b
    · go_enter Try.func233, Try.ntmps233
      go_wp2_with fail
      refine (implNameOk k _ hk).mono ?_
      rintro e w1 ⟨rfl, hb⟩
      rw [h1]
      have c0 : w1.cell? ⟨w.heap.size, 0, none⟩ = some (.string k) := by rw [hb.cell (by simp [go_sem])]; simp [go_sem]
      have c1 : w1.cell? ⟨w.heap.size, 1, none⟩ = some (.bool false) := by rw [hb.cell (by simp [go_sem])]; simp [go_sem]
      have c2 : w1.cell? ⟨w.heap.size, 2, none⟩ = some (.int .i64 n) := by rw [hb.cell (by simp [go_sem])]; simp [go_sem]
      have c3 : w1.cell? ⟨w.heap.size, 3, none⟩ = some (.string t) := by rw [hb.cell (by simp [go_sem])]; simp [go_sem]
      go_wp2_with fail
      refine (implSaidBy k false n t _).mono ?_
      rintro e w2 ⟨rfl, rfl⟩
      simp only [Bool.false_eq_true, if_false]
      go_wp2_with fail
      refine (implRightT n t _ ht).mono ?_
      rintro e w2 ⟨rfl, hb2⟩
      go_wp2
      go_ret
      exact ⟨ret_bool (by simp [attrB, *]), bthen (bthen (bthen (bnew _ _) hb) (bnew _ _)) hb2⟩
    · go_enter Try.func233, Try.ntmps233
      go_wp2_with fail
      refine (implNameOk k _ hk).mono ?_
      rintro e w1 ⟨rfl, hb⟩
      rw [h1]
      have c0 : w1.cell? ⟨w.heap.size, 0, none⟩ = some (.string k) := by rw [hb.cell (by simp [go_sem])]; simp [go_sem]
      have c1 : w1.cell? ⟨w.heap.size, 1, none⟩ = some (.bool true) := by rw [hb.cell (by simp [go_sem])]; simp [go_sem]
      have c2 : w1.cell? ⟨w.heap.size, 2, none⟩ = some (.int .i64 n) := by rw [hb.cell (by simp [go_sem])]; simp [go_sem]
      have c3 : w1.cell? ⟨w.heap.size, 3, none⟩ = some (.string t) := by rw [hb.cell (by simp [go_sem])]; simp [go_sem]
      go_wp2_with fail
      refine (implSaidBy k true n t _).mono ?_
      rintro e w2 ⟨rfl, rfl⟩
      simp only [if_true]
      go_wp2_with fail
      refine (implRightN n t _).mono ?_
      rintro e w2 ⟨rfl, hb2⟩
      go_wp2
      go_ret
      exact ⟨ret_bool (by simp [attrB, *]), bthen (bthen (bthen (bnew _ _) hb) (bnew _ _)) hb2⟩

end Go.Proofs.Ytjhlammjnggghaa
