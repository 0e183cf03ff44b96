/-
  Whether a rule is right, with those in it, of the program.
-/
import Derived.Test.YtlhjhnjpmafceaaPk0
import Derived.Shelf.Abstract
namespace Go.Proofs.Ytlhjhnjpmafceaa
open Go.ChangeShapes Go.WideShapes Go.ChangeAt Go.RowKit
set_option linter.unusedVariables false
set_option maxRecDepth 100000

def okTo : Nat → PolD → Bool
  | 0, _ => false
  | n + 1, x => oneB (basD x) && x.l.all (okTo n)
theorem all_take {α : Type} {p : α → Bool} {l : List α} {k : Nat} (hk : k < l.length) (h : p l[k] = false) : l.all p = false := by
  rw [List.all_eq_false]
  exact ⟨l[k], List.getElem_mem hk, by rw [h]; simp⟩
theorem all_upto {α : Type} {p : α → Bool} {l : List α} (h : ∀ j (hj : j < l.length), j < l.length → p l[j] = true) : l.all p = true := by
  rw [List.all_eq_true]
  intro y hy
  obtain ⟨j, hj, rfl⟩ := List.mem_iff_getElem.1 hy
  exact h j hj hj
set_option maxHeartbeats 2000000 in
theorem implRule (b : BasD) (hr : 0 ≤ b.rules) (hy : b.key.size ≤ maxLen) (ht : b.text.size ≤ maxLen) : ∃ (T : TypeId) (V : Value) (f : Nat) (V' : Value),
    (∀ w, Calls Try.prog 54 #[.agg (basC b).toArray] w fun e w' => e = .returned (.iface T V) ∧ Below w.heap.size w w') ∧
    (∀ w, Sem.run Try.prog (method 250 T V "loop.example/g00488/impl.right") w = .ok (f, V') w) ∧
    (∀ w, Calls Try.prog f #[V'] w fun e w' => e = .returned (.bool (oneB b)) ∧ Below w.heap.size w w') ∧
    (∀ args w, (callFunc f args).run Try.prog w = .ok (.enter f args) w) := by
  obtain ⟨k, n, y, t, r⟩ := b
  unfold basC
  dsimp only at hr hy ht ⊢
  by_cases k1 : k = 1
  · subst k1
    refine ⟨114, .agg #[.int .i64 1, .int .i64 n, .string y, .string t, .int .i64 r], 102, .agg #[.int .i64 1, .int .i64 n, .string y, .string t, .int .i64 r], fun w => ?_, fun w => by kernel_rfl, fun w => ?_, enters_of Try.func102 (by kernel_rfl) rfl⟩
    · have hbx := bnew w (.cells #[.int .i64 1, .int .i64 n, .string y, .string t, .int .i64 r] 57)
      go_enter Try.func54, Try.ntmps54
      go_wp2
      go_ret
      exact ⟨rfl, by (repeat (first | with_reducible assumption | with_reducible exact Below.refl _ _ | with_reducible refine Below.drew ?_ | with_reducible refine bdrewN ?_ _ | (with_reducible refine Below.alloc ?_ ?side _; case side => (first | omega | (simp [go_sem]; done) | (simp [go_sem]; omega))) | (with_reducible refine Below.setCell ?_ ?side _; case side => (first | omega | (simp [go_sem]; done) | (simp [go_sem]; omega)))))⟩
    · exact implBare 1 n y t r w
  by_cases k2 : k = 2
  · subst k2
    refine ⟨114, .agg #[.int .i64 2, .int .i64 n, .string y, .string t, .int .i64 r], 102, .agg #[.int .i64 2, .int .i64 n, .string y, .string t, .int .i64 r], fun w => ?_, fun w => by kernel_rfl, fun w => ?_, enters_of Try.func102 (by kernel_rfl) rfl⟩
    · have hbx := bnew w (.cells #[.int .i64 2, .int .i64 n, .string y, .string t, .int .i64 r] 57)
      go_enter Try.func54, Try.ntmps54
      go_wp2
      go_ret
      exact ⟨rfl, by (repeat (first | with_reducible assumption | with_reducible exact Below.refl _ _ | with_reducible refine Below.drew ?_ | with_reducible refine bdrewN ?_ _ | (with_reducible refine Below.alloc ?_ ?side _; case side => (first | omega | (simp [go_sem]; done) | (simp [go_sem]; omega))) | (with_reducible refine Below.setCell ?_ ?side _; case side => (first | omega | (simp [go_sem]; done) | (simp [go_sem]; omega)))))⟩
    · exact implBare 2 n y t r w
  by_cases k6 : k = 6
  · subst k6
    refine ⟨114, .agg #[.int .i64 6, .int .i64 n, .string y, .string t, .int .i64 r], 102, .agg #[.int .i64 6, .int .i64 n, .string y, .string t, .int .i64 r], fun w => ?_, fun w => by kernel_rfl, fun w => ?_, enters_of Try.func102 (by kernel_rfl) rfl⟩
    · have hbx := bnew w (.cells #[.int .i64 6, .int .i64 n, .string y, .string t, .int .i64 r] 57)
      go_enter Try.func54, Try.ntmps54
      go_wp2
      go_ret
      exact ⟨rfl, by (repeat (first | with_reducible assumption | with_reducible exact Below.refl _ _ | with_reducible refine Below.drew ?_ | with_reducible refine bdrewN ?_ _ | (with_reducible refine Below.alloc ?_ ?side _; case side => (first | omega | (simp [go_sem]; done) | (simp [go_sem]; omega))) | (with_reducible refine Below.setCell ?_ ?side _; case side => (first | omega | (simp [go_sem]; done) | (simp [go_sem]; omega)))))⟩
    · exact implBare 6 n y t r w
  by_cases k3 : k = 3
  · subst k3
    refine ⟨115, .agg #[.int .i64 3, .int .i64 n, .string y, .string t, .int .i64 r], 107, .agg #[.int .i64 3, .int .i64 n, .string y, .string t, .int .i64 r], fun w => ?_, fun w => by kernel_rfl, fun w => ?_, enters_of Try.func107 (by kernel_rfl) rfl⟩
    · have hbx := bnew w (.cells #[.int .i64 3, .int .i64 n, .string y, .string t, .int .i64 r] 57)
      go_enter Try.func54, Try.ntmps54
      go_wp2
      go_ret
      exact ⟨rfl, by (repeat (first | with_reducible assumption | with_reducible exact Below.refl _ _ | with_reducible refine Below.drew ?_ | with_reducible refine bdrewN ?_ _ | (with_reducible refine Below.alloc ?_ ?side _; case side => (first | omega | (simp [go_sem]; done) | (simp [go_sem]; omega))) | (with_reducible refine Below.setCell ?_ ?side _; case side => (first | omega | (simp [go_sem]; done) | (simp [go_sem]; omega)))))⟩
    · exact implLong 3 n y t r w
  by_cases k4 : k = 4
  · subst k4
    refine ⟨116, .agg #[.int .i64 4, .int .i64 n, .string y, .string t, .int .i64 r], 110, .agg #[.int .i64 4, .int .i64 n, .string y, .string t, .int .i64 r], fun w => ?_, fun w => by kernel_rfl, fun w => ?_, enters_of Try.func110 (by kernel_rfl) rfl⟩
    · have hbx := bnew w (.cells #[.int .i64 4, .int .i64 n, .string y, .string t, .int .i64 r] 57)
      go_enter Try.func54, Try.ntmps54
      go_wp2
      go_ret
      exact ⟨rfl, by (repeat (first | with_reducible assumption | with_reducible exact Below.refl _ _ | with_reducible refine Below.drew ?_ | with_reducible refine bdrewN ?_ _ | (with_reducible refine Below.alloc ?_ ?side _; case side => (first | omega | (simp [go_sem]; done) | (simp [go_sem]; omega))) | (with_reducible refine Below.setCell ?_ ?side _; case side => (first | omega | (simp [go_sem]; done) | (simp [go_sem]; omega)))))⟩
    · exact implText 4 n y t r hy ht w
  by_cases k5 : k = 5
  · subst k5
    refine ⟨117, .agg #[.int .i64 5, .int .i64 n, .string y, .string t, .int .i64 r], 114, .agg #[.int .i64 5, .int .i64 n, .string y, .string t, .int .i64 r], fun w => ?_, fun w => by kernel_rfl, fun w => ?_, enters_of Try.func114 (by kernel_rfl) rfl⟩
    · have hbx := bnew w (.cells #[.int .i64 5, .int .i64 n, .string y, .string t, .int .i64 r] 57)
      go_enter Try.func54, Try.ntmps54
      go_wp2
      go_ret
      exact ⟨rfl, by (repeat (first | with_reducible assumption | with_reducible exact Below.refl _ _ | with_reducible refine Below.drew ?_ | with_reducible refine bdrewN ?_ _ | (with_reducible refine Below.alloc ?_ ?side _; case side => (first | omega | (simp [go_sem]; done) | (simp [go_sem]; omega))) | (with_reducible refine Below.setCell ?_ ?side _; case side => (first | omega | (simp [go_sem]; done) | (simp [go_sem]; omega)))))⟩
    · exact implNum 5 n y t r hy ht w
  by_cases k7 : k = 7
  · subst k7
    refine ⟨119, .agg #[.int .i64 7, .int .i64 n, .string y, .string t, .int .i64 r, .int .i64 4], 116, .agg #[.int .i64 7, .int .i64 n, .string y, .string t, .int .i64 r, .int .i64 4], fun w => ?_, fun w => by kernel_rfl, fun w => ?_, enters_of Try.func116 (by kernel_rfl) rfl⟩
    · have hbx := bnew w (.cells #[.int .i64 7, .int .i64 n, .string y, .string t, .int .i64 r] 57)
      go_enter Try.func54, Try.ntmps54
      go_wp2
      go_ret
      exact ⟨rfl, by (repeat (first | with_reducible assumption | with_reducible exact Below.refl _ _ | with_reducible refine Below.drew ?_ | with_reducible refine bdrewN ?_ _ | (with_reducible refine Below.alloc ?_ ?side _; case side => (first | omega | (simp [go_sem]; done) | (simp [go_sem]; omega))) | (with_reducible refine Below.setCell ?_ ?side _; case side => (first | omega | (simp [go_sem]; done) | (simp [go_sem]; omega)))))⟩
    · exact implJoin 7 n y t r 4 hr w
  by_cases k8 : k = 8
  · subst k8
    refine ⟨119, .agg #[.int .i64 8, .int .i64 n, .string y, .string t, .int .i64 r, .int .i64 4], 116, .agg #[.int .i64 8, .int .i64 n, .string y, .string t, .int .i64 r, .int .i64 4], fun w => ?_, fun w => by kernel_rfl, fun w => ?_, enters_of Try.func116 (by kernel_rfl) rfl⟩
    · have hbx := bnew w (.cells #[.int .i64 8, .int .i64 n, .string y, .string t, .int .i64 r] 57)
      go_enter Try.func54, Try.ntmps54
      go_wp2
      go_ret
      exact ⟨rfl, by (repeat (first | with_reducible assumption | with_reducible exact Below.refl _ _ | with_reducible refine Below.drew ?_ | with_reducible refine bdrewN ?_ _ | (with_reducible refine Below.alloc ?_ ?side _; case side => (first | omega | (simp [go_sem]; done) | (simp [go_sem]; omega))) | (with_reducible refine Below.setCell ?_ ?side _; case side => (first | omega | (simp [go_sem]; done) | (simp [go_sem]; omega)))))⟩
    · exact implJoin 8 n y t r 4 hr w
  by_cases k9 : k = 9
  · subst k9
    refine ⟨119, .agg #[.int .i64 9, .int .i64 n, .string y, .string t, .int .i64 r, .int .i64 1], 116, .agg #[.int .i64 9, .int .i64 n, .string y, .string t, .int .i64 r, .int .i64 1], fun w => ?_, fun w => by kernel_rfl, fun w => ?_, enters_of Try.func116 (by kernel_rfl) rfl⟩
    · have hbx := bnew w (.cells #[.int .i64 9, .int .i64 n, .string y, .string t, .int .i64 r] 57)
      go_enter Try.func54, Try.ntmps54
      go_wp2
      go_ret
      exact ⟨rfl, by (repeat (first | with_reducible assumption | with_reducible exact Below.refl _ _ | with_reducible refine Below.drew ?_ | with_reducible refine bdrewN ?_ _ | (with_reducible refine Below.alloc ?_ ?side _; case side => (first | omega | (simp [go_sem]; done) | (simp [go_sem]; omega))) | (with_reducible refine Below.setCell ?_ ?side _; case side => (first | omega | (simp [go_sem]; done) | (simp [go_sem]; omega)))))⟩
    · exact implJoin 9 n y t r 1 hr w
  refine ⟨120, .agg #[.int .i64 k, .int .i64 n, .string y, .string t, .int .i64 r], 118, .agg #[.int .i64 k, .int .i64 n, .string y, .string t, .int .i64 r], fun w => ?_, fun w => by kernel_rfl, fun w => ?_, enters_of Try.func118 (by kernel_rfl) rfl⟩
  · have hbx := bnew w (.cells #[.int .i64 k, .int .i64 n, .string y, .string t, .int .i64 r] 57)
    go_enter Try.func54, Try.ntmps54
    go_wp2
    go_ret
    exact ⟨rfl, by (repeat (first | with_reducible assumption | with_reducible exact Below.refl _ _ | with_reducible refine Below.drew ?_ | with_reducible refine bdrewN ?_ _ | (with_reducible refine Below.alloc ?_ ?side _; case side => (first | omega | (simp [go_sem]; done) | (simp [go_sem]; omega))) | (with_reducible refine Below.setCell ?_ ?side _; case side => (first | omega | (simp [go_sem]; done) | (simp [go_sem]; omega)))))⟩
  · have e : oneB ⟨k, n, y, t, r⟩ = false := by unfold oneB; simp [k1, k2, k3, k4, k5, k6, k7, k8, k9]
    rw [e]
    exact implNoR k n y t r w
end Go.Proofs.Ytlhjhnjpmafceaa
