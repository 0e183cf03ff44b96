/-
  Contracts of chapter 2's AttrSize, of the program and of the specification.
-/
import Derived.Test.YtjhlammjnggghaaAttr
namespace Go.Proofs.Ytjhlammjnggghaa
open Go.ChangeShapes Go.WideShapes Go.ChangeAt Go.RowKit
set_option linter.unusedVariables false
set_option maxRecDepth 100000

def asize (k : ByteArray) (b : Bool) (t : ByteArray) : Int := if b then k.size + 4 else k.size + t.size
theorem specAttrSize (k : ByteArray) (b : Bool) (n : Int) (t : ByteArray) (w : World) (hk : k.size ≤ 1048576) (ht : t.size ≤ 1048576) :
    Calls Try.prog 237 #[.agg #[.string k, .bool b, .int .i64 n, .string t]] w fun e w' => e = .returned (.int .i64 (asize k b t)) ∧ Below w.heap.size w w' := by
  cases b
  · go_enter Try.func237, Try.ntmps237
    go_wp2
    go_ret
    exact ⟨ret_int (by simp [asize]), by (repeat (first | with_reducible assumption | with_reducible exact Below.refl _ _ | with_reducible refine Below.drew ?_ | with_reducible refine bdrewN ?_ _ | (with_reducible refine Below.alloc ?_ ?side _; case side => (first | omega | (simp [go_sem]; done) | (simp [go_sem]; omega))) | (with_reducible refine Below.setCell ?_ ?side _; case side => (first | omega | (simp [go_sem]; done) | (simp [go_sem]; omega)))))⟩
  · go_enter Try.func237, Try.ntmps237
    go_wp2
    go_ret
    exact ⟨ret_int (by simp [asize]), by (repeat (first | with_reducible assumption | with_reducible exact Below.refl _ _ | with_reducible refine Below.drew ?_ | with_reducible refine bdrewN ?_ _ | (with_reducible refine Below.alloc ?_ ?side _; case side => (first | omega | (simp [go_sem]; done) | (simp [go_sem]; omega))) | (with_reducible refine Below.setCell ?_ ?side _; case side => (first | omega | (simp [go_sem]; done) | (simp [go_sem]; omega)))))⟩

theorem implSizeN (n : Int) (t : ByteArray) (w : World) :
    Calls Try.prog 303 #[.agg #[.int .i64 n, .string t]] w fun e w' => e = .returned (.int .i64 4) ∧ w' = w.alloc (.cells #[.int .i64 n, .string t] 287) := by
  go_enter Try.func303, Try.ntmps303
  go_wp2
  go_ret
  exact ⟨rfl, rfl⟩
theorem implSizeT (n : Int) (t : ByteArray) (w : World) :
    Calls Try.prog 306 #[.agg #[.string t, .int .i64 n]] w fun e w' => e = .returned (.int .i64 t.size) ∧ w' = w.alloc (.cells #[.string t, .int .i64 n] 289) := by
  go_enter Try.func306, Try.ntmps306
  go_wp2
  go_ret
  exact ⟨rfl, rfl⟩

set_option maxHeartbeats 2000000 in
theorem implAttrSize (k : ByteArray) (b : Bool) (n : Int) (t : ByteArray) (w : World) (hk : k.size ≤ 1048576) (ht : t.size ≤ 1048576) :
    Calls Try.prog 234 #[.agg #[.string k, .bool b, .int .i64 n, .string t]] w fun e w' => e = .returned (.int .i64 (asize k b t)) ∧ Below w.heap.size w w' := by
  have hm : ∀ w, Sem.run Try.prog (method 414 289 (.agg #[.string t, .int .i64 n]) "loop.example/g00488/impl.size") w = .ok (306, .agg #[.string t, .int .i64 n]) w := fun w => by kernel_rfl
  have hm2 : ∀ w, Sem.run Try.prog (method 414 287 (.agg #[.int .i64 n, .string t]) "loop.example/g00488/impl.size") w = .ok (303, .agg #[.int .i64 n, .string t]) w := fun w => by kernel_rfl
  cases b
  · go_enter Try.func234, Try.ntmps234
    go_wp2_with fail
    go_region_with (first | (go_at_call 255; refine (implSaidBy _ _ _ _ _).mono ?_; rintro e w' ⟨rfl, rfl⟩; simp only [Bool.false_eq_true, if_false]) | (go_at_call 306; refine (implSizeT _ _ _).mono ?_; rintro e w' ⟨rfl, rfl⟩))
    all_goals (go_wp2; go_ret; exact ⟨ret_int (by simp [asize]; rw [IntKind.wrap_i64]; omega), by (repeat (first | with_reducible assumption | with_reducible exact Below.refl _ _ | with_reducible refine Below.drew ?_ | with_reducible refine bdrewN ?_ _ | (with_reducible refine Below.alloc ?_ ?side _; case side => (first | omega | (simp [go_sem]; done) | (simp [go_sem]; omega))) | (with_reducible refine Below.setCell ?_ ?side _; case side => (first | omega | (simp [go_sem]; done) | (simp [go_sem]; omega)))))⟩)
  · go_enter Try.func234, Try.ntmps234
    go_wp2_with fail
    go_region_with (first | (go_at_call 255; refine (implSaidBy _ _ _ _ _).mono ?_; rintro e w' ⟨rfl, rfl⟩; simp only [if_true]) | (go_at_call 303; refine (implSizeN _ _ _).mono ?_; rintro e w' ⟨rfl, rfl⟩))
    all_goals (go_wp2; go_ret; exact ⟨ret_int (by simp [asize]; rw [IntKind.wrap_i64]; omega), by (repeat (first | with_reducible assumption | with_reducible exact Below.refl _ _ | with_reducible refine Below.drew ?_ | with_reducible refine bdrewN ?_ _ | (with_reducible refine Below.alloc ?_ ?side _; case side => (first | omega | (simp [go_sem]; done) | (simp [go_sem]; omega))) | (with_reducible refine Below.setCell ?_ ?side _; case side => (first | omega | (simp [go_sem]; done) | (simp [go_sem]; omega)))))⟩)

end Go.Proofs.Ytjhlammjnggghaa
