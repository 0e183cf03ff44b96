/-
  Balanced of the program and of the specification.
-/
import Derived.Test.YtigkhilgnaecjaaACount
import Derived.Test.YtigkhilgnaecjaaSum1
import Derived.Test.YtigkhilgnaecjaaAbs2
namespace Go.Proofs.Ytigkhilgnaecjaa
open Go.ChangeShapes Go.WideShapes Go.ChangeAt Go.RowKit
set_option linter.unusedVariables false
set_option maxRecDepth 100000

theorem wrap_add (x y : Int) : wrap64 (wrap64 x + y) = wrap64 (x + y) := by unfold wrap64; omega
def balB (x : CountD) : Bool := x.came == wrap64 (x.went + x.moving + x.held + x.dropped)
theorem bal_spec (x : CountD) : balB x = (x.came == wrap64 (wrap64 (wrap64 (x.went + x.moving) + x.held) + x.dropped)) := by
  unfold balB; rw [wrap_add, Int.add_assoc (wrap64 _), wrap_add]; simp only [Int.add_assoc]
theorem bal_impl (x : CountD) : balB x = (x.came == [x.went, x.moving, x.held, x.dropped].foldl addI 0) := by
  unfold balB; simp only [List.foldl, addI, wrap_add]; simp only [Int.zero_add]
theorem specBalanced (x : CountD) (S0 : Nat → Prop) (c0 : List Value) (w : World) (h0 : countR w S0 c0 x) (b0 : countBulk x ≤ 1048576) :
    Calls Try.prog 28 #[.agg c0.toArray] w fun e w' => e = .returned (.bool (balB x)) ∧ Below w.heap.size w w' := by
  have P0 := Held.new w c0 43
  have B0 := bnew w (.cells c0.toArray 43)
  have HR := hide h0
  clear h0
  go_enter Try.func28, Try.ntmps28
  go_upto_region 1 with fail
  generalize World.alloc w _ = w0 at *
  have p0 := P0.2 0 _ (countR_c0 (unhide HR))
  have p1 := P0.2 1 _ (countR_c1 (unhide HR))
  have p2 := P0.2 2 _ (countR_c2 (unhide HR))
  have p3 := P0.2 3 _ (countR_c3 (unhide HR))
  have p4 := P0.2 4 _ (countR_c4 (unhide HR))
  go_wp2
  go_ret
  exact ⟨ret_bool (bal_spec x).symm, B0⟩
set_option maxHeartbeats 2000000 in
theorem implBalanced (x : CountD) (S0 : Nat → Prop) (c0 : List Value) (w : World) (h0 : countR w S0 c0 x) (b0 : countBulk x ≤ 1048576) :
    Calls Try.prog 30 #[.agg c0.toArray] w fun e w' => e = .returned (.bool (balB x)) ∧ Below w.heap.size w w' := by
  have P0 := (Held.new w c0 43).keep (bnew _ (.cells #[.int .i64 0] 72))
  have B1 := bnew w (.cells c0.toArray 43)
  have B0 := bthen B1 (bnew _ (.cells #[.int .i64 0] 72))
  have HI : Hid (AtI (w.heap.size + 1) (w.heap.size + 1) ((w.alloc (.cells c0.toArray 43)).alloc (.cells #[.int .i64 0] 72)) 0) := hide ⟨Nat.le_refl _, by simp, by simp [go_sem], by simp [go_sem]⟩
  have HR := hide h0
  clear h0 B1
  go_enter Try.func30, Try.ntmps30
  go_upto_region 2 with fail
  generalize hW : World.alloc (World.alloc w _) _ = w0 at *
  have hsz : w.heap.size + 2 ≤ w0.heap.size := by rw [← hW]; simp
  clear hW
  have p1 := P0.2 1 _ (countR_c1 (unhide HR))
  have p2 := P0.2 2 _ (countR_c2 (unhide HR))
  have p3 := P0.2 3 _ (countR_c3 (unhide HR))
  have p4 := P0.2 4 _ (countR_c4 (unhide HR))
  have hbn := bnew w0 (.cells (cellsZ [x.went, x.moving, x.held, x.dropped]).toArray 3)
  have hPn := Held.new w0 (cellsZ [x.went, x.moving, x.held, x.dropped]) 3
  go_wp2_with fail
  refine (sumAdd (w.heap.size + 1) (w.heap.size + 1) w0.heap.size _ [x.went, x.moving, x.held, x.dropped] 4 _ ((unhide HI).keep hbn) (by simp) (by omega) hPn.inB (by simp)).mono ?_
  rintro e w1 ⟨rfl, hi1, ht1⟩
  have Q0 := (P0.keep hbn).turn ht1 (by omega)
  have B1 := (bthen B0 hbn).trans (ht1.belowFrom (B := w.heap.size) (by simp; omega) (fun k hk => by subst hk; omega))
  have p0 := Q0.2 0 _ (countR_c0 (unhide HR))
  have c1 := hi1.2.2.1
  have HI1 := hide hi1
  clear hi1 p1 p2 p3 p4 hPn hbn ht1 Q0
  generalize hF : [x.went, x.moving, x.held, x.dropped].foldl addI 0 = F at *
  have HF := hide hF
  clear hF
  go_wp2
  go_ret
  exact ⟨ret_bool (by rw [bal_impl, unhide HF]), B1⟩
end Go.Proofs.Ytigkhilgnaecjaa
