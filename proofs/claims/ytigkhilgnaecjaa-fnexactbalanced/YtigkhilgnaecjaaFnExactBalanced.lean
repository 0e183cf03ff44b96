/-
  Proved: at all arguments the program's Balanced answers as the specification's, and leaves what it is given alone; no condition.
-/
import Derived.Test.YtigkhilgnaecjaaRows
import Derived.Test.YtigkhilgnaecjaaBal
import Derived.Test.YtigkhilgnaecjaaOCount
import Derived.Test.YtigkhilgnaecjaaArgs
import Derived.WalkKit
import Derived.ProofKit
import Derived.OpenShut
import Derived.ShutString
import Derived.ChangeOld
import Derived.Below
import Derived.Deep.CutRange
namespace Go.Proofs.Ytigkhilgnaecjaa.fnExactBalanced
open Go.ChangeShapes Go.WideShapes Go.ChangeAt Go.RowKit
set_option linter.unusedVariables false
set_option maxRecDepth 100000


theorem laidOut : laidOutB Try.prog = true := by kernel_rfl

set_option maxHeartbeats 4000000 in
theorem walk (v0 : Value) (w : World) (h0 : AtCount w v0) :
    Calls Try.prog 9 #[v0] w fun e w' => e = .returned (.bool true) ∧ Below w.heap.size w w' := by
  obtain ⟨cs0, x0, rfl, hx0⟩ := h0
  have HR0 := hide hx0
  have r0 : RowT Try.prog 41 cs0.length := by rw [countR_len hx0]; exact rowLCount
  clear hx0
  have P0 := Held.new w cs0 41
  have B0 := bnew w (.cells cs0.toArray 41)
  go_enter Try.func9, Try.ntmps9
  go_upto_region 1 with fail
  generalize World.alloc w _ = w0 at *
  go_wp2_with (first | (refine wpl_load rfl 41 _ rfl _ 0 rfl cs0 P0.inB r0 ?_))
  refine (mToCount x0 _ cs0 _ (by unfold countBulk; omega) (countR_keeps _ _ _ None1 _ _ (Below.turn B0) none_off (unhide HR0))).mono ?_
  rintro e w1 ⟨va, rfl, ya, hb1⟩
  have hya := countO_read _ _ _ _ ya
  have P1 := P0.keep hb1
  have B1 := bthen B0 hb1
  clear ya
  go_wp2_with (first | (refine wpl_load rfl 41 _ rfl _ 0 rfl cs0 P1.inB r0 ?_))
  refine (specBalanced x0 _ va _ hya (by unfold countBulk; omega)).mono ?_
  rintro e w2 ⟨rfl, hb2⟩
  have P2 := P1.keep hb2
  have B2 := bthen B1 hb2
  clear hya
  go_wp2_with (first | (refine wpl_load rfl 41 _ rfl _ 0 rfl cs0 P2.inB r0 ?_))
  refine (mToCount x0 _ cs0 _ (by unfold countBulk; omega) (countR_keeps _ _ _ None1 _ _ (Below.turn B2) none_off (unhide HR0))).mono ?_
  rintro e w3 ⟨vb, rfl, yb, hb3⟩
  have hyb := countO_read _ _ _ _ yb
  have B3 := bthen B2 hb3
  clear yb
  go_wp2_with fail
  refine (implBalanced x0 _ vb _ hyb (by unfold countBulk; omega)).mono ?_
  rintro e w4 ⟨rfl, hb4⟩
  have B4 := bthen B3 hb4
  clear hyb
  generalize balB x0 = r at *
  go_wp2
  go_ret
  exact ⟨rfl, B4⟩

set_option maxRecDepth 100000 in
theorem lifted (os : Os) (started : os.Started) (H : Type) (enc : TypeId × Value → H) :
    ReturnsInHanded {} Try.checked os 9 .any (Rows.fnExactBalancedSpec.pre6 enc Try.prog Try.f9 Rows.fnExactBalancedRow.domain false) (Rows.fnExactBalancedSpec.post enc Try.prog Try.f9 false true false false) := by
  refine returnsInHanded_of_change (C := Try.checked) own started (by kernel_rfl) Try.func9
    (ChangeSpec.witness6 (enc := enc) (C := Try.checked) false ⟨#[], #[.agg #[.int .i64 0, .int .i64 0, .int .i64 0, .int .i64 0, .int .i64 0]], []⟩ 8 (by kernel_rfl) (by kernel_rfl) (by kernel_rfl) (by kernel_rfl)) ?_
  intro W base args ds gs before hval0 hW hcnd _
  have hval : ∀ (j : Nat) t v, Try.f9.params[j]? = some t → args[j]? = some v → Value.okWide Try.prog W .any base t v := hval0
  have hW' := hW
  obtain ⟨p, q, hA0, hV, rfl, hfz, hnd⟩ := hW
  have hA : DataW.TrodAll enc Try.prog W 0 (fun _ => true) true Try.f9.params.toList args.toList ds p := hA0
  rw [Try.params9] at hA hval
  obtain ⟨v0, vs0, d0, ds0, p0, q0, hargs0, rfl, rfl, k0, r0⟩ := trodAll_cons hA
  obtain ⟨rfl, rfl, rfl⟩ := trodAll_nil r0
  obtain rfl : args = #[v0] := by cases args; simp_all
  obtain ⟨rfl, rfl⟩ := trodVars_none hV
  have lt0 : ∀ x ∈ p0, x.block < W.heap.size := by obtain ⟨m, hm⟩ := k0; exact DataW.trod_lt m _ _ _ hm
  have h0 : AtCount W v0 := openAtCount (hval 0 _ v0 rfl rfl) k0
  clear hA0 hval0
  refine (walk v0 W h0).mono fun e W' ⟨he, bel⟩ => ?_
  subst he
  exact ⟨_, rfl, _, _, _, [], _, [], hW', trodAll_mk1 (shut_bool Try.underlying4 _), (trodAll_cons_mk (Below.trod laidOut (by kernel_rfl) (of_decide_eq_true (by kernel_rfl)) k0 bel lt0) trodAll_mk0), rfl, bel.frame _, fun h => by cases h⟩

theorem over : Rows.fnExactBalancedRow.holds Try.pinned (OpenSpec.ofChange Rows.fnExactBalancedSpec) :=
  OpenClaim.holds_of_wide 9 Try.f9 rfl rfl rfl rfl rfl rfl rfl ⟨rfl, rfl, rfl, rfl, rfl⟩ rfl rfl rfl rfl rfl (by kernel_rfl) Try.func9 (by kernel_rfl)
    (of_decide_eq_true (by kernel_rfl)) (by unfold Func.isWrapper; first | (rw [if_pos (by decide +kernel)]; kernel_rfl) | (rw [if_neg (by decide +kernel)]; exact ⟨rfl, rfl⟩))
    (fun os started H enc _ => lifted os started H enc)

/-- The statement. -/
theorem proved : Rows.FnExactBalancedSaid := over
#print axioms proved
end Go.Proofs.Ytigkhilgnaecjaa.fnExactBalanced
