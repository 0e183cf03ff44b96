/-
  Proved: at all arguments the program's StripesOk answers as the specification's, and leaves what it is given alone; no condition.
-/
import Derived.Test.YtlhjhnjpmafceabRows
import Derived.Test.YtlhjhnjpmafceabOStripe
import Derived.Test.YtlhjhnjpmafceabSok1
import Derived.Test.YtlhjhnjpmafceabSok2
import Derived.WalkKit
import Derived.ProofKit
import Derived.OpenShut
import Derived.ShutString
import Derived.ChangeOld
import Derived.Below
import Derived.Deep.CutRange
namespace Go.Proofs.Ytlhjhnjpmafceab.fnExactStripesOk
open Go.ChangeShapes Go.WideShapes Go.ChangeAt Go.RowKit
set_option linter.unusedVariables false
set_option maxRecDepth 100000


theorem laidOut : laidOutB Try.prog = true := by kernel_rfl

set_option maxHeartbeats 4000000 in
theorem walk (v0 : Value) (w : World) (h0 : AtStripeS w v0) :
    Calls Try.prog 4 #[v0] w fun e w' => e = .returned (.bool true) ∧ Below w.heap.size w w' := by
  obtain ⟨x0, hx0⟩ := h0
  obtain ⟨a0, k0, rfl⟩ := hx0.form
  have HR0 := hide hx0
  clear hx0
  have B0 : Below w.heap.size w w := Below.refl w.heap.size w
  go_enter Try.func4, Try.ntmps4
  go_wp2_with fail
  refine (mSzStripeS x0 All1 (.slice a0 x0.length k0) 1048576 _ (by omega) (by omega) ((unhide HR0).keep stripeR_keeps (B0))).mono ?_
  rintro e wz0 ⟨⟨z0, rfl, hz0⟩, hb⟩
  have HZ0 := hide hz0
  clear hz0
  have BB1 := bthen B0 hb
  clear hb
  by_cases hneg0 : z0 < 0
  · go_wp2
    go_ret
    exact ⟨rfl, BB1⟩
  have hzz0 : 0 ≤ z0 ∧ z0 + bulkL stripeBulk x0 ≤ 1048576 := by rcases unhide HZ0 with h | h <;> omega
  clear HZ0
  have hbk0 : bulkL stripeBulk x0 ≤ 1048576 := by omega
  clear hzz0
  go_wp2_with fail
  refine (mToStripeS x0 All1 (.slice a0 x0.length k0) _ hbk0 ((unhide HR0).keep stripeR_keeps (BB1))).mono ?_
  rintro e wr0 ⟨vr0, rfl, yy0, hbr0⟩
  have hyr0 := (yy0.read stripeR_widens stripeO_read)
  obtain ⟨ar0, kr0, rfl⟩ := yy0.form
  clear yy0
  have BB2 := bthen BB1 hbr0
  clear hbr0
  go_wp2_with fail
  refine (specStripesOk x0 _ (.slice ar0 x0.length kr0) _ hyr0 hbk0).mono ?_
  rintro e ws ⟨rfl, hbs⟩
  clear hyr0
  have BB3 := bthen BB2 hbs
  clear hbs
  go_wp2_with fail
  refine (mToStripeS x0 All1 (.slice a0 x0.length k0) _ hbk0 ((unhide HR0).keep stripeR_keeps (BB3))).mono ?_
  rintro e wx0 ⟨vx0, rfl, yx0, hbx0⟩
  have hy0 := (yx0.read stripeR_widens stripeO_read)
  have BB4 := bthen BB3 hbx0
  obtain ⟨ax0, kx0, rfl⟩ := yx0.form
  clear yx0 hbx0
  go_wp2_with fail
  refine (implStripesOk x0 _ (.slice ax0 x0.length kx0) _ hy0 hbk0).mono ?_
  rintro e wg ⟨rfl, hbg⟩
  have BB5 := bthen BB4 hbg
  have hy0 := (hy0.keep stripeR_keeps hbg)
  clear hbg
  go_wp2_with fail
  refine (mToStripeS x0 All1 (.slice a0 x0.length k0) _ hbk0 ((unhide HR0).keep stripeR_keeps (BB5))).mono ?_
  rintro e we0 ⟨ve0, rfl, ye0, hbe0⟩
  obtain ⟨ae0, ke0, rfl⟩ := ye0.form
  have hye0 := (ye0.read stripeR_widens stripeO_read)
  have BB6 := bthen BB5 hbe0
  have hy0 := (hy0.keep stripeR_keeps hbe0)
  clear ye0 hbe0
  go_wp2_with fail
  refine (mEqStripeS x0 _ _ (.slice ax0 x0.length kx0) (.slice ae0 x0.length ke0) _ hy0 hye0).mono ?_
  rintro e wf0 ⟨rfl, hbf0⟩
  have BB7 := bthen BB6 hbf0
  clear hye0 hbf0
  go_wp2
  go_ret
  exact ⟨rfl, BB7⟩

set_option maxRecDepth 100000 in
theorem lifted (os : Os) (started : os.Started) (H : Type) (enc : TypeId × Value → H) :
    ReturnsInHanded {} Try.checked os 4 .any (Rows.fnExactStripesOkSpec.pre6 enc Try.prog Try.f4 Rows.fnExactStripesOkRow.domain false) (Rows.fnExactStripesOkSpec.post enc Try.prog Try.f4 false true false false) := by
  refine returnsInHanded_of_change (C := Try.checked) own started (by kernel_rfl) Try.func4
    (ChangeSpec.witness6 (enc := enc) (C := Try.checked) false ⟨#[], #[.slice none 0 0], []⟩ 8 (by kernel_rfl) (by kernel_rfl) (by kernel_rfl) (by kernel_rfl)) ?_
  intro W base args ds gs before hval0 hW hcnd _
  have hval : ∀ (j : Nat) t v, Try.f4.params[j]? = some t → args[j]? = some v → Value.okWide Try.prog W .any base t v := hval0
  have hW' := hW
  obtain ⟨p, q, hA0, hV, rfl, hfz, hnd⟩ := hW
  have hA : DataW.TrodAll enc Try.prog W 0 (fun _ => true) true Try.f4.params.toList args.toList ds p := hA0
  rw [Try.params4] at hA hval
  obtain ⟨v0, vs0, d0, ds0, p0, q0, hargs0, rfl, rfl, k0, r0⟩ := trodAll_cons hA
  obtain ⟨rfl, rfl, rfl⟩ := trodAll_nil r0
  obtain rfl : args = #[v0] := by cases args; simp_all
  obtain ⟨rfl, rfl⟩ := trodVars_none hV
  have lt0 : ∀ x ∈ p0, x.block < W.heap.size := by obtain ⟨m, hm⟩ := k0; exact DataW.trod_lt m _ _ _ hm
  have h0 : AtStripeS W v0 := openAtStripeS (hval 0 _ v0 rfl rfl) k0
  clear hA0 hval0
  refine (walk v0 W h0).mono fun e W' ⟨he, bel⟩ => ?_
  subst he
  exact ⟨_, rfl, _, _, _, [], _, [], hW', trodAll_mk1 (shut_bool Try.underlying4 _), (trodAll_cons_mk (Below.trod laidOut (by kernel_rfl) (of_decide_eq_true (by kernel_rfl)) k0 bel lt0) trodAll_mk0), rfl, bel.frame _, fun h => by cases h⟩

theorem over : Rows.fnExactStripesOkRow.holds Try.pinned (OpenSpec.ofChange Rows.fnExactStripesOkSpec) :=
  OpenClaim.holds_of_wide 4 Try.f4 rfl rfl rfl rfl rfl rfl rfl ⟨rfl, rfl, rfl, rfl, rfl⟩ rfl rfl rfl rfl rfl (by kernel_rfl) Try.func4 (by kernel_rfl)
    (of_decide_eq_true (by kernel_rfl)) (by unfold Func.isWrapper; first | (rw [if_pos (by decide +kernel)]; kernel_rfl) | (rw [if_neg (by decide +kernel)]; exact ⟨rfl, rfl⟩))
    (fun os started H enc _ => lifted os started H enc)

/-- The statement. -/
theorem proved : Rows.FnExactStripesOkSaid := over
#print axioms proved
end Go.Proofs.Ytlhjhnjpmafceab.fnExactStripesOk
