/-
  Proved: at all arguments the program's SameCache answers as the specification's, and leaves what it is given alone; no condition.
-/
import Derived.Test.YtigkhilgnaecjaaRows
import Derived.Test.YtigkhilgnaecjaaSCache
import Derived.Test.YtigkhilgnaecjaaOVerdict
import Derived.Test.YtigkhilgnaecjaaArgs
import Derived.WalkKit
import Derived.ProofKit
import Derived.OpenShut
import Derived.ShutString
import Derived.ChangeOld
import Derived.Below
import Derived.Deep.CutRange
namespace Go.Proofs.Ytigkhilgnaecjaa.fnExactSameCache
open Go.ChangeShapes Go.WideShapes Go.ChangeAt Go.RowKit
set_option linter.unusedVariables false
set_option maxRecDepth 100000


theorem laidOut : laidOutB Try.prog = true := by kernel_rfl

set_option maxHeartbeats 4000000 in
theorem walk (v0 v1 : Value) (w : World) (h0 : AtVerdictS w v0) (h1 : AtVerdictS w v1) :
    Calls Try.prog 8 #[v0, v1] w fun e w' => e = .returned (.bool true) ∧ Below w.heap.size w w' := by
  obtain ⟨x0, hx0⟩ := h0
  obtain ⟨a0, k0, rfl⟩ := hx0.form
  have HR0 := hide hx0
  clear hx0
  obtain ⟨x1, hx1⟩ := h1
  obtain ⟨a1, k1, rfl⟩ := hx1.form
  have HR1 := hide hx1
  clear hx1
  have B0 : Below w.heap.size w w := Below.refl w.heap.size w
  go_enter Try.func8, Try.ntmps8
  go_wp2_with fail
  refine (mSzVerdictS x0 All1 (.slice a0 x0.length k0) 1048576 _ (by omega) (by omega) ((unhide HR0).keep verdictR_keeps (B0))).mono ?_
  rintro e wz0 ⟨⟨z0, rfl, hz0⟩, hb⟩
  have HZ0 := hide hz0
  clear hz0
  have BB1 := bthen B0 hb
  clear hb
  by_cases hneg0 : z0 < 0
  · go_wp2
    go_ret
    exact ⟨rfl, BB1⟩
  have hzz0 : 0 ≤ z0 ∧ z0 + bulkL verdictBulk x0 ≤ 1048576 := by rcases unhide HZ0 with h | h <;> omega
  clear HZ0
  go_wp2_with fail
  refine (mSzVerdictS x1 All1 (.slice a1 x1.length k1) z0 _ (by omega) (by omega) ((unhide HR1).keep verdictR_keeps (BB1))).mono ?_
  rintro e wz1 ⟨⟨z1, rfl, hz1⟩, hb⟩
  have HZ1 := hide hz1
  clear hz1
  have BB2 := bthen BB1 hb
  clear hb
  by_cases hneg1 : z1 < 0
  · go_wp2
    go_ret
    exact ⟨rfl, BB2⟩
  have hzz1 : 0 ≤ z1 ∧ z1 + bulkL verdictBulk x1 ≤ z0 := by rcases unhide HZ1 with h | h <;> omega
  clear HZ1
  have hbk0 : bulkL verdictBulk x0 ≤ 1048576 := by omega
  have hbk1 : bulkL verdictBulk x1 ≤ 1048576 := by omega
  clear hzz0 hzz1
  go_wp2_with fail
  refine (mToVerdictS x0 All1 (.slice a0 x0.length k0) _ hbk0 ((unhide HR0).keep verdictR_keeps (BB2))).mono ?_
  rintro e wr0 ⟨vr0, rfl, yy0, hbr0⟩
  have hyr0 := (yy0.read verdictR_widens verdictO_read)
  obtain ⟨ar0, kr0, rfl⟩ := yy0.form
  clear yy0
  have BB3 := bthen BB2 hbr0
  clear hbr0
  go_wp2_with fail
  refine (mToVerdictS x1 All1 (.slice a1 x1.length k1) _ hbk1 ((unhide HR1).keep verdictR_keeps (BB3))).mono ?_
  rintro e wr1 ⟨vr1, rfl, yy1, hbr1⟩
  have hyr1 := (yy1.read verdictR_widens verdictO_read)
  obtain ⟨ar1, kr1, rfl⟩ := yy1.form
  clear yy1
  have BB4 := bthen BB3 hbr1
  have hyr0 := (hyr0.keep verdictR_keeps hbr1)
  clear hbr1
  go_wp2_with fail
  refine (specSameCache x0 x1 _ (.slice ar0 x0.length kr0) _ (.slice ar1 x1.length kr1) _ hyr0 hbk0 hyr1 hbk1).mono ?_
  rintro e ws ⟨rfl, hbs⟩
  clear hyr0 hyr1
  have BB5 := bthen BB4 hbs
  clear hbs
  go_wp2_with fail
  refine (mToVerdictS x0 All1 (.slice a0 x0.length k0) _ hbk0 ((unhide HR0).keep verdictR_keeps (BB5))).mono ?_
  rintro e wx0 ⟨vx0, rfl, yx0, hbx0⟩
  have hy0 := (yx0.read verdictR_widens verdictO_read)
  have BB6 := bthen BB5 hbx0
  obtain ⟨ax0, kx0, rfl⟩ := yx0.form
  clear yx0 hbx0
  go_wp2_with fail
  refine (mToVerdictS x1 All1 (.slice a1 x1.length k1) _ hbk1 ((unhide HR1).keep verdictR_keeps (BB6))).mono ?_
  rintro e wx1 ⟨vx1, rfl, yx1, hbx1⟩
  have hy1 := (yx1.read verdictR_widens verdictO_read)
  have BB7 := bthen BB6 hbx1
  have hy0 := (hy0.keep verdictR_keeps hbx1)
  obtain ⟨ax1, kx1, rfl⟩ := yx1.form
  clear yx1 hbx1
  go_wp2_with fail
  refine (implSameCache x0 x1 _ (.slice ax0 x0.length kx0) _ (.slice ax1 x1.length kx1) _ hy0 hbk0 hy1 hbk1).mono ?_
  rintro e wg ⟨rfl, hbg⟩
  have BB8 := bthen BB7 hbg
  have hy0 := (hy0.keep verdictR_keeps hbg)
  have hy1 := (hy1.keep verdictR_keeps hbg)
  clear hbg
  go_wp2_with fail
  refine (mToVerdictS x0 All1 (.slice a0 x0.length k0) _ hbk0 ((unhide HR0).keep verdictR_keeps (BB8))).mono ?_
  rintro e we0 ⟨ve0, rfl, ye0, hbe0⟩
  obtain ⟨ae0, ke0, rfl⟩ := ye0.form
  have hye0 := (ye0.read verdictR_widens verdictO_read)
  have BB9 := bthen BB8 hbe0
  have hy0 := (hy0.keep verdictR_keeps hbe0)
  have hy1 := (hy1.keep verdictR_keeps hbe0)
  clear ye0 hbe0
  go_wp2_with fail
  refine (mEqVerdictS x0 _ _ (.slice ax0 x0.length kx0) (.slice ae0 x0.length ke0) _ hy0 hye0).mono ?_
  rintro e wf0 ⟨rfl, hbf0⟩
  have BB10 := bthen BB9 hbf0
  have hy1 := (hy1.keep verdictR_keeps hbf0)
  clear hye0 hbf0
  go_wp2_with fail
  refine (mToVerdictS x1 All1 (.slice a1 x1.length k1) _ hbk1 ((unhide HR1).keep verdictR_keeps (BB10))).mono ?_
  rintro e we1 ⟨ve1, rfl, ye1, hbe1⟩
  obtain ⟨ae1, ke1, rfl⟩ := ye1.form
  have hye1 := (ye1.read verdictR_widens verdictO_read)
  have BB11 := bthen BB10 hbe1
  have hy1 := (hy1.keep verdictR_keeps hbe1)
  clear ye1 hbe1
  go_wp2_with fail
  refine (mEqVerdictS x1 _ _ (.slice ax1 x1.length kx1) (.slice ae1 x1.length ke1) _ hy1 hye1).mono ?_
  rintro e wf1 ⟨rfl, hbf1⟩
  have BB12 := bthen BB11 hbf1
  clear hye1 hbf1
  go_wp2
  go_ret
  exact ⟨rfl, BB12⟩

set_option maxRecDepth 100000 in
theorem lifted (os : Os) (started : os.Started) (H : Type) (enc : TypeId × Value → H) :
    ReturnsInHanded {} Try.checked os 8 .any (Rows.fnExactSameCacheSpec.pre6 enc Try.prog Try.f8 Rows.fnExactSameCacheRow.domain false) (Rows.fnExactSameCacheSpec.post enc Try.prog Try.f8 false true false false) := by
  refine returnsInHanded_of_change (C := Try.checked) own started (by kernel_rfl) Try.func8
    (ChangeSpec.witness6 (enc := enc) (C := Try.checked) false ⟨#[], #[.slice none 0 0, .slice none 0 0], []⟩ 8 (by kernel_rfl) (by kernel_rfl) (by kernel_rfl) (by kernel_rfl)) ?_
  intro W base args ds gs before hval0 hW hcnd _
  have hval : ∀ (j : Nat) t v, Try.f8.params[j]? = some t → args[j]? = some v → Value.okWide Try.prog W .any base t v := hval0
  have hW' := hW
  obtain ⟨p, q, hA0, hV, rfl, hfz, hnd⟩ := hW
  have hA : DataW.TrodAll enc Try.prog W 0 (fun _ => true) true Try.f8.params.toList args.toList ds p := hA0
  rw [Try.params8] at hA hval
  obtain ⟨v0, vs0, d0, ds0, p0, q0, hargs0, rfl, rfl, k0, r0⟩ := trodAll_cons hA
  obtain ⟨v1, vs1, d1, ds1, p1, q1, rfl, rfl, rfl, k1, r1⟩ := trodAll_cons r0
  obtain ⟨rfl, rfl, rfl⟩ := trodAll_nil r1
  obtain rfl : args = #[v0, v1] := by cases args; simp_all
  obtain ⟨rfl, rfl⟩ := trodVars_none hV
  have lt0 : ∀ x ∈ p0, x.block < W.heap.size := by obtain ⟨m, hm⟩ := k0; exact DataW.trod_lt m _ _ _ hm
  have h0 : AtVerdictS W v0 := openAtVerdictS (hval 0 _ v0 rfl rfl) k0
  have lt1 : ∀ x ∈ p1, x.block < W.heap.size := by obtain ⟨m, hm⟩ := k1; exact DataW.trod_lt m _ _ _ hm
  have h1 : AtVerdictS W v1 := openAtVerdictS (hval 1 _ v1 rfl rfl) k1
  clear hA0 hval0
  refine (walk v0 v1 W h0 h1).mono fun e W' ⟨he, bel⟩ => ?_
  subst he
  exact ⟨_, rfl, _, _, _, [], _, [], hW', trodAll_mk1 (shut_bool Try.underlying4 _), (trodAll_cons_mk (Below.trod laidOut (by kernel_rfl) (of_decide_eq_true (by kernel_rfl)) k0 bel lt0) (trodAll_cons_mk (Below.trod laidOut (by kernel_rfl) (of_decide_eq_true (by kernel_rfl)) k1 bel lt1) trodAll_mk0)), rfl, bel.frame _, fun h => by cases h⟩

theorem over : Rows.fnExactSameCacheRow.holds Try.pinned (OpenSpec.ofChange Rows.fnExactSameCacheSpec) :=
  OpenClaim.holds_of_wide 8 Try.f8 rfl rfl rfl rfl rfl rfl rfl ⟨rfl, rfl, rfl, rfl, rfl⟩ rfl rfl rfl rfl rfl (by kernel_rfl) Try.func8 (by kernel_rfl)
    (of_decide_eq_true (by kernel_rfl)) (by unfold Func.isWrapper; first | (rw [if_pos (by decide +kernel)]; kernel_rfl) | (rw [if_neg (by decide +kernel)]; exact ⟨rfl, rfl⟩))
    (fun os started H enc _ => lifted os started H enc)

/-- The statement. -/
theorem proved : Rows.FnExactSameCacheSaid := over
#print axioms proved
end Go.Proofs.Ytigkhilgnaecjaa.fnExactSameCache
