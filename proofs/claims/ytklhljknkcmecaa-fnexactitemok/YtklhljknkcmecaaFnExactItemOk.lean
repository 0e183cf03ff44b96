/-
  Proved: at all arguments the program's ItemOk answers as the specification's, and leaves what it is given alone; no condition.
-/
import Derived.Test.YtklhljknkcmecaaRows
import Derived.Test.YtklhljknkcmecaaOItem
import Derived.Test.YtklhljknkcmecaaPlain2
import Derived.WalkKit
import Derived.ProofKit
import Derived.OpenShut
import Derived.ShutString
import Derived.ChangeOld
import Derived.Below
import Derived.Deep.CutRange
namespace Go.Proofs.Ytklhljknkcmecaa.fnExactItemOk
open Go.ChangeShapes Go.WideShapes Go.ChangeAt Go.RowKit
set_option linter.unusedVariables false
set_option maxRecDepth 100000


theorem laidOut : laidOutB Try.prog = true := by kernel_rfl

set_option maxHeartbeats 4000000 in
theorem walk (v0 : Value) (w : World) (h0 : AtItem w v0) :
    Calls Try.prog 8 #[v0] w fun e w' => e = .returned (.bool true) ∧ Below w.heap.size w w' := by
  obtain ⟨cs0, x0, rfl, hx0⟩ := h0
  have HR0 := hide hx0
  obtain ⟨s0_0, rfl, g0_0⟩ := hx0
  obtain ⟨a0_0, k0_0, rfl⟩ := g0_0.form
  clear g0_0
  have P0 := Held.new w [.int .i64 x0.stamp, .int .i64 x0.s.1, .int .i64 x0.s.2.1, .int .i64 x0.s.2.2.1, .int .i64 x0.s.2.2.2.1, .bool x0.s.2.2.2.2.1, .slice a0_0 x0.s.2.2.2.2.2.length k0_0] 62
  have B0 : Below w.heap.size w (w.alloc (.cells #[.int .i64 x0.stamp, .int .i64 x0.s.1, .int .i64 x0.s.2.1, .int .i64 x0.s.2.2.1, .int .i64 x0.s.2.2.2.1, .bool x0.s.2.2.2.2.1, .slice a0_0 x0.s.2.2.2.2.2.length k0_0] 62)) := bnew w (.cells #[.int .i64 x0.stamp, .int .i64 x0.s.1, .int .i64 x0.s.2.1, .int .i64 x0.s.2.2.1, .int .i64 x0.s.2.2.2.1, .bool x0.s.2.2.2.2.1, .slice a0_0 x0.s.2.2.2.2.2.length k0_0] 62)
  go_enter Try.func8, Try.ntmps8
  go_wp2_with fail
  generalize hW0 : World.alloc w _ = w0 at *
  clear hW0
  refine (mSzItem x0 All1 [.int .i64 x0.stamp, .int .i64 x0.s.1, .int .i64 x0.s.2.1, .int .i64 x0.s.2.2.1, .int .i64 x0.s.2.2.2.1, .bool x0.s.2.2.2.2.1, .slice a0_0 x0.s.2.2.2.2.2.length k0_0] 1048576 _ (by omega) (by omega) (itemR_keeps _ _ _ None1 _ _ (Below.turn (B0)) none_off (unhide HR0))).mono ?_
  rintro e w1 ⟨⟨z0, rfl, hz0⟩, hb⟩
  have HZ0 := hide hz0
  clear hz0
  have B2 := bthen B0 hb
  have P0 := P0.keep hb
  clear hb
  by_cases hneg0 : z0 < 0
  · go_wp2
    go_ret
    exact ⟨rfl, B2⟩
  have hzz0 : 0 ≤ z0 ∧ z0 + itemBulk x0 ≤ 1048576 := by rcases unhide HZ0 with h | h <;> omega
  clear HZ0
  have p0_0 := P0.2 0 _ rfl
  have p0_1 := P0.2 1 _ rfl
  have p0_2 := P0.2 2 _ rfl
  have p0_3 := P0.2 3 _ rfl
  have p0_4 := P0.2 4 _ rfl
  have p0_5 := P0.2 5 _ rfl
  have p0_6 := P0.2 6 _ rfl
  have p0_s := P0.1
  have hbk0 : itemBulk x0 ≤ 1048576 := by omega
  clear hzz0
  go_wp2_with fail
  refine (mToItem x0 All1 [.int .i64 x0.stamp, .int .i64 x0.s.1, .int .i64 x0.s.2.1, .int .i64 x0.s.2.2.1, .int .i64 x0.s.2.2.2.1, .bool x0.s.2.2.2.2.1, .slice a0_0 x0.s.2.2.2.2.2.length k0_0] _ hbk0 (itemR_keeps _ _ _ None1 _ _ (Below.turn (B2)) none_off (unhide HR0))).mono ?_
  rintro e wr0 ⟨vr0, rfl, yy0, hbr0⟩
  obtain ⟨tr0_0, rfl, ur0_0⟩ := id yy0; obtain ⟨ar0_0, kr0_0, rfl⟩ := ur0_0.form; clear ur0_0
  have hyr0 := (itemO_read _ _ _ _ yy0)
  clear yy0
  clear p0_0 p0_1 p0_2 p0_3 p0_4 p0_5 p0_6 p0_s
  have B2r0 := bthen B2 hbr0
  have P0 := P0.keep hbr0
  clear hbr0
  have p0_0 := P0.2 0 _ rfl
  have p0_1 := P0.2 1 _ rfl
  have p0_2 := P0.2 2 _ rfl
  have p0_3 := P0.2 3 _ rfl
  have p0_4 := P0.2 4 _ rfl
  have p0_5 := P0.2 5 _ rfl
  have p0_6 := P0.2 6 _ rfl
  have p0_s := P0.1
  go_wp2_with fail
  refine (specItemOk x0 _ [.int .i64 x0.stamp, .int .i64 x0.s.1, .int .i64 x0.s.2.1, .int .i64 x0.s.2.2.1, .int .i64 x0.s.2.2.2.1, .bool x0.s.2.2.2.2.1, .slice ar0_0 x0.s.2.2.2.2.2.length kr0_0] _ hyr0 hbk0).mono ?_
  rintro e ws ⟨rfl, hbs⟩
  clear hyr0
  clear p0_0 p0_1 p0_2 p0_3 p0_4 p0_5 p0_6 p0_s
  have B2s := bthen B2r0 hbs
  have P0 := P0.keep hbs
  clear hbs
  have p0_0 := P0.2 0 _ rfl
  have p0_1 := P0.2 1 _ rfl
  have p0_2 := P0.2 2 _ rfl
  have p0_3 := P0.2 3 _ rfl
  have p0_4 := P0.2 4 _ rfl
  have p0_5 := P0.2 5 _ rfl
  have p0_6 := P0.2 6 _ rfl
  have p0_s := P0.1
  go_wp2_with fail
  refine (mToItem x0 All1 [.int .i64 x0.stamp, .int .i64 x0.s.1, .int .i64 x0.s.2.1, .int .i64 x0.s.2.2.1, .int .i64 x0.s.2.2.2.1, .bool x0.s.2.2.2.2.1, .slice a0_0 x0.s.2.2.2.2.2.length k0_0] _ hbk0 (itemR_keeps _ _ _ None1 _ _ (Below.turn (B2s)) none_off (unhide HR0))).mono ?_
  rintro e wx0 ⟨vx0, rfl, yx0, hbx0⟩
  obtain ⟨tx0_0, rfl, ux0_0⟩ := id yx0; obtain ⟨ax0_0, kx0_0, rfl⟩ := ux0_0.form; clear ux0_0
  have hy0 := (itemO_read _ _ _ _ yx0)
  clear yx0
  clear p0_0 p0_1 p0_2 p0_3 p0_4 p0_5 p0_6 p0_s
  have Bx0 := bthen B2s hbx0
  have P0 := P0.keep hbx0
  clear hbx0
  have hbn0 := bnew wx0 (.cells #[.int .i64 x0.stamp, .int .i64 x0.s.1, .int .i64 x0.s.2.1, .int .i64 x0.s.2.2.1, .int .i64 x0.s.2.2.2.1, .bool x0.s.2.2.2.2.1, .slice ax0_0 x0.s.2.2.2.2.2.length kx0_0] 66)
  have X0 := Held.new wx0 [.int .i64 x0.stamp, .int .i64 x0.s.1, .int .i64 x0.s.2.1, .int .i64 x0.s.2.2.1, .int .i64 x0.s.2.2.2.1, .bool x0.s.2.2.2.2.1, .slice ax0_0 x0.s.2.2.2.2.2.length kx0_0] 66
  have P0n := P0.keep hbn0
  have hy0 := (itemR_keeps _ _ _ None1 _ _ (Below.turn hbn0) none_off hy0)
  have Bx0n := bthen Bx0 hbn0
  have p0_0 := P0.2 0 _ rfl
  have p0_1 := P0.2 1 _ rfl
  have p0_2 := P0.2 2 _ rfl
  have p0_3 := P0.2 3 _ rfl
  have p0_4 := P0.2 4 _ rfl
  have p0_5 := P0.2 5 _ rfl
  have p0_6 := P0.2 6 _ rfl
  have p0_s := P0.1
  have KK0 := hide (And.intro P0n ( And.intro X0 ( And.intro Bx0n (hy0))))
  clear P0n X0 hbn0 Bx0n hy0
  go_wp2_with fail
  generalize World.alloc wx0 _ = wy0 at *
  obtain ⟨P0n, X0, Bx0n, hy0⟩ := unhide KK0
  clear KK0
  clear p0_0 p0_1 p0_2 p0_3 p0_4 p0_5 p0_6 p0_s
  clear P0
  have P0 := P0n
  clear P0n
  refine (implItemOk x0 _ [.int .i64 x0.stamp, .int .i64 x0.s.1, .int .i64 x0.s.2.1, .int .i64 x0.s.2.2.1, .int .i64 x0.s.2.2.2.1, .bool x0.s.2.2.2.2.1, .slice ax0_0 x0.s.2.2.2.2.2.length kx0_0] _ hy0 hbk0).mono ?_
  rintro e wg ⟨rfl, hbg⟩
  have Bg := bthen Bx0n hbg
  have P0 := P0.keep hbg
  have X0 := X0.keep hbg
  have hy0 := (itemR_keeps _ _ _ None1 _ _ (Below.turn hbg) none_off hy0)
  clear hbg
  have p0_0 := P0.2 0 _ rfl
  have p0_1 := P0.2 1 _ rfl
  have p0_2 := P0.2 2 _ rfl
  have p0_3 := P0.2 3 _ rfl
  have p0_4 := P0.2 4 _ rfl
  have p0_5 := P0.2 5 _ rfl
  have p0_6 := P0.2 6 _ rfl
  have p0_s := P0.1
  have x0_0 := X0.2 0 _ rfl
  have x0_1 := X0.2 1 _ rfl
  have x0_2 := X0.2 2 _ rfl
  have x0_3 := X0.2 3 _ rfl
  have x0_4 := X0.2 4 _ rfl
  have x0_5 := X0.2 5 _ rfl
  have x0_6 := X0.2 6 _ rfl
  have x0_s := X0.1
  go_upto_region 10 with fail
  go_region_with (first
    | (go_at_call 38; refine (mEqItem x0 _ _ [.int .i64 x0.stamp, .int .i64 x0.s.1, .int .i64 x0.s.2.1, .int .i64 x0.s.2.2.1, .int .i64 x0.s.2.2.2.1, .bool x0.s.2.2.2.2.1, .slice ax0_0 x0.s.2.2.2.2.2.length kx0_0] [.int .i64 x0.stamp, .int .i64 x0.s.1, .int .i64 x0.s.2.1, .int .i64 x0.s.2.2.1, .int .i64 x0.s.2.2.2.1, .bool x0.s.2.2.2.2.1, .slice ae0_0 x0.s.2.2.2.2.2.length ke0_0] _ (itemR_keeps _ _ _ None1 _ _ (Below.turn hbe) none_off hy0) (itemO_read _ _ _ _ ye)).mono ?_; rintro e wf ⟨rfl, hbf'⟩; have hbf := bthen hbe hbf')
    | (go_at_call 36; refine (mToItem x0 All1 [.int .i64 x0.stamp, .int .i64 x0.s.1, .int .i64 x0.s.2.1, .int .i64 x0.s.2.2.1, .int .i64 x0.s.2.2.2.1, .bool x0.s.2.2.2.2.1, .slice a0_0 x0.s.2.2.2.2.2.length k0_0] _ hbk0 (itemR_keeps _ _ _ None1 _ _ (Below.turn (Bg.drew)) none_off (unhide HR0))).mono ?_; rintro e we ⟨ve, rfl, ye, hbe'⟩
       have hbe : Below wg.heap.size wg we := Below.trans (Below.drew (Below.refl _ _)) hbe'
       obtain ⟨te0_0, rfl, ue0_0⟩ := id ye; obtain ⟨ae0_0, ke0_0, rfl⟩ := ue0_0.form; clear ue0_0
       clear x0_0 x0_1 x0_2 x0_3 x0_4 x0_5 x0_6
       have LX := X0.keep hbe
       have x0_0 := LX.2 0 _ rfl
       have x0_1 := LX.2 1 _ rfl
       have x0_2 := LX.2 2 _ rfl
       have x0_3 := LX.2 3 _ rfl
       have x0_4 := LX.2 4 _ rfl
       have x0_5 := LX.2 5 _ rfl
       have x0_6 := LX.2 6 _ rfl))
  all_goals (go_wp2; go_ret; exact ⟨rfl, bthen Bg hbf⟩)

set_option maxRecDepth 100000 in
theorem lifted (os : Os) (started : os.Started) (H : Type) (enc : TypeId × Value → H) :
    ReturnsInHanded {} Try.checked os 8 .any (Rows.fnExactItemOkSpec.pre6 enc Try.prog Try.f8 Rows.fnExactItemOkRow.domain false) (Rows.fnExactItemOkSpec.post enc Try.prog Try.f8 false true false false) := by
  refine returnsInHanded_of_change (C := Try.checked) own started (by kernel_rfl) Try.func8
    (ChangeSpec.witness6 (enc := enc) (C := Try.checked) false ⟨#[], #[.agg #[.int .i64 0, .int .i64 0, .int .i64 0, .int .i64 0, .int .i64 0, .bool false, .slice none 0 0]], []⟩ 8 (by kernel_rfl) (by kernel_rfl) (by kernel_rfl) (by kernel_rfl)) ?_
  intro W base args ds gs before hval0 hW hcnd _
  have hval : ∀ (j : Nat) t v, Try.f8.params[j]? = some t → args[j]? = some v → Value.okWide Try.prog W .any base t v := hval0
  have hW' := hW
  obtain ⟨p, q, hA0, hV, rfl, hfz, hnd⟩ := hW
  have hA : DataW.TrodAll enc Try.prog W 0 (fun _ => true) true Try.f8.params.toList args.toList ds p := hA0
  rw [Try.params8] at hA hval
  obtain ⟨v0, vs0, d0, ds0, p0, q0, hargs0, rfl, rfl, k0, r0⟩ := trodAll_cons hA
  obtain ⟨rfl, rfl, rfl⟩ := trodAll_nil r0
  obtain rfl : args = #[v0] := by cases args; simp_all
  obtain ⟨rfl, rfl⟩ := trodVars_none hV
  have lt0 : ∀ x ∈ p0, x.block < W.heap.size := by obtain ⟨m, hm⟩ := k0; exact DataW.trod_lt m _ _ _ hm
  have h0 : AtItem W v0 := openAtItem (hval 0 _ v0 rfl rfl) k0
  clear hA0 hval0
  refine (walk v0 W h0).mono fun e W' ⟨he, bel⟩ => ?_
  subst he
  exact ⟨_, rfl, _, _, _, [], _, [], hW', trodAll_mk1 (shut_bool Try.underlying4 _), (trodAll_cons_mk (Below.trod laidOut (by kernel_rfl) (of_decide_eq_true (by kernel_rfl)) k0 bel lt0) trodAll_mk0), rfl, bel.frame _, fun h => by cases h⟩

theorem over : Rows.fnExactItemOkRow.holds Try.pinned (OpenSpec.ofChange Rows.fnExactItemOkSpec) :=
  OpenClaim.holds_of_wide 8 Try.f8 rfl rfl rfl rfl rfl rfl rfl ⟨rfl, rfl, rfl, rfl, rfl⟩ rfl rfl rfl rfl rfl (by kernel_rfl) Try.func8 (by kernel_rfl)
    (of_decide_eq_true (by kernel_rfl)) (by unfold Func.isWrapper; first | (rw [if_pos (by decide +kernel)]; kernel_rfl) | (rw [if_neg (by decide +kernel)]; exact ⟨rfl, rfl⟩))
    (fun os started H enc _ => lifted os started H enc)

/-- The statement. -/
theorem proved : Rows.FnExactItemOkSaid := over
#print axioms proved
end Go.Proofs.Ytklhljknkcmecaa.fnExactItemOk
