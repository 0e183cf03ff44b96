/-
  Proved: at all arguments the program's Older answers as the specification's, and leaves what it is given alone; no condition.
-/
import Derived.Test.YtklhljknkcmecaaRows
import Derived.Test.YtklhljknkcmecaaOTrail
import Derived.Test.YtklhljknkcmecaaPlain
import Derived.WalkKit
import Derived.ProofKit
import Derived.OpenShut
import Derived.ShutString
import Derived.ChangeOld
import Derived.Below
import Derived.Deep.CutRange
namespace Go.Proofs.Ytklhljknkcmecaa.fnExactOlder
open Go.ChangeShapes Go.WideShapes Go.ChangeAt Go.RowKit
set_option linter.unusedVariables false
set_option maxRecDepth 100000


theorem laidOut : laidOutB Try.prog = true := by kernel_rfl

set_option maxHeartbeats 4000000 in
theorem walk (v0 v1 : Value) (w : World) (h0 : AtTrail w v0) (h1 : AtTrail w v1) :
    Calls Try.prog 3 #[v0, v1] w fun e w' => e = .returned (.bool true) ∧ Below w.heap.size w w' := by
  obtain ⟨cs0, x0, rfl, hx0⟩ := h0
  have HR0 := hide hx0
  obtain ⟨s0_0, rfl, g0_0⟩ := hx0
  obtain ⟨a0_0, k0_0, rfl⟩ := g0_0.form
  clear g0_0
  obtain ⟨cs1, x1, rfl, hx1⟩ := h1
  have HR1 := hide hx1
  obtain ⟨s1_0, rfl, g1_0⟩ := hx1
  obtain ⟨a1_0, k1_0, rfl⟩ := g1_0.form
  clear g1_0
  have P0 := Held.new w [.int .i64 x0.id, .int .i64 x0.stamp, .int .i64 x0.first, .slice a0_0 x0.spans.length k0_0] 24
  have P1 := Held.new (w.alloc (.cells #[.int .i64 x0.id, .int .i64 x0.stamp, .int .i64 x0.first, .slice a0_0 x0.spans.length k0_0] 24)) [.int .i64 x1.id, .int .i64 x1.stamp, .int .i64 x1.first, .slice a1_0 x1.spans.length k1_0] 24
  have P0 := P0.keep (bnew (w.alloc (.cells #[.int .i64 x0.id, .int .i64 x0.stamp, .int .i64 x0.first, .slice a0_0 x0.spans.length k0_0] 24)) (.cells #[.int .i64 x1.id, .int .i64 x1.stamp, .int .i64 x1.first, .slice a1_0 x1.spans.length k1_0] 24))
  rw [show (w.alloc (.cells #[.int .i64 x0.id, .int .i64 x0.stamp, .int .i64 x0.first, .slice a0_0 x0.spans.length k0_0] 24)).heap.size = w.heap.size + 1 by simp] at P1
  have B0 : Below w.heap.size w ((w.alloc (.cells #[.int .i64 x0.id, .int .i64 x0.stamp, .int .i64 x0.first, .slice a0_0 x0.spans.length k0_0] 24)).alloc (.cells #[.int .i64 x1.id, .int .i64 x1.stamp, .int .i64 x1.first, .slice a1_0 x1.spans.length k1_0] 24)) := bthen (bnew w (.cells #[.int .i64 x0.id, .int .i64 x0.stamp, .int .i64 x0.first, .slice a0_0 x0.spans.length k0_0] 24)) (bnew (w.alloc (.cells #[.int .i64 x0.id, .int .i64 x0.stamp, .int .i64 x0.first, .slice a0_0 x0.spans.length k0_0] 24)) (.cells #[.int .i64 x1.id, .int .i64 x1.stamp, .int .i64 x1.first, .slice a1_0 x1.spans.length k1_0] 24))
  go_enter Try.func3, Try.ntmps3
  go_wp2_with fail
  generalize hW0 : World.alloc (World.alloc w _) _ = w0 at *
  clear hW0
  refine (mSzTrail x0 All1 [.int .i64 x0.id, .int .i64 x0.stamp, .int .i64 x0.first, .slice a0_0 x0.spans.length k0_0] 1048576 _ (by omega) (by omega) (trailR_keeps _ _ _ None1 _ _ (Below.turn (B0)) none_off (unhide HR0))).mono ?_
  rintro e w1 ⟨⟨z0, rfl, hz0⟩, hb⟩
  have HZ0 := hide hz0
  clear hz0
  have B2 := bthen B0 hb
  have P0 := P0.keep hb
  have P1 := P1.keep hb
  clear hb
  by_cases hneg0 : z0 < 0
  · go_wp2
    go_ret
    exact ⟨rfl, B2⟩
  have hzz0 : 0 ≤ z0 ∧ z0 + trailBulk x0 ≤ 1048576 := by rcases unhide HZ0 with h | h <;> omega
  clear HZ0
  have p0_0 := P0.2 0 _ rfl
  have p0_1 := P0.2 1 _ rfl
  have p0_2 := P0.2 2 _ rfl
  have p0_3 := P0.2 3 _ rfl
  have p0_s := P0.1
  have p1_0 := P1.2 0 _ rfl
  have p1_1 := P1.2 1 _ rfl
  have p1_2 := P1.2 2 _ rfl
  have p1_3 := P1.2 3 _ rfl
  have p1_s := P1.1
  go_wp2_with fail
  refine (mSzTrail x1 All1 [.int .i64 x1.id, .int .i64 x1.stamp, .int .i64 x1.first, .slice a1_0 x1.spans.length k1_0] z0 _ (by omega) (by omega) (trailR_keeps _ _ _ None1 _ _ (Below.turn (B2)) none_off (unhide HR1))).mono ?_
  rintro e w2 ⟨⟨z1, rfl, hz1⟩, hb⟩
  have HZ1 := hide hz1
  clear hz1
  clear p0_0 p0_1 p0_2 p0_3 p0_s p1_0 p1_1 p1_2 p1_3 p1_s
  have B3 := bthen B2 hb
  have P0 := P0.keep hb
  have P1 := P1.keep hb
  clear hb
  by_cases hneg1 : z1 < 0
  · go_wp2
    go_ret
    exact ⟨rfl, B3⟩
  have hzz1 : 0 ≤ z1 ∧ z1 + trailBulk x1 ≤ z0 := by rcases unhide HZ1 with h | h <;> omega
  clear HZ1
  have p0_0 := P0.2 0 _ rfl
  have p0_1 := P0.2 1 _ rfl
  have p0_2 := P0.2 2 _ rfl
  have p0_3 := P0.2 3 _ rfl
  have p0_s := P0.1
  have p1_0 := P1.2 0 _ rfl
  have p1_1 := P1.2 1 _ rfl
  have p1_2 := P1.2 2 _ rfl
  have p1_3 := P1.2 3 _ rfl
  have p1_s := P1.1
  have hbk0 : trailBulk x0 ≤ 1048576 := by omega
  have hbk1 : trailBulk x1 ≤ 1048576 := by omega
  clear hzz0 hzz1
  go_upto_region 8 with fail
  go_cut [6] from 20 to 24 (fun s wc => s = .bool (olderB x0 x1) ∧ Below w2.heap.size w2 wc)
  case first =>
    go_region_with (first
      | (go_at_call 16; refine (specOlder x0 x1 _ [.int .i64 x0.id, .int .i64 x0.stamp, .int .i64 x0.first, .slice ar0_0 x0.spans.length kr0_0] _ [.int .i64 x1.id, .int .i64 x1.stamp, .int .i64 x1.first, .slice ar1_0 x1.spans.length kr1_0] _ (trailR_keeps _ _ _ None1 _ _ (Below.turn (hbr1')) none_off (trailO_read _ _ _ _ yy0)) hbk0 (trailO_read _ _ _ _ yy1) hbk1).mono ?_; rintro e ws ⟨rfl, hbs'⟩
         have hbs : Below w2.heap.size w2 ws := bthen hbr1 hbs')
      | (have _ := yy0; go_at_call 17; refine (mToTrail x1 All1 [.int .i64 x1.id, .int .i64 x1.stamp, .int .i64 x1.first, .slice a1_0 x1.spans.length k1_0] _ hbk1 (trailR_keeps _ _ _ None1 _ _ (Below.turn (bthen B3 hbr0)) none_off (unhide HR1))).mono ?_; rintro e wr1 ⟨vr1, rfl, yy1, hbr1'⟩
         have hbr1 : Below w2.heap.size w2 wr1 := bthen hbr0 hbr1'
         obtain ⟨tr1_0, rfl, ur1_0⟩ := id yy1; obtain ⟨ar1_0, kr1_0, rfl⟩ := ur1_0.form; clear ur1_0)
      | (go_at_call 17; refine (mToTrail x0 All1 [.int .i64 x0.id, .int .i64 x0.stamp, .int .i64 x0.first, .slice a0_0 x0.spans.length k0_0] _ hbk0 (trailR_keeps _ _ _ None1 _ _ (Below.turn (B3.drew)) none_off (unhide HR0))).mono ?_; rintro e wr0 ⟨vr0, rfl, yy0, hbr0'⟩
         have hbr0 : Below w2.heap.size w2 wr0 := Below.trans (Below.drew (Below.refl _ _)) hbr0'
         obtain ⟨tr0_0, rfl, ur0_0⟩ := id yy0; obtain ⟨ar0_0, kr0_0, rfl⟩ := ur0_0.form; clear ur0_0
         clear p1_0 p1_1 p1_2 p1_3
         have L0P1 := P1.keep hbr0
         have p1_0 := L0P1.2 0 _ rfl
         have p1_1 := L0P1.2 1 _ rfl
         have p1_2 := L0P1.2 2 _ rfl
         have p1_3 := L0P1.2 3 _ rfl))
    all_goals (go_wp2_with fail; go_meet; exact ⟨rfl, hbs⟩)
  case rest =>
  obtain ⟨rfl, hbs⟩ := hcut
  clear p0_0 p0_1 p0_2 p0_3 p0_s p1_0 p1_1 p1_2 p1_3 p1_s
  have B3s := bthen B3 hbs
  have P0 := P0.keep hbs
  have P1 := P1.keep hbs
  clear hbs
  have p0_0 := P0.2 0 _ rfl
  have p0_1 := P0.2 1 _ rfl
  have p0_2 := P0.2 2 _ rfl
  have p0_3 := P0.2 3 _ rfl
  have p0_s := P0.1
  have p1_0 := P1.2 0 _ rfl
  have p1_1 := P1.2 1 _ rfl
  have p1_2 := P1.2 2 _ rfl
  have p1_3 := P1.2 3 _ rfl
  have p1_s := P1.1
  go_wp2_with fail
  refine (mToTrail x0 All1 [.int .i64 x0.id, .int .i64 x0.stamp, .int .i64 x0.first, .slice a0_0 x0.spans.length k0_0] _ hbk0 (trailR_keeps _ _ _ None1 _ _ (Below.turn (B3s)) none_off (unhide HR0))).mono ?_
  rintro e wx0 ⟨vx0, rfl, yx0, hbx0⟩
  obtain ⟨tx0_0, rfl, ux0_0⟩ := id yx0; obtain ⟨ax0_0, kx0_0, rfl⟩ := ux0_0.form; clear ux0_0
  have hy0 := (trailO_read _ _ _ _ yx0)
  clear yx0
  clear p0_0 p0_1 p0_2 p0_3 p0_s p1_0 p1_1 p1_2 p1_3 p1_s
  have Bx0 := bthen B3s hbx0
  have P0 := P0.keep hbx0
  have P1 := P1.keep hbx0
  clear hbx0
  have hbn0 := bnew wx0 (.cells #[.int .i64 x0.id, .int .i64 x0.stamp, .int .i64 x0.first, .slice ax0_0 x0.spans.length kx0_0] 29)
  have X0 := Held.new wx0 [.int .i64 x0.id, .int .i64 x0.stamp, .int .i64 x0.first, .slice ax0_0 x0.spans.length kx0_0] 29
  have P0n := P0.keep hbn0
  have P1n := P1.keep hbn0
  have hy0 := (trailR_keeps _ _ _ None1 _ _ (Below.turn hbn0) none_off hy0)
  have Bx0n := bthen Bx0 hbn0
  have p0_0 := P0.2 0 _ rfl
  have p0_1 := P0.2 1 _ rfl
  have p0_2 := P0.2 2 _ rfl
  have p0_3 := P0.2 3 _ rfl
  have p0_s := P0.1
  have p1_0 := P1.2 0 _ rfl
  have p1_1 := P1.2 1 _ rfl
  have p1_2 := P1.2 2 _ rfl
  have p1_3 := P1.2 3 _ rfl
  have p1_s := P1.1
  have KK0 := hide (And.intro P0n ( And.intro P1n ( And.intro X0 ( And.intro Bx0n (hy0)))))
  clear P0n P1n X0 hbn0 Bx0n hy0
  go_wp2_with fail
  generalize World.alloc wx0 _ = wy0 at *
  obtain ⟨P0n, P1n, X0, Bx0n, hy0⟩ := unhide KK0
  clear KK0
  clear p0_0 p0_1 p0_2 p0_3 p0_s p1_0 p1_1 p1_2 p1_3 p1_s
  clear P0 P1
  have P0 := P0n
  have P1 := P1n
  clear P0n P1n
  refine (mToTrail x1 All1 [.int .i64 x1.id, .int .i64 x1.stamp, .int .i64 x1.first, .slice a1_0 x1.spans.length k1_0] _ hbk1 (trailR_keeps _ _ _ None1 _ _ (Below.turn (Bx0n)) none_off (unhide HR1))).mono ?_
  rintro e wx1 ⟨vx1, rfl, yx1, hbx1⟩
  obtain ⟨tx1_0, rfl, ux1_0⟩ := id yx1; obtain ⟨ax1_0, kx1_0, rfl⟩ := ux1_0.form; clear ux1_0
  have hy1 := (trailO_read _ _ _ _ yx1)
  clear yx1
  have hy0 := (trailR_keeps _ _ _ None1 _ _ (Below.turn hbx1) none_off hy0)
  have Bx1 := bthen Bx0n hbx1
  have P0 := P0.keep hbx1
  have P1 := P1.keep hbx1
  have X0 := X0.keep hbx1
  clear hbx1
  have hbn1 := bnew wx1 (.cells #[.int .i64 x1.id, .int .i64 x1.stamp, .int .i64 x1.first, .slice ax1_0 x1.spans.length kx1_0] 29)
  have X1 := Held.new wx1 [.int .i64 x1.id, .int .i64 x1.stamp, .int .i64 x1.first, .slice ax1_0 x1.spans.length kx1_0] 29
  have P0n := P0.keep hbn1
  have P1n := P1.keep hbn1
  have X0n := X0.keep hbn1
  have hy0 := (trailR_keeps _ _ _ None1 _ _ (Below.turn hbn1) none_off hy0)
  have hy1 := (trailR_keeps _ _ _ None1 _ _ (Below.turn hbn1) none_off hy1)
  have Bx1n := bthen Bx1 hbn1
  have p0_0 := P0.2 0 _ rfl
  have p0_1 := P0.2 1 _ rfl
  have p0_2 := P0.2 2 _ rfl
  have p0_3 := P0.2 3 _ rfl
  have p0_s := P0.1
  have p1_0 := P1.2 0 _ rfl
  have p1_1 := P1.2 1 _ rfl
  have p1_2 := P1.2 2 _ rfl
  have p1_3 := P1.2 3 _ rfl
  have p1_s := P1.1
  have x0_0 := X0.2 0 _ rfl
  have x0_1 := X0.2 1 _ rfl
  have x0_2 := X0.2 2 _ rfl
  have x0_3 := X0.2 3 _ rfl
  have x0_s := X0.1
  have KK1 := hide (And.intro P0n ( And.intro P1n ( And.intro X0n ( And.intro X1 ( And.intro Bx1n ( And.intro hy0 (hy1)))))))
  clear P0n P1n X0n X1 hbn1 Bx1n hy0 hy1
  go_wp2_with fail
  generalize World.alloc wx1 _ = wy1 at *
  obtain ⟨P0n, P1n, X0n, X1, Bx1n, hy0, hy1⟩ := unhide KK1
  clear KK1
  clear p0_0 p0_1 p0_2 p0_3 p0_s p1_0 p1_1 p1_2 p1_3 p1_s x0_0 x0_1 x0_2 x0_3 x0_s
  clear P0 P1 X0
  have P0 := P0n
  have P1 := P1n
  have X0 := X0n
  clear P0n P1n X0n
  refine (implOlder x0 x1 _ [.int .i64 x0.id, .int .i64 x0.stamp, .int .i64 x0.first, .slice ax0_0 x0.spans.length kx0_0] _ [.int .i64 x1.id, .int .i64 x1.stamp, .int .i64 x1.first, .slice ax1_0 x1.spans.length kx1_0] _ hy0 hbk0 hy1 hbk1).mono ?_
  rintro e wg ⟨rfl, hbg⟩
  have Bg := bthen Bx1n hbg
  have P0 := P0.keep hbg
  have P1 := P1.keep hbg
  have X0 := X0.keep hbg
  have X1 := X1.keep hbg
  have hy0 := (trailR_keeps _ _ _ None1 _ _ (Below.turn hbg) none_off hy0)
  have hy1 := (trailR_keeps _ _ _ None1 _ _ (Below.turn hbg) none_off hy1)
  clear hbg
  have p0_0 := P0.2 0 _ rfl
  have p0_1 := P0.2 1 _ rfl
  have p0_2 := P0.2 2 _ rfl
  have p0_3 := P0.2 3 _ rfl
  have p0_s := P0.1
  have p1_0 := P1.2 0 _ rfl
  have p1_1 := P1.2 1 _ rfl
  have p1_2 := P1.2 2 _ rfl
  have p1_3 := P1.2 3 _ rfl
  have p1_s := P1.1
  have x0_0 := X0.2 0 _ rfl
  have x0_1 := X0.2 1 _ rfl
  have x0_2 := X0.2 2 _ rfl
  have x0_3 := X0.2 3 _ rfl
  have x0_s := X0.1
  have x1_0 := X1.2 0 _ rfl
  have x1_1 := X1.2 1 _ rfl
  have x1_2 := X1.2 2 _ rfl
  have x1_3 := X1.2 3 _ rfl
  have x1_s := X1.1
  go_upto_region 14 with fail
  go_cut [39] from 35 to 38 (fun s wc => s = .bool false ∧ Below wg.heap.size wg wc)
  case first =>
    go_region_with (first
      | (go_at_call 19; refine (mEqTrail x0 _ _ [.int .i64 x0.id, .int .i64 x0.stamp, .int .i64 x0.first, .slice ax0_0 x0.spans.length kx0_0] [.int .i64 x0.id, .int .i64 x0.stamp, .int .i64 x0.first, .slice ae0_0 x0.spans.length ke0_0] _ (trailR_keeps _ _ _ None1 _ _ (Below.turn hbe) none_off hy0) (trailO_read _ _ _ _ ye)).mono ?_; rintro e wf ⟨rfl, hbf'⟩; have hbf := bthen hbe hbf')
      | (go_at_call 17; refine (mToTrail x0 All1 [.int .i64 x0.id, .int .i64 x0.stamp, .int .i64 x0.first, .slice a0_0 x0.spans.length k0_0] _ hbk0 (trailR_keeps _ _ _ None1 _ _ (Below.turn (Bg.drew)) none_off (unhide HR0))).mono ?_; rintro e we ⟨ve, rfl, ye, hbe'⟩
         have hbe : Below wg.heap.size wg we := Below.trans (Below.drew (Below.refl _ _)) hbe'
         obtain ⟨te0_0, rfl, ue0_0⟩ := id ye; obtain ⟨ae0_0, ke0_0, rfl⟩ := ue0_0.form; clear ue0_0
         clear x0_0 x0_1 x0_2 x0_3
         have LX := X0.keep hbe
         have x0_0 := LX.2 0 _ rfl
         have x0_1 := LX.2 1 _ rfl
         have x0_2 := LX.2 2 _ rfl
         have x0_3 := LX.2 3 _ rfl))
    all_goals (go_wp2_with fail; go_meet; exact ⟨rfl, hbf⟩)
  case rest =>
  obtain ⟨rfl, hbc0⟩ := hcut
  clear p0_0 p0_1 p0_2 p0_3 p0_s p1_0 p1_1 p1_2 p1_3 p1_s x0_0 x0_1 x0_2 x0_3 x0_s x1_0 x1_1 x1_2 x1_3 x1_s
  have Bc0 := bthen Bg hbc0
  have P0 := P0.keep hbc0
  have P1 := P1.keep hbc0
  have X0 := X0.keep hbc0
  have X1 := X1.keep hbc0
  have hy1 := (trailR_keeps _ _ _ None1 _ _ (Below.turn hbc0) none_off hy1)
  clear hbc0
  have p0_0 := P0.2 0 _ rfl
  have p0_1 := P0.2 1 _ rfl
  have p0_2 := P0.2 2 _ rfl
  have p0_3 := P0.2 3 _ rfl
  have p0_s := P0.1
  have p1_0 := P1.2 0 _ rfl
  have p1_1 := P1.2 1 _ rfl
  have p1_2 := P1.2 2 _ rfl
  have p1_3 := P1.2 3 _ rfl
  have p1_s := P1.1
  have x0_0 := X0.2 0 _ rfl
  have x0_1 := X0.2 1 _ rfl
  have x0_2 := X0.2 2 _ rfl
  have x0_3 := X0.2 3 _ rfl
  have x0_s := X0.1
  have x1_0 := X1.2 0 _ rfl
  have x1_1 := X1.2 1 _ rfl
  have x1_2 := X1.2 2 _ rfl
  have x1_3 := X1.2 3 _ rfl
  have x1_s := X1.1
  go_upto_region 16 with fail
  go_region_with (first
    | (go_at_call 19; refine (mEqTrail x1 _ _ [.int .i64 x1.id, .int .i64 x1.stamp, .int .i64 x1.first, .slice ax1_0 x1.spans.length kx1_0] [.int .i64 x1.id, .int .i64 x1.stamp, .int .i64 x1.first, .slice ae1_0 x1.spans.length ke1_0] _ (trailR_keeps _ _ _ None1 _ _ (Below.turn hbe) none_off hy1) (trailO_read _ _ _ _ ye)).mono ?_; rintro e wf ⟨rfl, hbf'⟩; have hbf := bthen hbe hbf')
    | (go_at_call 17; refine (mToTrail x1 All1 [.int .i64 x1.id, .int .i64 x1.stamp, .int .i64 x1.first, .slice a1_0 x1.spans.length k1_0] _ hbk1 (trailR_keeps _ _ _ None1 _ _ (Below.turn (Bc0.drew)) none_off (unhide HR1))).mono ?_; rintro e we ⟨ve, rfl, ye, hbe'⟩
       have hbe : Below wc.heap.size wc we := Below.trans (Below.drew (Below.refl _ _)) hbe'
       obtain ⟨te1_0, rfl, ue1_0⟩ := id ye; obtain ⟨ae1_0, ke1_0, rfl⟩ := ue1_0.form; clear ue1_0
       clear x1_0 x1_1 x1_2 x1_3
       have LX := X1.keep hbe
       have x1_0 := LX.2 0 _ rfl
       have x1_1 := LX.2 1 _ rfl
       have x1_2 := LX.2 2 _ rfl
       have x1_3 := LX.2 3 _ rfl))
  all_goals (go_wp2; go_ret; exact ⟨rfl, bthen Bc0 hbf⟩)

set_option maxRecDepth 100000 in
theorem lifted (os : Os) (started : os.Started) (H : Type) (enc : TypeId × Value → H) :
    ReturnsInHanded {} Try.checked os 3 .any (Rows.fnExactOlderSpec.pre6 enc Try.prog Try.f3 Rows.fnExactOlderRow.domain false) (Rows.fnExactOlderSpec.post enc Try.prog Try.f3 false true false false) := by
  refine returnsInHanded_of_change (C := Try.checked) own started (by kernel_rfl) Try.func3
    (ChangeSpec.witness6 (enc := enc) (C := Try.checked) false ⟨#[], #[.agg #[.int .i64 0, .int .i64 0, .int .i64 0, .slice none 0 0], .agg #[.int .i64 0, .int .i64 0, .int .i64 0, .slice none 0 0]], []⟩ 8 (by kernel_rfl) (by kernel_rfl) (by kernel_rfl) (by kernel_rfl)) ?_
  intro W base args ds gs before hval0 hW hcnd _
  have hval : ∀ (j : Nat) t v, Try.f3.params[j]? = some t → args[j]? = some v → Value.okWide Try.prog W .any base t v := hval0
  have hW' := hW
  obtain ⟨p, q, hA0, hV, rfl, hfz, hnd⟩ := hW
  have hA : DataW.TrodAll enc Try.prog W 0 (fun _ => true) true Try.f3.params.toList args.toList ds p := hA0
  rw [Try.params3] at hA hval
  obtain ⟨v0, vs0, d0, ds0, p0, q0, hargs0, rfl, rfl, k0, r0⟩ := trodAll_cons hA
  obtain ⟨v1, vs1, d1, ds1, p1, q1, rfl, rfl, rfl, k1, r1⟩ := trodAll_cons r0
  obtain ⟨rfl, rfl, rfl⟩ := trodAll_nil r1
  obtain rfl : args = #[v0, v1] := by cases args; simp_all
  obtain ⟨rfl, rfl⟩ := trodVars_none hV
  have lt0 : ∀ x ∈ p0, x.block < W.heap.size := by obtain ⟨m, hm⟩ := k0; exact DataW.trod_lt m _ _ _ hm
  have h0 : AtTrail W v0 := openAtTrail (hval 0 _ v0 rfl rfl) k0
  have lt1 : ∀ x ∈ p1, x.block < W.heap.size := by obtain ⟨m, hm⟩ := k1; exact DataW.trod_lt m _ _ _ hm
  have h1 : AtTrail W v1 := openAtTrail (hval 1 _ v1 rfl rfl) k1
  clear hA0 hval0
  refine (walk v0 v1 W h0 h1).mono fun e W' ⟨he, bel⟩ => ?_
  subst he
  exact ⟨_, rfl, _, _, _, [], _, [], hW', trodAll_mk1 (shut_bool Try.underlying4 _), (trodAll_cons_mk (Below.trod laidOut (by kernel_rfl) (of_decide_eq_true (by kernel_rfl)) k0 bel lt0) (trodAll_cons_mk (Below.trod laidOut (by kernel_rfl) (of_decide_eq_true (by kernel_rfl)) k1 bel lt1) trodAll_mk0)), rfl, bel.frame _, fun h => by cases h⟩

theorem over : Rows.fnExactOlderRow.holds Try.pinned (OpenSpec.ofChange Rows.fnExactOlderSpec) :=
  OpenClaim.holds_of_wide 3 Try.f3 rfl rfl rfl rfl rfl rfl rfl ⟨rfl, rfl, rfl, rfl, rfl⟩ rfl rfl rfl rfl rfl (by kernel_rfl) Try.func3 (by kernel_rfl)
    (of_decide_eq_true (by kernel_rfl)) (by unfold Func.isWrapper; first | (rw [if_pos (by decide +kernel)]; kernel_rfl) | (rw [if_neg (by decide +kernel)]; exact ⟨rfl, rfl⟩))
    (fun os started H enc _ => lifted os started H enc)

/-- The statement. -/
theorem proved : Rows.FnExactOlderSaid := over
#print axioms proved
end Go.Proofs.Ytklhljknkcmecaa.fnExactOlder
