/-
  Proved: at every list of ints and every int the program's Spread answers as the specification's, leaves the list alone, and its answer owns its memory; no condition.
-/
import Derived.Test.YtpmgnjchfleicadRows
import Derived.Test.YtpmgnjchfleicadNum
import Derived.Test.YtpmgnjchfleicadArgs
import Derived.Test.YtpmgnjchfleicadMix
import Derived.Test.YtpmgnjchfleicadInts
import Derived.Test.YtpmgnjchfleicadIntsArgs
import Derived.Test.YtpmgnjchfleicadSpread
import Derived.WalkKit
import Derived.ProofKit
import Derived.OpenShut
import Derived.ShutString
import Derived.ChangeOld
import Derived.Below
import Derived.Deep.CutRange
namespace Go.Proofs.Ytpmgnjchfleicad.fnExactSpread
open Go.ChangeShapes Go.WideShapes Go.ChangeAt Go.RowKit
set_option linter.unusedVariables false


theorem laidOut : laidOutB Try.prog = true := by kernel_rfl

set_option maxHeartbeats 4000000 in
theorem walk (v0 v1 : Value) (w : World) (h0 : IsInts w v0) (h1 : IsInt w v1) :
    Calls Try.prog 3 #[v0, v1] w fun e w' => e = .returned (.bool true) ∧ Below w.heap.size w w' := by
  obtain ⟨l, ha⟩ := h0
  obtain ⟨n, rfl, _⟩ := h1
  obtain ⟨a, cap, rfl⟩ := ha.form
  by_cases hbig : (1048576 : Int) < (l.length : Int)
  · go_enter Try.func3, Try.ntmps3
    go_wp2
    go_ret
    exact ⟨rfl, Below.refl _ _⟩
  have hlen : l.length ≤ 1048576 := by omega
  have hL3 := spread_len l n
  go_enter Try.func3, Try.ntmps3
  go_wp2_with fail
  refine (lawToIntS l (.slice a l.length cap) w hlen ha).mono ?_
  rintro e w1 ⟨b1, rfl, _, ha1, _, B1⟩
  go_wp2_with fail
  refine (specSpread l _ n _ ha1 hlen).mono ?_
  rintro e w2 ⟨vs, rfl, hs2, hb2⟩
  obtain ⟨asl, caps, rfl⟩ := hs2.form
  have B2 := bthen B1 hb2
  clear hb2 ha1
  generalize hL : spreadL l n = L at *
  have HL := hide hL
  clear hL
  have KS := hide hs2
  go_wp2_with fail
  refine (lawToIntS l (.slice a l.length cap) _ hlen (ha.keep B2)).mono ?_
  rintro e w3 ⟨bx, rfl, hbx, ha3, hr3, hb3⟩
  have B3 := bthen B2 hb3
  go_wp2_with fail
  refine (implSpread l _ n _ ha3 hlen).mono ?_
  rintro e w4 ⟨hg, hb4⟩
  rw [unhide HL] at hg
  obtain ⟨bg, rfl, hbg, hg4, hrg4⟩ := hg
  have B4 := bthen B3 hb4
  have hx4 := ha3.keep hb4
  have hrx4 := hr3.keep hb4
  have hs24 := bthen hb3 hb4
  have hs4 := hs2.keep hs24
  have hbxw3 : bx < w3.heap.size := hr3.1
  have HX := hide (And.intro hbx (And.intro hbxw3 (And.intro hbg (And.intro hrx4 (And.intro hrg4 (And.intro hs24 hx4))))))
  clear ha3 hr3 hb3 hb4 hx4 hrx4 hrg4 hs24 hbx hbxw3 hbg hs2
  go_wp2_with fail
  refine (lawEqIntS L _ _ _ hg4 hs4).mono ?_
  rintro e w5 ⟨rfl, hb5⟩
  obtain ⟨hbx, hbxw3, hbg, hrx4, hrg4, hs24, hx4⟩ := unhide HX
  have B5 := bthen B4 hb5
  have hx5 := hx4.keep hb5
  have hg5 := hg4.keep hb5
  have HX5 := hide (And.intro (hrx4.keep hb5) (And.intro (hrg4.keep hb5) (And.intro (bthen hs24 hb5) (And.intro hg5 (And.intro hbx (And.intro hbxw3 hbg))))))
  clear hx4 hrx4 hrg4 hs24 hg4 hs4 hb5 hg5 hbx hbxw3 hbg
  go_wp2_with fail
  refine (lawToIntS l (.slice a l.length cap) _ hlen (ha.keep B5)).mono ?_
  rintro e w6 ⟨b6, rfl, _, ha6, _, hb6⟩
  have B6 := bthen B5 hb6
  have hx6 := hx5.keep hb6
  clear hx5
  go_wp2_with fail
  refine (lawEqIntS l _ _ _ hx6 ha6).mono ?_
  rintro e w7 ⟨rfl, hb7⟩
  have B7 := bthen B6 hb7
  obtain ⟨hrx5, hrg5, hs25, hg5, hbx, hbxw3, hbg⟩ := unhide HX5
  have h57 := bthen hb6 hb7
  have hrx7 := hrx5.keep h57
  have hrg7 := hrg5.keep h57
  have hs27 := bthen hs25 h57
  have hg7 := hg5.keep h57
  clear hrx5 hrg5 hs25 hg5 h57 hb6 hb7 hx6 ha6
  go_wp2_with fail
  refine (lawMarkIntS bx l.length 1 _ (by omega) (by omega) hlen hrx7).mono ?_
  rintro e w8 ⟨rfl, ho8, hrx8, _⟩
  have hne : bg ≠ bx := by omega
  have hs8 := (unhide KS).only hs27 hbx ho8
  have hg8 := hg7.other hne ho8
  have hrg8 := hrg7.other (by omega) ho8
  have hwx : w.heap.size ≤ bx := Nat.le_trans B2.size hbx
  have B8 : Below w.heap.size w w8 := B7.trans (ho8.1.mono hwx)
  have h28 : Below w2.heap.size w2 w8 := hs27.trans (ho8.1.mono hbx)
  have hk : ¬ (1 : Int) + (l.length : Int) < 0 := by omega
  have HY := hide (And.intro hrg8 (And.intro h28 hg8))
  clear hrg8 h28 hrx7 hrg7 hs27 hg7 ho8 hrx8
  go_wp2_with fail
  refine (lawEqIntS L _ _ _ hg8 hs8).mono ?_
  rintro e w9 ⟨rfl, hb9⟩
  obtain ⟨hrg8, h28, _⟩ := unhide HY
  have B9 := bthen B8 hb9
  have hrg9 := hrg8.keep hb9
  have h29 := bthen h28 hb9
  clear hrg8 h28 hb9 hg8 hs8
  go_wp2_with fail
  refine (lawMarkIntS bg L.length 1 _ (by omega) (by omega) (by omega) hrg9).mono ?_
  rintro e w10 ⟨rfl, ho10, hrg10, hm10⟩
  have hwg : w.heap.size ≤ bg := by omega
  have h2g : w2.heap.size ≤ bg := by omega
  have B10 : Below w.heap.size w w10 := B9.trans (ho10.1.mono hwg)
  have hs10 := (unhide KS).only h29 h2g ho10
  clear ho10 h29 hrg9
  go_wp2_with fail
  refine (lawHeldIntS bg L.length 1 _ (by omega) (by omega) (by omega) hm10).mono ?_
  rintro e w10' ⟨rfl, rfl⟩
  have hq : ¬ (1 : Int) + (L.length : Int) < 0 := by omega
  go_wp2_with fail
  refine (lawToIntS l (.slice a l.length cap) _ hlen (ha.keep B10)).mono ?_
  rintro e w11 ⟨b11, rfl, _, ha11, _, hb11⟩
  have B11 := bthen B10 hb11
  go_wp2_with fail
  refine (implSpread l _ n _ ha11 hlen).mono ?_
  rintro e w12 ⟨hg, hb12⟩
  rw [unhide HL] at hg
  obtain ⟨bh, rfl, _, hh12, _⟩ := hg
  have h1012 := bthen hb11 hb12
  have B12 := bthen B11 hb12
  have hs12 := hs10.keep h1012
  go_wp2_with fail
  refine (lawEqIntS L _ _ _ hh12 hs12).mono ?_
  rintro e w13 ⟨rfl, hb13⟩
  have B13 := bthen B12 hb13
  have h1013 := bthen h1012 hb13
  have hm13 : ∀ j, j < L.length → w13.cell? ⟨bg, j, none⟩ = some (.int .i64 (1 + j)) := fun j hj => by rw [h1013.cell hrg10.1]; exact hm10 j hj
  clear hh12 hs12 hs10 ha11 hm10
  go_wp2_with fail
  refine (lawHeldIntS bg L.length 1 _ (by omega) (by omega) (by omega) hm13).mono ?_
  rintro e w14 ⟨rfl, rfl⟩
  go_wp2
  go_ret
  exact ⟨rfl, B13⟩

set_option maxRecDepth 100000 in
theorem lifted (os : Os) (started : os.Started) (H : Type) (enc : TypeId × Value → H) :
    ReturnsInHanded {} Try.checked os 3 .any (Rows.fnExactSpreadSpec.pre6 enc Try.prog Try.f3 Rows.fnExactSpreadRow.domain false) (Rows.fnExactSpreadSpec.post enc Try.prog Try.f3 false true false false) := by
  refine returnsInHanded_of_change (C := Try.checked) own started (by kernel_rfl) Try.func3
    (ChangeSpec.witness6 (enc := enc) (C := Try.checked) false ⟨#[], #[.slice none 0 0, .int .i64 0], []⟩ 8 (by kernel_rfl) (by kernel_rfl) (by kernel_rfl) (by kernel_rfl)) ?_
  intro W base args ds gs before hval0 hW hcnd _
  have hval : ∀ (j : Nat) t v, Try.f3.params[j]? = some t → args[j]? = some v → Value.okWide Try.prog W .any base t v := hval0
  have hW' := hW
  obtain ⟨p, q, hA0, hV, rfl, hfz, hnd⟩ := hW
  have hA : DataW.TrodAll enc Try.prog W 0 (fun _ => true) true Try.f3.params.toList args.toList ds p := hA0
  rw [Try.params3] at hA hval
  obtain ⟨v0, vs0, d0, ds0, p0, q0, hargs0, rfl, rfl, k0, r0⟩ := trodAll_cons hA
  obtain ⟨v1, vs1, d1, ds1, p1, q1, rfl, rfl, rfl, k1, r1⟩ := trodAll_cons r0
  obtain ⟨rfl, rfl, rfl⟩ := trodAll_nil r1
  obtain rfl : args = #[v0, v1] := by cases args; simp_all
  obtain ⟨rfl, rfl⟩ := trodVars_none hV
  have lt0 : ∀ x ∈ p0, x.block < W.heap.size := by obtain ⟨m, hm⟩ := k0; exact DataW.trod_lt m _ _ _ hm
  have h0 : IsInts W v0 := openIsInts (hval 0 _ v0 rfl rfl) k0
  have lt1 : ∀ x ∈ p1, x.block < W.heap.size := by obtain ⟨m, hm⟩ := k1; exact DataW.trod_lt m _ _ _ hm
  have h1 : IsInt W v1 := openIsInt (hval 1 _ v1 rfl rfl) k1
  clear hA0 hval0
  refine (walk v0 v1 W h0 h1).mono fun e W' ⟨he, bel⟩ => ?_
  subst he
  exact ⟨_, rfl, _, _, _, [], _, [], hW', trodAll_mk1 (shut_bool Try.underlying4 _), (trodAll_cons_mk (Below.trod laidOut (by kernel_rfl) (of_decide_eq_true (by kernel_rfl)) k0 bel lt0) (trodAll_cons_mk (Below.trod laidOut (by kernel_rfl) (of_decide_eq_true (by kernel_rfl)) k1 bel lt1) trodAll_mk0)), rfl, bel.frame _, fun h => by cases h⟩

theorem over : Rows.fnExactSpreadRow.holds Try.pinned (OpenSpec.ofChange Rows.fnExactSpreadSpec) :=
  OpenClaim.holds_of_wide 3 Try.f3 rfl rfl rfl rfl rfl rfl rfl ⟨rfl, rfl, rfl, rfl, rfl⟩ rfl rfl rfl rfl rfl (by kernel_rfl) Try.func3 (by kernel_rfl)
    (of_decide_eq_true (by kernel_rfl)) (by unfold Func.isWrapper; first | (rw [if_pos (by decide +kernel)]; kernel_rfl) | (rw [if_neg (by decide +kernel)]; exact ⟨rfl, rfl⟩))
    (fun os started H enc _ => lifted os started H enc)

/-- The statement. -/
theorem proved : Rows.FnExactSpreadSaid := over
#print axioms proved
end Go.Proofs.Ytpmgnjchfleicad.fnExactSpread
