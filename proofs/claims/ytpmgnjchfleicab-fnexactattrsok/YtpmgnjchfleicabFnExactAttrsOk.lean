/-
  Proved: at every list of Attrs the program's AttrsOk answers as the specification's, and leaves the list alone; no condition.
-/
import Derived.Test.YtpmgnjchfleicabRows
import Derived.Test.YtpmgnjchfleicabNum
import Derived.Test.YtpmgnjchfleicabArgs
import Derived.Test.YtpmgnjchfleicabStr1
import Derived.Test.YtpmgnjchfleicabAttr
import Derived.Test.YtpmgnjchfleicabAttrs
import Derived.Test.YtpmgnjchfleicabAttrs2
import Derived.Test.YtpmgnjchfleicabAttrsOk
import Derived.Test.YtpmgnjchfleicabAttrsArgs
import Derived.WalkKit
import Derived.ProofKit
import Derived.OpenShut
import Derived.ShutString
import Derived.ChangeOld
import Derived.Below
import Derived.Deep.CutRange
namespace Go.Proofs.Ytpmgnjchfleicab.fnExactAttrsOk
open Go.ChangeShapes Go.WideShapes Go.ChangeAt Go.RowKit
set_option linter.unusedVariables false


theorem laidOut : laidOutB Try.prog = true := by kernel_rfl

set_option maxHeartbeats 4000000 in
theorem walk (v0 : Value) (w : World) (h0 : IsAttrs w v0) :
    Calls Try.prog 7 #[v0] w fun e w' => e = .returned (.bool true) ∧ Below w.heap.size w w' := by
  obtain ⟨l, ha⟩ := h0
  obtain ⟨a, cap, rfl⟩ := ha.form
  go_enter Try.func7, Try.ntmps7
  go_wp2_with fail
  refine (lawSzAttrS l (.slice a l.length cap) 1048576 _ (by omega) (by omega) ha).mono ?_
  rintro e w1 ⟨⟨z, rfl, hz⟩, B1⟩
  have hlen0 : ¬ z < 0 → l.length ≤ 1048576 := by intro h; omega
  have HL := hide hlen0
  clear hz hlen0
  by_cases hneg : z < 0
  · go_wp2
    go_ret
    exact ⟨rfl, B1⟩
  have hlen := unhide HL hneg
  go_wp2_with fail
  refine (lawToAttrS l (.slice a l.length cap) _ hlen (ha.keep B1)).mono ?_
  rintro e w2 ⟨b2, rfl, _, ha2, hb2⟩
  go_wp2_with fail
  refine (specAttrsOk l _ _ ha2).mono ?_
  rintro e w3 ⟨rfl, hb3⟩
  have B3 := bthen (bthen B1 hb2) hb3
  clear hb2 hb3 ha2
  go_wp2_with fail
  refine (lawToAttrS l (.slice a l.length cap) _ hlen (ha.keep B3)).mono ?_
  rintro e w4 ⟨b4, rfl, _, ha4, hb4⟩
  have B4 := bthen B3 hb4
  clear hb4
  go_wp2_with fail
  refine (implAttrsOk l _ _ ha4).mono ?_
  rintro e w6 ⟨rfl, hb6⟩
  have B6 := bthen B4 hb6
  have ha6 := ha4.keep hb6
  clear hb6 ha4
  go_wp2_with fail
  refine (lawToAttrS l (.slice a l.length cap) _ hlen (ha.keep B6)).mono ?_
  rintro e w7 ⟨b7, rfl, _, ha7, hb7⟩
  have B7 := bthen B6 hb7
  have ha67 := ha6.keep hb7
  clear hb7
  go_wp2_with fail
  refine (lawEqAttrS l _ _ _ ha67 ha7).mono ?_
  rintro e w8 ⟨rfl, hb8⟩
  go_wp2
  go_ret
  exact ⟨rfl, bthen B7 hb8⟩

set_option maxRecDepth 100000 in
theorem lifted (os : Os) (started : os.Started) (H : Type) (enc : TypeId × Value → H) :
    ReturnsInHanded {} Try.checked os 7 .any (Rows.fnExactAttrsOkSpec.pre6 enc Try.prog Try.f7 Rows.fnExactAttrsOkRow.domain false) (Rows.fnExactAttrsOkSpec.post enc Try.prog Try.f7 false true false false) := by
  refine returnsInHanded_of_change (C := Try.checked) own started (by kernel_rfl) Try.func7
    (ChangeSpec.witness6 (enc := enc) (C := Try.checked) false ⟨#[], #[.slice none 0 0], []⟩ 8 (by kernel_rfl) (by kernel_rfl) (by kernel_rfl) (by kernel_rfl)) ?_
  intro W base args ds gs before hval0 hW hcnd _
  have hval : ∀ (j : Nat) t v, Try.f7.params[j]? = some t → args[j]? = some v → Value.okWide Try.prog W .any base t v := hval0
  have hW' := hW
  obtain ⟨p, q, hA0, hV, rfl, hfz, hnd⟩ := hW
  have hA : DataW.TrodAll enc Try.prog W 0 (fun _ => true) true Try.f7.params.toList args.toList ds p := hA0
  rw [Try.params7] at hA hval
  obtain ⟨v0, vs0, d0, ds0, p0, q0, hargs0, rfl, rfl, k0, r0⟩ := trodAll_cons hA
  obtain ⟨rfl, rfl, rfl⟩ := trodAll_nil r0
  obtain rfl : args = #[v0] := by cases args; simp_all
  obtain ⟨rfl, rfl⟩ := trodVars_none hV
  have lt0 : ∀ x ∈ p0, x.block < W.heap.size := by obtain ⟨m, hm⟩ := k0; exact DataW.trod_lt m _ _ _ hm
  have h0 : IsAttrs W v0 := openIsAttrs (hval 0 _ v0 rfl rfl) k0
  clear hA0 hval0
  refine (walk v0 W h0).mono fun e W' ⟨he, bel⟩ => ?_
  subst he
  exact ⟨_, rfl, _, _, _, [], _, [], hW', trodAll_mk1 (shut_bool Try.underlying4 _), (trodAll_cons_mk (Below.trod laidOut (by kernel_rfl) (of_decide_eq_true (by kernel_rfl)) k0 bel lt0) trodAll_mk0), rfl, bel.frame _, fun h => by cases h⟩

theorem over : Rows.fnExactAttrsOkRow.holds Try.pinned (OpenSpec.ofChange Rows.fnExactAttrsOkSpec) :=
  OpenClaim.holds_of_wide 7 Try.f7 rfl rfl rfl rfl rfl rfl rfl ⟨rfl, rfl, rfl, rfl, rfl⟩ rfl rfl rfl rfl rfl (by kernel_rfl) Try.func7 (by kernel_rfl)
    (of_decide_eq_true (by kernel_rfl)) (by unfold Func.isWrapper; first | (rw [if_pos (by decide +kernel)]; kernel_rfl) | (rw [if_neg (by decide +kernel)]; exact ⟨rfl, rfl⟩))
    (fun os started H enc _ => lifted os started H enc)

/-- The statement. -/
theorem proved : Rows.FnExactAttrsOkSaid := over
#print axioms proved
end Go.Proofs.Ytpmgnjchfleicab.fnExactAttrsOk
