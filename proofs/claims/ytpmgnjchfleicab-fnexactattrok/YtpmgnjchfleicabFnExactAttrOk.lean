/-
  Proved: at every Attr the program's AttrOk answers as the specification's; no condition.
-/
import Derived.Test.YtpmgnjchfleicabRows
import Derived.Test.YtpmgnjchfleicabNum
import Derived.Test.YtpmgnjchfleicabArgs
import Derived.Test.YtpmgnjchfleicabStr1
import Derived.Test.YtpmgnjchfleicabAttr
import Derived.WalkKit
import Derived.ProofKit
import Derived.OpenShut
import Derived.ShutString
import Derived.ChangeOld
import Derived.Below
namespace Go.Proofs.Ytpmgnjchfleicab.fnExactAttrOk
open Go.ChangeShapes Go.WideShapes Go.ChangeAt Go.RowKit
set_option linter.unusedVariables false


theorem laidOut : laidOutB Try.prog = true := by kernel_rfl

theorem walk (v0 : Value) (w : World) (h0 : IsAttr w v0) :
    Calls Try.prog 4 #[v0] w fun e w' => e = .returned (.bool true) ∧ Below w.heap.size w w' := by
  obtain ⟨k, b, n, t, rfl, hk, ht, _⟩ := h0
  by_cases hneg : szv 1048576 k t < 0
  case pos =>
    go_enter Try.func4, Try.ntmps4
    go_wp2_with fail
    refine (lawSzAttr k b n t _ _ (by omega) (by omega) hk ht).mono ?_
    rintro e w1 ⟨rfl, rfl⟩
    generalize szv 1048576 k t = z at *
    go_wp2
    go_ret
    exact ⟨rfl, by (repeat (first | assumption | exact Below.refl _ _ | refine Below.drew ?_ | refine bdrewN ?_ _ | (refine Below.alloc ?_ (by simp [go_sem] <;> omega) _) | (refine Below.setCell ?_ (by simp [go_sem] <;> omega) _)))⟩
  go_enter Try.func4, Try.ntmps4
  go_wp2_with fail
  refine (lawSzAttr k b n t _ _ (by omega) (by omega) hk ht).mono ?_
  rintro e w1 ⟨rfl, rfl⟩
  generalize szv 1048576 k t = z at *
  go_wp2_with fail
  refine (lawToAttr k b n t _).mono ?_
  rintro e w1 ⟨rfl, rfl⟩
  go_wp2_with fail
  refine (specAttrOk k b n t _ hk ht).mono ?_
  rintro e w1 ⟨rfl, rfl⟩
  go_wp2_with fail
  refine (lawToAttr k b n t _).mono ?_
  rintro e w1 ⟨rfl, rfl⟩
  go_wp2_with fail
  refine (implAttrOk k b n t _ hk ht).mono ?_
  rintro e w1 ⟨rfl, hb⟩
  go_wp2
  go_ret
  exact ⟨rfl, bthen (by (repeat (first | assumption | exact Below.refl _ _ | refine Below.drew ?_ | refine bdrewN ?_ _ | (refine Below.alloc ?_ (by simp [go_sem] <;> omega) _) | (refine Below.setCell ?_ (by simp [go_sem] <;> omega) _)))) hb⟩

set_option maxRecDepth 100000 in
theorem lifted (os : Os) (started : os.Started) (H : Type) (enc : TypeId × Value → H) :
    ReturnsInHanded {} Try.checked os 4 .any (Rows.fnExactAttrOkSpec.pre6 enc Try.prog Try.f4 Rows.fnExactAttrOkRow.domain false) (Rows.fnExactAttrOkSpec.post enc Try.prog Try.f4 false true false false) := by
  refine returnsInHanded_of_change (C := Try.checked) own started (by kernel_rfl) Try.func4
    (ChangeSpec.witness6 (enc := enc) (C := Try.checked) false ⟨#[], #[.agg #[.string ⟨#[]⟩, .bool false, .int .i64 0, .string ⟨#[]⟩]], []⟩ 8 (by kernel_rfl) (by kernel_rfl) (by kernel_rfl) (by kernel_rfl)) ?_
  intro W base args ds gs before hval0 hW hcnd _
  have hval : ∀ (j : Nat) t v, Try.f4.params[j]? = some t → args[j]? = some v → Value.okWide Try.prog W .any base t v := hval0
  have hW' := hW
  obtain ⟨p, q, hA0, hV, rfl, hfz, hnd⟩ := hW
  have hA : DataW.TrodAll enc Try.prog W 0 (fun _ => true) true Try.f4.params.toList args.toList ds p := hA0
  rw [Try.params4] at hA hval
  obtain ⟨v0, vs0, d0, ds0, p0, q0, hargs0, rfl, rfl, k0, r0⟩ := trodAll_cons hA
  obtain ⟨rfl, rfl, rfl⟩ := trodAll_nil r0
  obtain rfl : args = #[v0] := by cases args; simp_all
  obtain ⟨rfl, rfl⟩ := trodVars_none hV
  have lt0 : ∀ x ∈ p0, x.block < W.heap.size := by obtain ⟨m, hm⟩ := k0; exact DataW.trod_lt m _ _ _ hm
  have h0 : IsAttr W v0 := openIsAttr (hval 0 _ v0 rfl rfl) k0
  clear hA0 hval0
  refine (walk v0 W h0).mono fun e W' ⟨he, bel⟩ => ?_
  subst he
  exact ⟨_, rfl, _, _, _, [], _, [], hW', trodAll_mk1 (shut_bool Try.underlying4 _), (trodAll_cons_mk (Below.trod laidOut (by kernel_rfl) (of_decide_eq_true (by kernel_rfl)) k0 bel lt0) trodAll_mk0), rfl, bel.frame _, fun h => by cases h⟩

theorem over : Rows.fnExactAttrOkRow.holds Try.pinned (OpenSpec.ofChange Rows.fnExactAttrOkSpec) :=
  OpenClaim.holds_of_wide 4 Try.f4 rfl rfl rfl rfl rfl rfl rfl ⟨rfl, rfl, rfl, rfl, rfl⟩ rfl rfl rfl rfl rfl (by kernel_rfl) Try.func4 (by kernel_rfl)
    (of_decide_eq_true (by kernel_rfl)) (by unfold Func.isWrapper; first | (rw [if_pos (by decide +kernel)]; kernel_rfl) | (rw [if_neg (by decide +kernel)]; exact ⟨rfl, rfl⟩))
    (fun os started H enc _ => lifted os started H enc)

/-- The statement. -/
theorem proved : Rows.FnExactAttrOkSaid := over
#print axioms proved
end Go.Proofs.Ytpmgnjchfleicab.fnExactAttrOk
