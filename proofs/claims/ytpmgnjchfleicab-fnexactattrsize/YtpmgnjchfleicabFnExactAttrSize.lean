/-
  Proved: at every Attr the program's AttrSize answers as the specification's; no condition.
-/
import Derived.Test.YtpmgnjchfleicabRows
import Derived.Test.YtpmgnjchfleicabNum
import Derived.Test.YtpmgnjchfleicabArgs
import Derived.Test.YtpmgnjchfleicabStr1
import Derived.Test.YtpmgnjchfleicabAttr
import Derived.Test.YtpmgnjchfleicabAttrSize
import Derived.WalkKit
import Derived.ProofKit
import Derived.OpenShut
import Derived.ShutString
import Derived.ChangeOld
import Derived.Below
namespace Go.Proofs.Ytpmgnjchfleicab.fnExactAttrSize
open Go.ChangeShapes Go.WideShapes Go.ChangeAt Go.RowKit
set_option linter.unusedVariables false


theorem laidOut : laidOutB Try.prog = true := by kernel_rfl

theorem walk (v0 : Value) (w : World) (h0 : IsAttr w v0) :
    Calls Try.prog 5 #[v0] w fun e w' => e = .returned (.bool true) ∧ Below w.heap.size w w' := by
  obtain ⟨k, b, n, t, rfl, hk, ht, _⟩ := h0
  by_cases hneg : szv 1048576 k t < 0
  case pos =>
    go_enter Try.func5, Try.ntmps5
    go_wp2_with fail
    refine (lawSzAttr k b n t _ _ (by omega) (by omega) hk ht).mono ?_
    rintro e w1 ⟨rfl, rfl⟩
    generalize szv 1048576 k t = z at *
    go_wp2
    go_ret
    exact ⟨rfl, by (repeat (first | assumption | exact Below.refl _ _ | refine Below.drew ?_ | refine bdrewN ?_ _ | (refine Below.alloc ?_ (by simp [go_sem] <;> omega) _) | (refine Below.setCell ?_ (by simp [go_sem] <;> omega) _)))⟩
  go_enter Try.func5, Try.ntmps5
  go_wp2_with fail
  refine (lawSzAttr k b n t _ _ (by omega) (by omega) hk ht).mono ?_
  rintro e w1 ⟨rfl, rfl⟩
  have hsz : (k.size : Int) ≤ 1048576 ∧ (t.size : Int) ≤ 1048576 := by
    unfold szv at hneg
    by_cases h1 : (1048576 : Int) < k.size
    · rw [if_pos h1] at hneg; omega
    · rw [if_neg h1] at hneg
      by_cases h2 : (1048576 : Int) - k.size < t.size
      · rw [if_pos h2] at hneg; omega
      · omega
  obtain ⟨hk1, ht1⟩ := hsz
  generalize szv 1048576 k t = z at *
  go_wp2_with fail
  refine (lawToAttr k b n t _).mono ?_
  rintro e w1 ⟨rfl, rfl⟩
  go_wp2_with fail
  refine (specAttrSize k b n t _ (by omega) (by omega)).mono ?_
  rintro e w2 ⟨rfl, hb2⟩
  have c0 : w2.cell? ⟨w.heap.size, 0, none⟩ = some (.string k) := by rw [hb2.cell (by simp [go_sem] <;> omega)]; simp [go_sem]
  have c1 : w2.cell? ⟨w.heap.size, 1, none⟩ = some (.bool b) := by rw [hb2.cell (by simp [go_sem] <;> omega)]; simp [go_sem]
  have c2 : w2.cell? ⟨w.heap.size, 2, none⟩ = some (.int .i64 n) := by rw [hb2.cell (by simp [go_sem] <;> omega)]; simp [go_sem]
  have c3 : w2.cell? ⟨w.heap.size, 3, none⟩ = some (.string t) := by rw [hb2.cell (by simp [go_sem] <;> omega)]; simp [go_sem]
  have B : Below w.heap.size w w2 := bthen (by (repeat (first | assumption | exact Below.refl _ _ | refine Below.drew ?_ | refine bdrewN ?_ _ | (refine Below.alloc ?_ (by simp [go_sem] <;> omega) _) | (refine Below.setCell ?_ (by simp [go_sem] <;> omega) _)))) hb2
  clear hb2
  go_wp2_with fail
  refine (lawToAttr k b n t _).mono ?_
  rintro e w1 ⟨rfl, rfl⟩
  go_wp2_with fail
  refine (implAttrSize k b n t _ (by omega) (by omega)).mono ?_
  rintro e w1 ⟨rfl, hb⟩
  go_wp2
  go_ret
  exact ⟨rfl, bthen (bthen B (by (repeat (first | assumption | exact Below.refl _ _ | refine Below.drew ?_ | refine bdrewN ?_ _ | (refine Below.alloc ?_ (by simp [go_sem] <;> omega) _) | (refine Below.setCell ?_ (by simp [go_sem] <;> omega) _))))) hb⟩

set_option maxRecDepth 100000 in
theorem lifted (os : Os) (started : os.Started) (H : Type) (enc : TypeId × Value → H) :
    ReturnsInHanded {} Try.checked os 5 .any (Rows.fnExactAttrSizeSpec.pre6 enc Try.prog Try.f5 Rows.fnExactAttrSizeRow.domain false) (Rows.fnExactAttrSizeSpec.post enc Try.prog Try.f5 false true false false) := by
  refine returnsInHanded_of_change (C := Try.checked) own started (by kernel_rfl) Try.func5
    (ChangeSpec.witness6 (enc := enc) (C := Try.checked) false ⟨#[], #[.agg #[.string ⟨#[]⟩, .bool false, .int .i64 0, .string ⟨#[]⟩]], []⟩ 8 (by kernel_rfl) (by kernel_rfl) (by kernel_rfl) (by kernel_rfl)) ?_
  intro W base args ds gs before hval0 hW hcnd _
  have hval : ∀ (j : Nat) t v, Try.f5.params[j]? = some t → args[j]? = some v → Value.okWide Try.prog W .any base t v := hval0
  have hW' := hW
  obtain ⟨p, q, hA0, hV, rfl, hfz, hnd⟩ := hW
  have hA : DataW.TrodAll enc Try.prog W 0 (fun _ => true) true Try.f5.params.toList args.toList ds p := hA0
  rw [Try.params5] at hA hval
  obtain ⟨v0, vs0, d0, ds0, p0, q0, hargs0, rfl, rfl, k0, r0⟩ := trodAll_cons hA
  obtain ⟨rfl, rfl, rfl⟩ := trodAll_nil r0
  obtain rfl : args = #[v0] := by cases args; simp_all
  obtain ⟨rfl, rfl⟩ := trodVars_none hV
  have lt0 : ∀ x ∈ p0, x.block < W.heap.size := by obtain ⟨m, hm⟩ := k0; exact DataW.trod_lt m _ _ _ hm
  have h0 : IsAttr W v0 := openIsAttr (hval 0 _ v0 rfl rfl) k0
  clear hA0 hval0
  refine (walk v0 W h0).mono fun e W' ⟨he, bel⟩ => ?_
  subst he
  exact ⟨_, rfl, _, _, _, [], _, [], hW', trodAll_mk1 (shut_bool Try.underlying4 _), (trodAll_cons_mk (Below.trod laidOut (by kernel_rfl) (of_decide_eq_true (by kernel_rfl)) k0 bel lt0) trodAll_mk0), rfl, bel.frame _, fun h => by cases h⟩

theorem over : Rows.fnExactAttrSizeRow.holds Try.pinned (OpenSpec.ofChange Rows.fnExactAttrSizeSpec) :=
  OpenClaim.holds_of_wide 5 Try.f5 rfl rfl rfl rfl rfl rfl rfl ⟨rfl, rfl, rfl, rfl, rfl⟩ rfl rfl rfl rfl rfl (by kernel_rfl) Try.func5 (by kernel_rfl)
    (of_decide_eq_true (by kernel_rfl)) (by unfold Func.isWrapper; first | (rw [if_pos (by decide +kernel)]; kernel_rfl) | (rw [if_neg (by decide +kernel)]; exact ⟨rfl, rfl⟩))
    (fun os started H enc _ => lifted os started H enc)

/-- The statement. -/
theorem proved : Rows.FnExactAttrSizeSaid := over
#print axioms proved
end Go.Proofs.Ytpmgnjchfleicab.fnExactAttrSize
