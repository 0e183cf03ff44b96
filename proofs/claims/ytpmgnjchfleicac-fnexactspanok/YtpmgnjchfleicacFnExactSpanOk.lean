/-
  Proved: at every thing the program's SpanOk answers as the specification's, and leaves the thing alone; no condition.
-/
import Derived.Test.YtpmgnjchfleicacRows
import Derived.Test.YtpmgnjchfleicacNum
import Derived.Test.YtpmgnjchfleicacArgs
import Derived.Test.YtpmgnjchfleicacStr1
import Derived.Test.YtpmgnjchfleicacAttr
import Derived.Test.YtpmgnjchfleicacAttrSize
import Derived.Test.YtpmgnjchfleicacAttrs
import Derived.Test.YtpmgnjchfleicacAttrs2
import Derived.Test.YtpmgnjchfleicacSpan
import Derived.Test.YtpmgnjchfleicacSizeOf
import Derived.Test.YtpmgnjchfleicacAttrsOk
import Derived.Test.YtpmgnjchfleicacSpanOk
import Derived.Test.YtpmgnjchfleicacAttrsArgs
import Derived.WalkKit
import Derived.ProofKit
import Derived.OpenShut
import Derived.ShutString
import Derived.ChangeOld
import Derived.Below
import Derived.Deep.CutRange
namespace Go.Proofs.Ytpmgnjchfleicac.fnExactSpanOk
open Go.ChangeShapes Go.WideShapes Go.ChangeAt Go.RowKit
set_option linter.unusedVariables false


theorem laidOut : laidOutB Try.prog = true := by kernel_rfl

set_option maxHeartbeats 4000000 in
theorem walk (v0 : Value) (w : World) (h0 : IsSpan w v0) :
    Calls Try.prog 4 #[v0] w fun e w' => e = .returned (.bool true) ∧ Below w.heap.size w w' := by
  obtain ⟨tr, id, st, en, er, l, sl, rfl, ha⟩ := h0
  obtain ⟨a, cap, rfl⟩ := ha.form
  have H0 := Held6.new w (.int .i64 tr) (.int .i64 id) (.int .i64 st) (.int .i64 en) (.bool er) (.slice a l.length cap) 24
  go_enter Try.func4, Try.ntmps4
  go_wp2_with fail
  refine (lawSzSpan tr id st en er l (.slice a l.length cap) 1048576 _ (by omega) (by omega) (ha.keep (bnew _ _))).mono ?_
  rintro e w1 ⟨⟨z, rfl, hz⟩, hb1⟩
  have hlen0 : ¬ z < 0 → l.length ≤ 1048576 ∧ bytesA l ≤ 1048576 := by intro h; constructor <;> omega
  have HL := hide hlen0
  clear hz hlen0
  by_cases hneg : z < 0
  · go_wp2
    go_ret
    exact ⟨rfl, bthen (bnew _ _) hb1⟩
  obtain ⟨hlen, hby⟩ := unhide HL hneg
  have B1 := bthen (bnew _ _) hb1
  have H1 := H0.keep hb1
  clear hb1
  have K1 := hide H1
  obtain ⟨_, c0, c1, c2, c3, c4, c5⟩ := H1
  go_wp2_with fail
  refine (lawToSpan tr id st en er l (.slice a l.length cap) _ hlen (ha.keep B1)).mono ?_
  rintro e w2 ⟨b2, rfl, _, ha2, hb2⟩
  go_wp2_with fail
  refine (specSpanOk tr id st en er l _ _ ha2 hlen hby).mono ?_
  rintro e w3 ⟨rfl, hb3⟩
  have B3 := bthen (bthen B1 hb2) hb3
  have H3 := ((unhide K1).keep hb2).keep hb3
  clear c0 c1 c2 c3 c4 c5 hb2 hb3 ha2
  have K3 := hide H3
  obtain ⟨_, c0, c1, c2, c3, c4, c5⟩ := H3
  go_wp2_with fail
  refine (lawToSpan tr id st en er l (.slice a l.length cap) _ hlen (ha.keep B3)).mono ?_
  rintro e w4 ⟨b4, rfl, _, ha4, hb4⟩
  have B4 := bthen B3 hb4
  have H4 := (unhide K3).keep hb4
  clear c0 c1 c2 c3 c4 c5 hb4
  go_wp2_with fail
  have X5 := Held6.new w4 (.int .i64 tr) (.int .i64 id) (.int .i64 st) (.int .i64 en) (.bool er) (.slice (some ⟨b4, 0, none⟩) l.length l.length) 29
  refine (implSpanOk tr id st en er l _ _ (ha4.keep (bnew _ _)) hlen hby).mono ?_
  rintro e w6 ⟨rfl, hb6⟩
  have B6 := bthen (bthen B4 (bnew _ _)) hb6
  have H6 := (H4.keep (bnew _ _)).keep hb6
  have X6 := X5.keep hb6
  have ha6 := (ha4.keep (bnew _ _)).keep hb6
  clear hb6 X5 H4 ha4
  have KH6 := hide H6
  have KX6 := hide X6
  obtain ⟨_, c0, c1, c2, c3, c4, c5⟩ := H6
  obtain ⟨_, x0, x1, x2, x3, x4, x5⟩ := X6
  go_wp2_with fail
  go_region_with (first
    | (go_at_call 11; refine (lawToSpan tr id st en er l (.slice a l.length cap) _ hlen (ha.keep (B6.drew))).mono ?_; rintro e w7 ⟨b7, rfl, _, ha7, hb7'⟩
       have hb7 : Below w6.heap.size w6 w7 := Below.trans (Below.drew (Below.refl _ _)) hb7'
       clear hb7'
       obtain ⟨_, x0, x1, x2, x3, x4, x5⟩ := (unhide KX6).keep hb7)
    | (go_at_call 13; refine (lawEqSpan tr id st en er l _ _ _ (ha6.keep hb7) ha7).mono ?_; rintro e w8 ⟨rfl, hb8⟩))
  all_goals (go_wp2; go_ret; exact ⟨rfl, bthen (bthen B6 hb7) hb8⟩)

set_option maxRecDepth 100000 in
theorem lifted (os : Os) (started : os.Started) (H : Type) (enc : TypeId × Value → H) :
    ReturnsInHanded {} Try.checked os 4 .any (Rows.fnExactSpanOkSpec.pre6 enc Try.prog Try.f4 Rows.fnExactSpanOkRow.domain false) (Rows.fnExactSpanOkSpec.post enc Try.prog Try.f4 false true false false) := by
  refine returnsInHanded_of_change (C := Try.checked) own started (by kernel_rfl) Try.func4
    (ChangeSpec.witness6 (enc := enc) (C := Try.checked) false ⟨#[], #[.agg #[.int .i64 0, .int .i64 0, .int .i64 0, .int .i64 0, .bool false, .slice none 0 0]], []⟩ 8 (by kernel_rfl) (by kernel_rfl) (by kernel_rfl) (by kernel_rfl)) ?_
  intro W base args ds gs before hval0 hW hcnd _
  have hval : ∀ (j : Nat) t v, Try.f4.params[j]? = some t → args[j]? = some v → Value.okWide Try.prog W .any base t v := hval0
  have hW' := hW
  obtain ⟨p, q, hA0, hV, rfl, hfz, hnd⟩ := hW
  have hA : DataW.TrodAll enc Try.prog W 0 (fun _ => true) true Try.f4.params.toList args.toList ds p := hA0
  rw [Try.params4] at hA hval
  obtain ⟨v0, vs0, d0, ds0, p0, q0, hargs0, rfl, rfl, k0, r0⟩ := trodAll_cons hA
  obtain ⟨rfl, rfl, rfl⟩ := trodAll_nil r0
  obtain rfl : args = #[v0] := by cases args; simp_all
  obtain ⟨rfl, rfl⟩ := trodVars_none hV
  have lt0 : ∀ x ∈ p0, x.block < W.heap.size := by obtain ⟨m, hm⟩ := k0; exact DataW.trod_lt m _ _ _ hm
  have h0 : IsSpan W v0 := openIsSpan (hval 0 _ v0 rfl rfl) k0
  clear hA0 hval0
  refine (walk v0 W h0).mono fun e W' ⟨he, bel⟩ => ?_
  subst he
  exact ⟨_, rfl, _, _, _, [], _, [], hW', trodAll_mk1 (shut_bool Try.underlying4 _), (trodAll_cons_mk (Below.trod laidOut (by kernel_rfl) (of_decide_eq_true (by kernel_rfl)) k0 bel lt0) trodAll_mk0), rfl, bel.frame _, fun h => by cases h⟩

theorem over : Rows.fnExactSpanOkRow.holds Try.pinned (OpenSpec.ofChange Rows.fnExactSpanOkSpec) :=
  OpenClaim.holds_of_wide 4 Try.f4 rfl rfl rfl rfl rfl rfl rfl ⟨rfl, rfl, rfl, rfl, rfl⟩ rfl rfl rfl rfl rfl (by kernel_rfl) Try.func4 (by kernel_rfl)
    (of_decide_eq_true (by kernel_rfl)) (by unfold Func.isWrapper; first | (rw [if_pos (by decide +kernel)]; kernel_rfl) | (rw [if_neg (by decide +kernel)]; exact ⟨rfl, rfl⟩))
    (fun os started H enc _ => lifted os started H enc)

/-- The statement. -/
theorem proved : Rows.FnExactSpanOkSaid := over
#print axioms proved
end Go.Proofs.Ytpmgnjchfleicac.fnExactSpanOk
