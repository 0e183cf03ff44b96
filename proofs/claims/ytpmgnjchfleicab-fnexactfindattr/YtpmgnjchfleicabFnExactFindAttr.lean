/-
  Proved: at every list of Attrs and every key the program's FindAttr answers as the specification's, every field, and leaves its list alone; no condition.
-/
import Derived.Test.YtpmgnjchfleicabRows
import Derived.Test.YtpmgnjchfleicabNum
import Derived.Test.YtpmgnjchfleicabArgs
import Derived.Test.YtpmgnjchfleicabStr1
import Derived.Test.YtpmgnjchfleicabAttr
import Derived.Test.YtpmgnjchfleicabAttrs
import Derived.Test.YtpmgnjchfleicabAttrs2
import Derived.Test.YtpmgnjchfleicabAttrsArgs
import Derived.WalkKit
import Derived.ProofKit
import Derived.OpenShut
import Derived.ShutString
import Derived.ChangeOld
import Derived.Below
namespace Go.Proofs.Ytpmgnjchfleicab.fnExactFindAttr
open Go.ChangeShapes Go.WideShapes Go.ChangeAt Go.RowKit
set_option linter.unusedVariables false


theorem laidOut : laidOutB Try.prog = true := by kernel_rfl

set_option maxHeartbeats 4000000 in
theorem walk (v0 v1 : Value) (w : World) (h0 : IsAttrs w v0) (h1 : IsStr w v1) :
    Calls Try.prog 8 #[v0, v1] w fun e w' => e = .returned (.bool true) ∧ Below w.heap.size w w' := by
  obtain ⟨l, ha⟩ := h0
  obtain ⟨key, rfl, hkey⟩ := h1
  obtain ⟨a, cap, rfl⟩ := ha.form
  by_cases hbig : 1048576 < key.size
  · have hbig' : (1048576 : Int) < (key.size : Int) := by omega
    go_enter Try.func8, Try.ntmps8
    go_wp2
    go_ret
    exact ⟨rfl, Below.refl _ _⟩
  have hbig' : ¬ (1048576 : Int) < (key.size : Int) := by omega
  go_enter Try.func8, Try.ntmps8
  go_wp2_with fail
  refine (lawSzAttrS l (.slice a l.length cap) 1048576 w (by omega) (by omega) ha).mono ?_
  intro e w1 hpost
  obtain ⟨⟨z, he, hz⟩, hb1⟩ := hpost
  subst he
  have hlen0 : ¬ z < 0 → l.length ≤ 1048576 := by intro h; omega
  have HL := hide hlen0
  clear hz hlen0
  by_cases hneg : z < 0
  · go_wp2
    go_ret
    exact ⟨rfl, hb1⟩
  have hlen := unhide HL hneg
  go_wp2_with fail
  refine (lawToAttrS l (.slice a l.length cap) _ hlen (ha.keep hb1)).mono ?_
  rintro e w2 ⟨b2, rfl, hb2', ha2, hb2⟩
  have B2 := bthen hb1 hb2
  go_wp2_with fail
  refine (specFindAttr l _ key _ ha2).mono ?_
  rintro e w3 ⟨⟨kk, bb, nn, tt, f, rfl, hx, hf⟩, hb3⟩
  have HX := hide hx
  have HF := hide hf
  clear hx hf
  have B3 := bthen B2 hb3
  clear hb1 hb2 hb3 ha2
  go_wp2_with fail
  have B3' := bthen B3 (bnew w3 (.cells #[.string kk, .bool bb, .int .i64 nn, .string tt] 34))
  refine (lawToAttrS l (.slice a l.length cap) _ hlen (ha.keep B3')).mono ?_
  rintro e w4 ⟨b4, rfl, hb4', ha4, hb4⟩
  have c0 : w4.cell? ⟨w3.heap.size, 0, none⟩ = some (.string kk) := by rw [hb4.cell (by simp [go_sem])]; simp [go_sem]
  have c1 : w4.cell? ⟨w3.heap.size, 1, none⟩ = some (.bool bb) := by rw [hb4.cell (by simp [go_sem])]; simp [go_sem]
  have c2 : w4.cell? ⟨w3.heap.size, 2, none⟩ = some (.int .i64 nn) := by rw [hb4.cell (by simp [go_sem])]; simp [go_sem]
  have c3 : w4.cell? ⟨w3.heap.size, 3, none⟩ = some (.string tt) := by rw [hb4.cell (by simp [go_sem])]; simp [go_sem]
  have h34 : w3.heap.size < w4.heap.size := by have := hb4.size; simp at this; omega
  have B4 := bthen B3' hb4
  clear hb4 B3'
  go_wp2_with fail
  refine (implFindAttr l _ key _ ha4).mono ?_
  rintro e w5 ⟨⟨kk', bb', nn', tt', f', rfl, hx', hf'⟩, hb5⟩
  obtain ⟨rfl, rfl, rfl, rfl⟩ : kk' = kk ∧ bb' = bb ∧ nn' = nn ∧ tt' = tt := by
    have := hx'.trans (unhide HX).symm
    simp only [Prod.mk.injEq] at this
    exact this
  obtain rfl : f' = f := by rw [unhide HF, hf']
  rw [← hb5.cell h34] at c0 c1 c2 c3
  have h35 := Nat.lt_of_lt_of_le h34 hb5.size
  have ha5 := ha4.keep hb5
  have B5 := bthen B4 hb5
  clear hb5 ha4 hx' hf'
  go_wp2_with fail
  refine (lawEqAttr kk' bb' nn' tt' _).mono ?_
  rintro e w6 ⟨rfl, hb6⟩
  have B6 := bthen (bthen B5 (bnew _ _)) hb6
  have ha6 := (ha5.keep (bnew _ _)).keep hb6
  clear hb6 ha5
  go_wp2_with fail
  refine (lawToAttrS l (.slice a l.length cap) _ hlen (ha.keep B6)).mono ?_
  rintro e w7 ⟨b7, rfl, _, ha7, hb7⟩
  have B7 := bthen B6 hb7
  have ha67 := ha6.keep hb7
  clear hb7
  go_wp2_with fail
  refine (lawEqAttrS l _ _ _ ha67 ha7).mono ?_
  rintro e w8 ⟨rfl, hb8⟩
  go_wp2
  go_ret
  exact ⟨rfl, bthen B7 hb8⟩

set_option maxRecDepth 100000 in
theorem lifted (os : Os) (started : os.Started) (H : Type) (enc : TypeId × Value → H) :
    ReturnsInHanded {} Try.checked os 8 .any (Rows.fnExactFindAttrSpec.pre6 enc Try.prog Try.f8 Rows.fnExactFindAttrRow.domain false) (Rows.fnExactFindAttrSpec.post enc Try.prog Try.f8 false true false false) := by
  refine returnsInHanded_of_change (C := Try.checked) own started (by kernel_rfl) Try.func8
    (ChangeSpec.witness6 (enc := enc) (C := Try.checked) false ⟨#[], #[.slice none 0 0, .string ⟨#[]⟩], []⟩ 8 (by kernel_rfl) (by kernel_rfl) (by kernel_rfl) (by kernel_rfl)) ?_
  intro W base args ds gs before hval0 hW hcnd _
  have hval : ∀ (j : Nat) t v, Try.f8.params[j]? = some t → args[j]? = some v → Value.okWide Try.prog W .any base t v := hval0
  have hW' := hW
  obtain ⟨p, q, hA0, hV, rfl, hfz, hnd⟩ := hW
  have hA : DataW.TrodAll enc Try.prog W 0 (fun _ => true) true Try.f8.params.toList args.toList ds p := hA0
  rw [Try.params8] at hA hval
  obtain ⟨v0, vs0, d0, ds0, p0, q0, hargs0, rfl, rfl, k0, r0⟩ := trodAll_cons hA
  obtain ⟨v1, vs1, d1, ds1, p1, q1, rfl, rfl, rfl, k1, r1⟩ := trodAll_cons r0
  obtain ⟨rfl, rfl, rfl⟩ := trodAll_nil r1
  obtain rfl : args = #[v0, v1] := by cases args; simp_all
  obtain ⟨rfl, rfl⟩ := trodVars_none hV
  have lt0 : ∀ x ∈ p0, x.block < W.heap.size := by obtain ⟨m, hm⟩ := k0; exact DataW.trod_lt m _ _ _ hm
  have h0 : IsAttrs W v0 := openIsAttrs (hval 0 _ v0 rfl rfl) k0
  have lt1 : ∀ x ∈ p1, x.block < W.heap.size := by obtain ⟨m, hm⟩ := k1; exact DataW.trod_lt m _ _ _ hm
  have h1 : IsStr W v1 := openIsStr (hval 1 _ v1 rfl rfl) k1
  clear hA0 hval0
  refine (walk v0 v1 W h0 h1).mono fun e W' ⟨he, bel⟩ => ?_
  subst he
  exact ⟨_, rfl, _, _, _, [], _, [], hW', trodAll_mk1 (shut_bool Try.underlying4 _), (trodAll_cons_mk (Below.trod laidOut (by kernel_rfl) (of_decide_eq_true (by kernel_rfl)) k0 bel lt0) (trodAll_cons_mk (Below.trod laidOut (by kernel_rfl) (of_decide_eq_true (by kernel_rfl)) k1 bel lt1) trodAll_mk0)), rfl, bel.frame _, fun h => by cases h⟩

theorem over : Rows.fnExactFindAttrRow.holds Try.pinned (OpenSpec.ofChange Rows.fnExactFindAttrSpec) :=
  OpenClaim.holds_of_wide 8 Try.f8 rfl rfl rfl rfl rfl rfl rfl ⟨rfl, rfl, rfl, rfl, rfl⟩ rfl rfl rfl rfl rfl (by kernel_rfl) Try.func8 (by kernel_rfl)
    (of_decide_eq_true (by kernel_rfl)) (by unfold Func.isWrapper; first | (rw [if_pos (by decide +kernel)]; kernel_rfl) | (rw [if_neg (by decide +kernel)]; exact ⟨rfl, rfl⟩))
    (fun os started H enc _ => lifted os started H enc)

/-- The statement. -/
theorem proved : Rows.FnExactFindAttrSaid := over
#print axioms proved
end Go.Proofs.Ytpmgnjchfleicab.fnExactFindAttr
