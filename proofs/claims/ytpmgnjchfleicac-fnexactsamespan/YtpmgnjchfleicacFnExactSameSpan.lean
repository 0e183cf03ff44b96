/-
  Proved: at every two things the program's SameSpan answers as the specification's, and leaves both alone; no condition.
-/
import Derived.Test.YtpmgnjchfleicacRows
import Derived.Test.YtpmgnjchfleicacNum
import Derived.Test.YtpmgnjchfleicacArgs
import Derived.Test.YtpmgnjchfleicacStr1
import Derived.Test.YtpmgnjchfleicacAttr
import Derived.Test.YtpmgnjchfleicacAttrs
import Derived.Test.YtpmgnjchfleicacAttrs2
import Derived.Test.YtpmgnjchfleicacSpan
import Derived.Test.YtpmgnjchfleicacAttrsArgs
import Derived.Test.YtpmgnjchfleicacSame
import Derived.WalkKit
import Derived.ProofKit
import Derived.OpenShut
import Derived.ShutString
import Derived.ChangeOld
import Derived.Below
import Derived.Deep.CutRange
namespace Go.Proofs.Ytpmgnjchfleicac.fnExactSameSpan
open Go.ChangeShapes Go.WideShapes Go.ChangeAt Go.RowKit
set_option linter.unusedVariables false


theorem laidOut : laidOutB Try.prog = true := by kernel_rfl

set_option maxHeartbeats 4000000 in
theorem walk (v0 v1 : Value) (w : World) (h0 : IsSpan w v0) (h1 : IsSpan w v1) :
    Calls Try.prog 5 #[v0, v1] w fun e w' => e = .returned (.bool true) ∧ Below w.heap.size w w' := by
  obtain ⟨tr, id, st, en, er, l, sl, rfl, ha⟩ := h0
  obtain ⟨tr', id', st', en', er', l', sl', rfl, ha'⟩ := h1
  obtain ⟨a, cap, rfl⟩ := ha.form
  obtain ⟨a', cap', rfl⟩ := ha'.form
  have H0 := (Held6.new w (.int .i64 tr) (.int .i64 id) (.int .i64 st) (.int .i64 en) (.bool er) (.slice a l.length cap) 24).keep (bnew _ (.cells #[.int .i64 tr', .int .i64 id', .int .i64 st', .int .i64 en', .bool er', .slice a' l'.length cap'] 24))
  have G0 := Held6.new (w.alloc (.cells #[.int .i64 tr, .int .i64 id, .int .i64 st, .int .i64 en, .bool er, .slice a l.length cap] 24)) (.int .i64 tr') (.int .i64 id') (.int .i64 st') (.int .i64 en') (.bool er') (.slice a' l'.length cap') 24
  rw [show (w.alloc (.cells #[.int .i64 tr, .int .i64 id, .int .i64 st, .int .i64 en, .bool er, .slice a l.length cap] 24)).heap.size = w.heap.size + 1 by simp] at G0
  have B0 := bthen (bnew w (.cells #[.int .i64 tr, .int .i64 id, .int .i64 st, .int .i64 en, .bool er, .slice a l.length cap] 24)) (bnew _ (.cells #[.int .i64 tr', .int .i64 id', .int .i64 st', .int .i64 en', .bool er', .slice a' l'.length cap'] 24))
  go_enter Try.func5, Try.ntmps5
  go_wp2_with fail
  generalize World.alloc (World.alloc w _) _ = w0 at *
  refine (lawSzSpan tr id st en er l (.slice a l.length cap) 1048576 _ (by omega) (by omega) (ha.keep B0)).mono ?_
  rintro e w1 ⟨⟨z, rfl, hz⟩, hb1⟩
  have hz0 : ¬ z < 0 → l.length ≤ 1048576 ∧ z ≤ 1048576 := by intro h; constructor <;> omega
  have HL := hide hz0
  clear hz hz0
  have B1 := bthen B0 hb1
  have H1 := H0.keep hb1
  have G1 := G0.keep hb1
  clear hb1 H0 G0
  by_cases hneg : z < 0
  · go_wp2
    go_ret
    exact ⟨rfl, B1⟩
  obtain ⟨hlen, hz1⟩ := unhide HL hneg
  have K1 := hide (And.intro H1 G1)
  obtain ⟨_, c0, c1, c2, c3, c4, c5⟩ := H1
  obtain ⟨_, d0, d1, d2, d3, d4, d5⟩ := G1
  go_wp2_with fail
  refine (lawSzSpan tr' id' st' en' er' l' (.slice a' l'.length cap') z _ (by omega) (by omega) (ha'.keep B1)).mono ?_
  rintro e w2 ⟨⟨z', rfl, hz'⟩, hb2⟩
  have hz0 : ¬ z' < 0 → l'.length ≤ 1048576 := by intro h; omega
  have HL' := hide hz0
  clear hz' hz0 c0 c1 c2 c3 c4 c5 d0 d1 d2 d3 d4 d5
  have B2 := bthen B1 hb2
  have H2 := (unhide K1).1.keep hb2
  have G2 := (unhide K1).2.keep hb2
  clear hb2
  by_cases hneg' : z' < 0
  · go_wp2
    go_ret
    exact ⟨rfl, B2⟩
  have hlen' := unhide HL' hneg'
  have K2 := hide (And.intro H2 G2)
  obtain ⟨_, c0, c1, c2, c3, c4, c5⟩ := H2
  obtain ⟨_, d0, d1, d2, d3, d4, d5⟩ := G2
  go_upto_region 8 with fail
  go_cut [6] from 20 to 24 (fun s wc => s = .bool (sameD tr id st en er l tr' id' st' en' er' l') ∧ Below w2.heap.size w2 wc)
  case first =>
    go_region_with (first
      | (have _ := ha21; go_at_call 11; refine (lawToSpan tr' id' st' en' er' l' (.slice a' l'.length cap') _ hlen' (ha'.keep (bthen B2 hb21))).mono ?_; rintro e w22 ⟨b22, rfl, _, ha22, hb22⟩)
      | (go_at_call 11; refine (lawToSpan tr id st en er l (.slice a l.length cap) _ hlen (ha.keep (B2.drew))).mono ?_; rintro e w21 ⟨b21, rfl, _, ha21, hb21'⟩
         have hb21 : Below w2.heap.size w2 w21 := Below.trans (Below.drew (Below.refl _ _)) hb21'
         clear hb21'
         obtain ⟨_, d0, d1, d2, d3, d4, d5⟩ := (unhide K2).2.keep hb21)
      | (go_at_call 16; refine (specSameSpan tr id st en er tr' id' st' en' er' l l' _ _ _ (ha21.keep hb22) ha22).mono ?_; rintro e w23 ⟨rfl, hb23⟩))
    all_goals (go_wp2_with fail; go_meet; exact ⟨rfl, bthen (bthen hb21 hb22) hb23⟩)
  case rest =>
  obtain ⟨rfl, hb3⟩ := hcut
  have B3 := bthen B2 hb3
  have H3 := (unhide K2).1.keep hb3
  have G3 := (unhide K2).2.keep hb3
  clear c0 c1 c2 c3 c4 c5 d0 d1 d2 d3 d4 d5 hb3
  have K3 := hide (And.intro H3 G3)
  obtain ⟨_, c0, c1, c2, c3, c4, c5⟩ := H3
  obtain ⟨_, d0, d1, d2, d3, d4, d5⟩ := G3
  go_wp2_with fail
  refine (lawToSpan tr id st en er l (.slice a l.length cap) _ hlen (ha.keep B3)).mono ?_
  rintro e w4 ⟨b4, rfl, _, ha4, hb4⟩
  have B4 := bthen B3 hb4
  have H4 := (unhide K3).1.keep hb4
  have G4 := (unhide K3).2.keep hb4
  clear c0 c1 c2 c3 c4 c5 d0 d1 d2 d3 d4 d5 hb4
  have X5 := Held6.new w4 (.int .i64 tr) (.int .i64 id) (.int .i64 st) (.int .i64 en) (.bool er) (.slice (some ⟨b4, 0, none⟩) l.length l.length) 29
  have G5 := G4.keep (bnew w4 (.cells #[.int .i64 tr, .int .i64 id, .int .i64 st, .int .i64 en, .bool er, .slice (some ⟨b4, 0, none⟩) l.length l.length] 29))
  have H5 := H4.keep (bnew w4 (.cells #[.int .i64 tr, .int .i64 id, .int .i64 st, .int .i64 en, .bool er, .slice (some ⟨b4, 0, none⟩) l.length l.length] 29))
  have B5 := bthen B4 (bnew w4 (.cells #[.int .i64 tr, .int .i64 id, .int .i64 st, .int .i64 en, .bool er, .slice (some ⟨b4, 0, none⟩) l.length l.length] 29))
  have ha5 := ha4.keep (bnew w4 (.cells #[.int .i64 tr, .int .i64 id, .int .i64 st, .int .i64 en, .bool er, .slice (some ⟨b4, 0, none⟩) l.length l.length] 29))
  have KG5 := hide G5
  obtain ⟨_, d0, d1, d2, d3, d4, d5⟩ := G4
  go_wp2_with fail
  generalize World.alloc w4 _ = w5 at *
  refine (lawToSpan tr' id' st' en' er' l' (.slice a' l'.length cap') _ hlen' (ha'.keep B5)).mono ?_
  rintro e w6 ⟨b6, rfl, _, ha6, hb6⟩
  have hs6 : w4.heap.size < w6.heap.size := Nat.lt_of_lt_of_le X5.1 hb6.size
  have B6 := bthen B5 hb6
  have X6 := X5.keep hb6
  have H6 := H5.keep hb6
  have G6 := (unhide KG5).keep hb6
  have ha46 := ha5.keep hb6
  clear hb6 d0 d1 d2 d3 d4 d5 H5 H4 X5 ha5 ha4
  have Y7 := Held6.new w6 (.int .i64 tr') (.int .i64 id') (.int .i64 st') (.int .i64 en') (.bool er') (.slice (some ⟨b6, 0, none⟩) l'.length l'.length) 29
  have hb7 := bnew w6 (.cells #[.int .i64 tr', .int .i64 id', .int .i64 st', .int .i64 en', .bool er', .slice (some ⟨b6, 0, none⟩) l'.length l'.length] 29)
  have X7 := X6.keep hb7
  have K7 := hide (And.intro (H6.keep hb7) (And.intro (G6.keep hb7) (And.intro X7 (And.intro Y7 (And.intro (ha46.keep hb7) (And.intro (ha6.keep hb7) (bthen B6 hb7)))))))
  obtain ⟨_, x0, x1, x2, x3, x4, x5⟩ := X6
  clear H6 G6 X7 Y7 ha46 ha6 B6 hb7
  go_wp2_with fail
  generalize World.alloc w6 _ = w7 at *
  obtain ⟨H7, G7, X7, Y7, ha47, ha67, B7⟩ := unhide K7
  refine (implSameSpan tr id st en er tr' id' st' en' er' l l' _ _ _ ha47 ha67).mono ?_
  rintro e w8 ⟨rfl, hb8⟩
  have B8 := bthen B7 hb8
  have ha48 := ha47.keep hb8
  have ha68 := ha67.keep hb8
  have KX := hide (X7.keep hb8)
  have KY := hide (Y7.keep hb8)
  have KH := hide (H7.keep hb8)
  have KG := hide (G7.keep hb8)
  clear hb8 H7 G7 X7 Y7 x0 x1 x2 x3 x4 x5
  obtain ⟨_, x0, x1, x2, x3, x4, x5⟩ := unhide KX
  obtain ⟨_, c0, c1, c2, c3, c4, c5⟩ := unhide KH
  go_upto_region 14 with fail
  go_cut [39] from 35 to 38 (fun s wc => s = .bool false ∧ Below w8.heap.size w8 wc)
  case first =>
    go_region_with (first
      | (go_at_call 11; refine (lawToSpan tr id st en er l (.slice a l.length cap) _ hlen (ha.keep (B8.drew))).mono ?_; rintro e w9 ⟨b9, rfl, _, ha9, hb9'⟩
         have hb9 : Below w8.heap.size w8 w9 := Below.trans (Below.drew (Below.refl _ _)) hb9'
         clear hb9'
         obtain ⟨_, x0, x1, x2, x3, x4, x5⟩ := (unhide KX).keep hb9)
      | (go_at_call 13; refine (lawEqSpan tr id st en er l _ _ _ (ha48.keep hb9) ha9).mono ?_; rintro e w10 ⟨rfl, hb10⟩))
    all_goals (go_wp2_with fail; go_meet; exact ⟨rfl, bthen hb9 hb10⟩)
  case rest =>
  obtain ⟨rfl, hb11⟩ := hcut
  have B11 := bthen B8 hb11
  have ha611 := ha68.keep hb11
  have KY11 := hide ((unhide KY).keep hb11)
  clear x0 x1 x2 x3 x4 x5 c0 c1 c2 c3 c4 c5
  obtain ⟨_, d0, d1, d2, d3, d4, d5⟩ := (unhide KG).keep hb11
  obtain ⟨_, y0, y1, y2, y3, y4, y5⟩ := unhide KY11
  clear hb11
  go_upto_region 16 with fail
  go_region_with (first
    | (go_at_call 11; refine (lawToSpan tr' id' st' en' er' l' (.slice a' l'.length cap') _ hlen' (ha'.keep (B11.drew))).mono ?_; rintro e w12 ⟨b12, rfl, _, ha12, hb12'⟩
       have hb12 := Below.trans (Below.drew (Below.refl _ _)) hb12'
       obtain ⟨_, y0, y1, y2, y3, y4, y5⟩ := (unhide KY11).keep hb12)
    | (go_at_call 13; refine (lawEqSpan tr' id' st' en' er' l' _ _ _ (ha611.keep hb12) ha12).mono ?_; rintro e w13 ⟨rfl, hb13⟩))
  all_goals (go_wp2; go_ret; exact ⟨rfl, bthen (bthen B11 hb12) hb13⟩)

set_option maxRecDepth 100000 in
theorem lifted (os : Os) (started : os.Started) (H : Type) (enc : TypeId × Value → H) :
    ReturnsInHanded {} Try.checked os 5 .any (Rows.fnExactSameSpanSpec.pre6 enc Try.prog Try.f5 Rows.fnExactSameSpanRow.domain false) (Rows.fnExactSameSpanSpec.post enc Try.prog Try.f5 false true false false) := by
  refine returnsInHanded_of_change (C := Try.checked) own started (by kernel_rfl) Try.func5
    (ChangeSpec.witness6 (enc := enc) (C := Try.checked) false ⟨#[], #[.agg #[.int .i64 0, .int .i64 0, .int .i64 0, .int .i64 0, .bool false, .slice none 0 0], .agg #[.int .i64 0, .int .i64 0, .int .i64 0, .int .i64 0, .bool false, .slice none 0 0]], []⟩ 8 (by kernel_rfl) (by kernel_rfl) (by kernel_rfl) (by kernel_rfl)) ?_
  intro W base args ds gs before hval0 hW hcnd _
  have hval : ∀ (j : Nat) t v, Try.f5.params[j]? = some t → args[j]? = some v → Value.okWide Try.prog W .any base t v := hval0
  have hW' := hW
  obtain ⟨p, q, hA0, hV, rfl, hfz, hnd⟩ := hW
  have hA : DataW.TrodAll enc Try.prog W 0 (fun _ => true) true Try.f5.params.toList args.toList ds p := hA0
  rw [Try.params5] at hA hval
  obtain ⟨v0, vs0, d0, ds0, p0, q0, hargs0, rfl, rfl, k0, r0⟩ := trodAll_cons hA
  obtain ⟨v1, vs1, d1, ds1, p1, q1, rfl, rfl, rfl, k1, r1⟩ := trodAll_cons r0
  obtain ⟨rfl, rfl, rfl⟩ := trodAll_nil r1
  obtain rfl : args = #[v0, v1] := by cases args; simp_all
  obtain ⟨rfl, rfl⟩ := trodVars_none hV
  have lt0 : ∀ x ∈ p0, x.block < W.heap.size := by obtain ⟨m, hm⟩ := k0; exact DataW.trod_lt m _ _ _ hm
  have h0 : IsSpan W v0 := openIsSpan (hval 0 _ v0 rfl rfl) k0
  have lt1 : ∀ x ∈ p1, x.block < W.heap.size := by obtain ⟨m, hm⟩ := k1; exact DataW.trod_lt m _ _ _ hm
  have h1 : IsSpan W v1 := openIsSpan (hval 1 _ v1 rfl rfl) k1
  clear hA0 hval0
  refine (walk v0 v1 W h0 h1).mono fun e W' ⟨he, bel⟩ => ?_
  subst he
  exact ⟨_, rfl, _, _, _, [], _, [], hW', trodAll_mk1 (shut_bool Try.underlying4 _), (trodAll_cons_mk (Below.trod laidOut (by kernel_rfl) (of_decide_eq_true (by kernel_rfl)) k0 bel lt0) (trodAll_cons_mk (Below.trod laidOut (by kernel_rfl) (of_decide_eq_true (by kernel_rfl)) k1 bel lt1) trodAll_mk0)), rfl, bel.frame _, fun h => by cases h⟩

theorem over : Rows.fnExactSameSpanRow.holds Try.pinned (OpenSpec.ofChange Rows.fnExactSameSpanSpec) :=
  OpenClaim.holds_of_wide 5 Try.f5 rfl rfl rfl rfl rfl rfl rfl ⟨rfl, rfl, rfl, rfl, rfl⟩ rfl rfl rfl rfl rfl (by kernel_rfl) Try.func5 (by kernel_rfl)
    (of_decide_eq_true (by kernel_rfl)) (by unfold Func.isWrapper; first | (rw [if_pos (by decide +kernel)]; kernel_rfl) | (rw [if_neg (by decide +kernel)]; exact ⟨rfl, rfl⟩))
    (fun os started H enc _ => lifted os started H enc)

/-- The statement. -/
theorem proved : Rows.FnExactSameSpanSaid := over
#print axioms proved
end Go.Proofs.Ytpmgnjchfleicac.fnExactSameSpan
