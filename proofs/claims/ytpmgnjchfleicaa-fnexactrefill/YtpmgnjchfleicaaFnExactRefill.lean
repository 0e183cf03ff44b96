/-
  Proved: at every bucket and every time the program's Refill answers as the specification's, every field; no condition.
-/
import Derived.Test.YtpmgnjchfleicaaRows
import Derived.Test.YtpmgnjchfleicaaNum
import Derived.Test.YtpmgnjchfleicaaArgs
import Derived.Test.YtpmgnjchfleicaaBucket
import Derived.Test.YtpmgnjchfleicaaRefill
import Derived.WalkKit
import Derived.ProofKit
import Derived.OpenShut
import Derived.ShutString
import Derived.ChangeOld
import Derived.Below
import Derived.Deep.CutRange
namespace Go.Proofs.Ytpmgnjchfleicaa.fnExactRefill
open Go.ChangeShapes Go.WideShapes Go.ChangeAt Go.RowKit
set_option linter.unusedVariables false


theorem laidOut : laidOutB Try.prog = true := by kernel_rfl

set_option maxHeartbeats 4000000 in
theorem walk (v0 v1 : Value) (w : World) (h0 : IsBucket w v0) (h1 : IsInt w v1) :
    Calls Try.prog 8 #[v0, v1] w fun e w' => e = .returned (.bool true) ∧ Below w.heap.size w w' := by
  obtain ⟨r, b, t, a, rfl, _, _, _, _⟩ := h0
  obtain ⟨n, rfl, _⟩ := h1
  by_cases hok : bokB r b t a = false ∨ n < a ∨ 2147483647 < n
  case pos =>
    have HOK := hide hok
    clear hok
    go_enter Try.func8, Try.ntmps8
    go_wp2_with fail
    refine (lawToBucket r b t a _).mono ?_
    rintro e w1 ⟨rfl, hb1⟩
    go_wp2_with fail
    refine (specRefill_no r b t a n _ (unhide HOK)).mono ?_
    rintro e w2 ⟨rfl, hb2⟩
    have hb := bthen hb1 hb2
    have c0 : w2.cell? ⟨w.heap.size, 0, none⟩ = some (.int .i64 r) := by rw [hb.cell (by simp [go_sem])]; simp [go_sem]
    have c1 : w2.cell? ⟨w.heap.size, 1, none⟩ = some (.int .i64 b) := by rw [hb.cell (by simp [go_sem])]; simp [go_sem]
    have c2 : w2.cell? ⟨w.heap.size, 2, none⟩ = some (.int .i64 t) := by rw [hb.cell (by simp [go_sem])]; simp [go_sem]
    have c3 : w2.cell? ⟨w.heap.size, 3, none⟩ = some (.int .i64 a) := by rw [hb.cell (by simp [go_sem])]; simp [go_sem]
    have hlt : w.heap.size < w2.heap.size := by have := hb.size; simp at this; omega
    have B2 := bthen (bnew _ _) hb
    clear hb hb1 hb2
    go_wp2_with fail
    refine (lawToBucket r b t a _).mono ?_
    rintro e w3 ⟨rfl, hb3⟩
    clear c0 c1 c2 c3
    go_wp2_with fail
    refine (implRefill_no r b t a n _ (unhide HOK)).mono ?_
    rintro e w4 ⟨rfl, hb4⟩
    have hb := bthen hb3 hb4
    have c0 : w4.cell? ⟨w2.heap.size, 0, none⟩ = some (.int .i64 r) := by rw [hb.cell (by simp [go_sem])]; simp [go_sem]
    have c1 : w4.cell? ⟨w2.heap.size, 1, none⟩ = some (.int .i64 b) := by rw [hb.cell (by simp [go_sem])]; simp [go_sem]
    have c2 : w4.cell? ⟨w2.heap.size, 2, none⟩ = some (.int .i64 (t)) := by rw [hb.cell (by simp [go_sem])]; simp [go_sem]
    have c3 : w4.cell? ⟨w2.heap.size, 3, none⟩ = some (.int .i64 (a)) := by rw [hb.cell (by simp [go_sem])]; simp [go_sem]
    have hlt2 : w2.heap.size < w4.heap.size := by have := hb.size; simp at this; omega
    have B4 := bthen (bthen B2 (bnew _ _)) hb
    clear hb hb3 hb4
    go_wp2_with fail
    refine (lawEqBucket r b (t) (a) _).mono ?_
    rintro e w5 ⟨rfl, hb5⟩
    go_wp2
    go_ret
    exact ⟨rfl, bthen (bthen B4 (bnew _ _)) hb5⟩
  have h1 : bokB r b t a = true := by
    cases h : bokB r b t a
    · exact absurd (.inl h) hok
    · rfl
  have h2 : a ≤ n := by
    rcases Int.lt_or_le n a with h | h
    · exact absurd (.inr (.inl h)) hok
    · exact h
  have h3 : n ≤ 2147483647 := by
    rcases Int.lt_or_le 2147483647 n with h | h
    · exact absurd (.inr (.inr h)) hok
    · exact h
  clear hok
  go_enter Try.func8, Try.ntmps8
  go_wp2_with fail
  refine (lawToBucket r b t a _).mono ?_
  rintro e w1 ⟨rfl, hb1⟩
  go_wp2_with fail
  refine (specRefill_yes r b t a n _ h1 h2 h3).mono ?_
  rintro e w2 ⟨rfl, hb2⟩
  have hb := bthen hb1 hb2
  have c0 : w2.cell? ⟨w.heap.size, 0, none⟩ = some (.int .i64 r) := by rw [hb.cell (by simp [go_sem])]; simp [go_sem]
  have c1 : w2.cell? ⟨w.heap.size, 1, none⟩ = some (.int .i64 b) := by rw [hb.cell (by simp [go_sem])]; simp [go_sem]
  have c2 : w2.cell? ⟨w.heap.size, 2, none⟩ = some (.int .i64 t) := by rw [hb.cell (by simp [go_sem])]; simp [go_sem]
  have c3 : w2.cell? ⟨w.heap.size, 3, none⟩ = some (.int .i64 a) := by rw [hb.cell (by simp [go_sem])]; simp [go_sem]
  have hlt : w.heap.size < w2.heap.size := by have := hb.size; simp at this; omega
  have B2 := bthen (bnew _ _) hb
  clear hb hb1 hb2
  go_wp2_with fail
  refine (lawToBucket r b t a _).mono ?_
  rintro e w3 ⟨rfl, hb3⟩
  clear c0 c1 c2 c3
  go_wp2_with fail
  refine (implRefill_yes r b t a n _ h1 h2 h3).mono ?_
  rintro e w4 ⟨rfl, hb4⟩
  have hb := bthen hb3 hb4
  have c0 : w4.cell? ⟨w2.heap.size, 0, none⟩ = some (.int .i64 r) := by rw [hb.cell (by simp [go_sem])]; simp [go_sem]
  have c1 : w4.cell? ⟨w2.heap.size, 1, none⟩ = some (.int .i64 b) := by rw [hb.cell (by simp [go_sem])]; simp [go_sem]
  have c2 : w4.cell? ⟨w2.heap.size, 2, none⟩ = some (.int .i64 (fillv r b t a n)) := by rw [hb.cell (by simp [go_sem])]; simp [go_sem]
  have c3 : w4.cell? ⟨w2.heap.size, 3, none⟩ = some (.int .i64 (n)) := by rw [hb.cell (by simp [go_sem])]; simp [go_sem]
  have hlt2 : w2.heap.size < w4.heap.size := by have := hb.size; simp at this; omega
  have B4 := bthen (bthen B2 (bnew _ _)) hb
  clear hb hb3 hb4
  go_wp2_with fail
  refine (lawEqBucket r b (fillv r b t a n) (n) _).mono ?_
  rintro e w5 ⟨rfl, hb5⟩
  go_wp2
  go_ret
  exact ⟨rfl, bthen (bthen B4 (bnew _ _)) hb5⟩

set_option maxRecDepth 100000 in
theorem lifted (os : Os) (started : os.Started) (H : Type) (enc : TypeId × Value → H) :
    ReturnsInHanded {} Try.checked os 8 .any (Rows.fnExactRefillSpec.pre6 enc Try.prog Try.f8 Rows.fnExactRefillRow.domain false) (Rows.fnExactRefillSpec.post enc Try.prog Try.f8 false true false false) := by
  refine returnsInHanded_of_change (C := Try.checked) own started (by kernel_rfl) Try.func8
    (ChangeSpec.witness6 (enc := enc) (C := Try.checked) false ⟨#[], #[.agg #[.int .i64 0, .int .i64 0, .int .i64 0, .int .i64 0], .int .i64 0], []⟩ 8 (by kernel_rfl) (by kernel_rfl) (by kernel_rfl) (by kernel_rfl)) ?_
  intro W base args ds gs before hval0 hW hcnd _
  have hval : ∀ (j : Nat) t v, Try.f8.params[j]? = some t → args[j]? = some v → Value.okWide Try.prog W .any base t v := hval0
  have hW' := hW
  obtain ⟨p, q, hA0, hV, rfl, hfz, hnd⟩ := hW
  have hA : DataW.TrodAll enc Try.prog W 0 (fun _ => true) true Try.f8.params.toList args.toList ds p := hA0
  rw [Try.params8] at hA hval
  obtain ⟨v0, vs0, d0, ds0, p0, q0, hargs0, rfl, rfl, k0, r0⟩ := trodAll_cons hA
  obtain ⟨v1, vs1, d1, ds1, p1, q1, rfl, rfl, rfl, k1, r1⟩ := trodAll_cons r0
  obtain ⟨rfl, rfl, rfl⟩ := trodAll_nil r1
  obtain rfl : args = #[v0, v1] := by cases args; simp_all
  obtain ⟨rfl, rfl⟩ := trodVars_none hV
  have lt0 : ∀ x ∈ p0, x.block < W.heap.size := by obtain ⟨m, hm⟩ := k0; exact DataW.trod_lt m _ _ _ hm
  have h0 : IsBucket W v0 := openIsBucket (hval 0 _ v0 rfl rfl) k0
  have lt1 : ∀ x ∈ p1, x.block < W.heap.size := by obtain ⟨m, hm⟩ := k1; exact DataW.trod_lt m _ _ _ hm
  have h1 : IsInt W v1 := openIsInt (hval 1 _ v1 rfl rfl) k1
  clear hA0 hval0
  refine (walk v0 v1 W h0 h1).mono fun e W' ⟨he, bel⟩ => ?_
  subst he
  exact ⟨_, rfl, _, _, _, [], _, [], hW', trodAll_mk1 (shut_bool Try.underlying4 _), (trodAll_cons_mk (Below.trod laidOut (by kernel_rfl) (of_decide_eq_true (by kernel_rfl)) k0 bel lt0) (trodAll_cons_mk (Below.trod laidOut (by kernel_rfl) (of_decide_eq_true (by kernel_rfl)) k1 bel lt1) trodAll_mk0)), rfl, bel.frame _, fun h => by cases h⟩

theorem over : Rows.fnExactRefillRow.holds Try.pinned (OpenSpec.ofChange Rows.fnExactRefillSpec) :=
  OpenClaim.holds_of_wide 8 Try.f8 rfl rfl rfl rfl rfl rfl rfl ⟨rfl, rfl, rfl, rfl, rfl⟩ rfl rfl rfl rfl rfl (by kernel_rfl) Try.func8 (by kernel_rfl)
    (of_decide_eq_true (by kernel_rfl)) (by unfold Func.isWrapper; first | (rw [if_pos (by decide +kernel)]; kernel_rfl) | (rw [if_neg (by decide +kernel)]; exact ⟨rfl, rfl⟩))
    (fun os started H enc _ => lifted os started H enc)

/-- The statement. -/
theorem proved : Rows.FnExactRefillSaid := over
#print axioms proved
end Go.Proofs.Ytpmgnjchfleicaa.fnExactRefill
