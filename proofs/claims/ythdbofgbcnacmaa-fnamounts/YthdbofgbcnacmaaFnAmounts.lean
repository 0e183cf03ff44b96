/-
  Proved: FnAmounts answers true at every input (any drawn bytes): what is added, taken away or multiplied stays within bounds, and is just that, if it is within; no condition.
-/
import Derived.Test.YthdbofgbcnacmaaRows
import Derived.Test.YthdbofgbcnacmaaNum
import Derived.Test.YthdbofgbcnacmaaDraw
import Derived.WalkKit
import Derived.ProofKit
import Derived.OpenShut
import Derived.ShutString
import Derived.ChangeOld
import Derived.Below
namespace Go.Proofs.Ythdbofgbcnacmaa.fnAmounts
open Go.ChangeShapes Go.WideShapes Go.ChangeAt Go.RowKit
open Go.ChangeMaps (open_string shut_string)
set_option linter.unusedVariables false

theorem laidOut : laidOutB Try.prog = true := by kernel_rfl

/-- WHAT THE WALK IS TOLD OF A SLICE OF INTEGERS THAT CAME IN: it is nil; or it leads to a row of 'cap' cells, the numbers 'zs' (the first 'len' are its elements, the rest its spare room), each fitting its kind. -/
def IsRow (k : IntKind) (w : World) (a : Option Addr) (len cap : Nat) (zs : List Int) : Prop :=
  (a = none ∧ len = 0 ∧ cap = 0 ∧ zs = []) ∨
  ∃ x, a = some x ∧ len ≤ cap ∧ cap ≤ maxLen ∧ zs.length = cap ∧ (∀ i, i < zs.length → w.cell? (x.add i) = some (.int k (zs.getD i 0))) ∧ ∀ n ∈ zs, (Lit.int k n).wf = true

/-! ### STEP 1: THE WALK: the Go text returns true, AND WRITES NOTHING THAT WAS THERE: 'Below w.heap.size w w'' (Derived/Below.lean: '.refl', '.alloc', '.drew', '.setCell' at a new block, '.trans'). Open each 'IsRow' by 'rcases' AHEAD of 'go_enter'; part every test ahead of the walk. -/
theorem add_comm' (a b : Int) : addv a b = addv b a := by unfold addv; rw [Int.add_comm]
theorem mul_comm' (a b : Int) : mulv a b = mulv b a := by unfold mulv; rw [Int.mul_comm]
theorem cap_le {n : Int} (h : 0 ≤ n) : capv n ≤ n := by unfold capv; rw [if_neg (by omega)]; split <;> omega
theorem le_cap {n m : Int} (h : m ≤ n) (hm : m ≤ 2147483647) : m ≤ capv n ∨ n < 0 := by unfold capv; split <;> (try split) <;> omega
theorem add_ge (a b : Int) : capv a ≤ addv a b := by
  have h0 := capv_lo a; have h1 := capv_hi a; have h2 := capv_lo b
  unfold addv; rcases le_cap (n := capv a + capv b) (m := capv a) (by omega) h1 with h | h <;> omega
theorem sub_le (a b : Int) : subv a b ≤ capv a := by
  have h0 := capv_lo a; have h1 := capv_hi a; have h2 := capv_lo b
  unfold subv
  by_cases h : 0 ≤ capv a - capv b
  · have := cap_le h; omega
  · unfold capv; rw [if_pos (show (if a < 0 then 0 else if 2147483647 < a then 2147483647 else a) - (if b < 0 then 0 else if 2147483647 < b then 2147483647 else b) < 0 by have := h; unfold capv at this; omega)]; exact h0
theorem sub_back (c d : Int) (h : subv c d ≠ 0) : addv (subv c d) d = capv c := by
  have h0 := capv_lo c; have h1 := capv_hi c; have h2 := capv_lo d; have h3 := capv_hi d
  have e : subv c d = capv c - capv d := by
    unfold subv
    by_cases hn : capv c - capv d < 0
    · exfalso; apply h; unfold subv; unfold capv at hn ⊢; rw [if_pos hn]
    · exact capv_in (by omega) (by omega)
  unfold addv
  rw [e, capv_in (n := capv c - capv d) (by have : subv c d = capv (capv c - capv d) := rfl; have := capv_lo (capv c - capv d); omega) (by omega), capv_in (by omega) (by omega)]
  omega
theorem mul_one' (a : Int) : mulv a 1 = capv a := by
  unfold mulv; rw [show capv 1 = 1 from rfl, Int.mul_one, capv_capv]
theorem cap_mul (a b : Int) : capv (mulv a b) = mulv a b := capv_capv _
theorem sub_add_le (a b : Int) : subv (addv a b) b ≤ capv a := by
  have h0 := capv_lo a; have h1 := capv_hi a; have h2 := capv_lo b; have h3 := capv_hi b
  have h4 : addv a b ≤ capv a + capv b := cap_le (by omega)
  have h5 := capv_lo (capv a + capv b)
  have h6 := capv_hi (capv a + capv b)
  unfold subv
  rw [show capv (addv a b) = addv a b from capv_capv _]
  by_cases hn : addv a b - capv b < 0
  · rw [show capv (addv a b - capv b) = 0 by unfold capv; unfold capv at hn; rw [if_pos hn]]; exact h0
  · have := cap_le (n := addv a b - capv b) (by omega); omega
theorem walk (a0 : Option Addr) (len0 cap0 : Nat) (z0 : List Int) (w : World) (w0 : IsRow .u8 w a0 len0 cap0 z0) :
    Calls Try.prog 3 #[.slice a0 len0 cap0] w fun e w' => e = .returned (.bool true) ∧ Below w.heap.size w w' := by
  have hy : Bytes w a0 len0 := bytes_of_row w0
  by_cases hbig : 1048576 < len0
  · have hbig' : (1048576 : Int) < (len0 : Int) := by omega
    go_enter Try.func3, Try.ntmps3
    go_wp2_with (go_at_call 4; refine (big_any _ _ _ _).mono ?_; rintro e w' ⟨rfl, rfl⟩)
    go_ret
    exact ⟨rfl, Below.refl _ _⟩
  have hbig' : decide ((1048576 : Int) < (len0 : Int)) = false := decide_eq_false (by omega)
  go_enter Try.func3, Try.ntmps3
  go_wp2_with fail
  refine (big_any _ _ _ _).mono ?_
  rintro e w' ⟨rfl, rfl⟩
  go_wp2_with fail
  refine (DrawAdd_any a0 len0 cap0 w (by omega) hy).mono ?_
  rintro e w1 ⟨⟨a, b, rfl⟩, hb1⟩
  have hy1 := hy.keep hb1
  clear hy
  go_wp2_with fail
  refine (DrawSub_any a0 len0 cap0 w1 (by omega) hy1).mono ?_
  rintro e w2 ⟨⟨c, d, rfl⟩, hb2⟩
  have hy2 := hy1.keep hb2
  clear hy1
  go_wp2_with fail
  refine (DrawMul_any a0 len0 cap0 w2 (by omega) hy2).mono ?_
  rintro e w3 ⟨⟨f, g, rfl⟩, hb3⟩
  clear hy2
  have hb := bthen (bthen hb1 hb2) hb3
  clear hb1 hb2 hb3
  have e1 := add_ge a b
  have e2 : (addv a b == addv b a) = true := beq_iff_eq.2 (add_comm' a b)
  have e3 := sub_le c d
  have e4 : (mulv f g == mulv g f) = true := beq_iff_eq.2 (mul_comm' f g)
  have e5 : (capv (mulv f g) == mulv f g) = true := beq_iff_eq.2 (cap_mul f g)
  have e6 : (mulv a 1 == capv a) = true := beq_iff_eq.2 (mul_one' a)
  have e7 := sub_add_le a b
  by_cases hz : subv c d = 0
  · have e8 : (subv c d == 0) = true := beq_iff_eq.2 hz
    clear hz
    go_wp2_with (first
      | (go_at_call 8; refine (implAdd _ _ _).mono ?_; rintro e w' ⟨rfl, hbx⟩; replace hb := bthen hb hbx; clear hbx)
      | (go_at_call 9; refine (implSub _ _ _).mono ?_; rintro e w' ⟨rfl, rfl⟩)
      | (go_at_call 10; refine (implMul _ _ _).mono ?_; rintro e w' ⟨rfl, rfl⟩)
      | (go_at_call 14; refine (implCap _ _).mono ?_; rintro e w' ⟨rfl, rfl⟩)
      | (go_at_call 11; refine (specAdd _ _ _).mono ?_; rintro e w' ⟨rfl, rfl⟩)
      | (go_at_call 12; refine (specSub _ _ _).mono ?_; rintro e w' ⟨rfl, rfl⟩)
      | (go_at_call 13; refine (specMul _ _ _).mono ?_; rintro e w' ⟨rfl, rfl⟩)
      | (go_at_call 15; refine (specCap _ _).mono ?_; rintro e w' ⟨rfl, rfl⟩))
    go_ret
    exact ⟨rfl, hb⟩
  · have e8 : (subv c d == 0) = false := beq_eq_false_iff_ne.2 hz
    have e9 : (addv (subv c d) d == capv c) = true := beq_iff_eq.2 (sub_back c d hz)
    clear hz
    go_wp2_with (first
      | (go_at_call 8; refine (implAdd _ _ _).mono ?_; rintro e w' ⟨rfl, hbx⟩; replace hb := bthen hb hbx; clear hbx)
      | (go_at_call 9; refine (implSub _ _ _).mono ?_; rintro e w' ⟨rfl, rfl⟩)
      | (go_at_call 10; refine (implMul _ _ _).mono ?_; rintro e w' ⟨rfl, rfl⟩)
      | (go_at_call 14; refine (implCap _ _).mono ?_; rintro e w' ⟨rfl, rfl⟩)
      | (go_at_call 11; refine (specAdd _ _ _).mono ?_; rintro e w' ⟨rfl, rfl⟩)
      | (go_at_call 12; refine (specSub _ _ _).mono ?_; rintro e w' ⟨rfl, rfl⟩)
      | (go_at_call 13; refine (specMul _ _ _).mono ?_; rintro e w' ⟨rfl, rfl⟩)
      | (go_at_call 15; refine (specCap _ _).mono ?_; rintro e w' ⟨rfl, rfl⟩))
    go_ret
    exact ⟨rfl, hb⟩

/-! ### THE ROW's STEP: WRITTEN OUT: LEAVE IT -/
set_option maxRecDepth 100000 in
theorem lifted (os : Os) (started : os.Started) (H : Type) (enc : TypeId × Value → H) :
    ReturnsInHanded {} Try.checked os 3 .any (Rows.fnAmountsSpec.pre6 enc Try.prog Try.f3 Rows.fnAmountsRow.domain false) (Rows.fnAmountsSpec.post enc Try.prog Try.f3 false true false false) := by
  refine returnsInHanded_of_change (C := Try.checked) own started (by kernel_rfl) Try.func3
    (ChangeSpec.witness6 (enc := enc) (C := Try.checked) false ⟨#[], #[.slice none 0 0], []⟩ 8 (by kernel_rfl) (by kernel_rfl) (by kernel_rfl) (by kernel_rfl)) ?_
  intro W base args ds gs before hval0 hW hcnd _
  have hval : ∀ (j : Nat) t v, Try.f3.params[j]? = some t → args[j]? = some v → Value.okWide Try.prog W .any base t v := hval0
  have hW' := hW
  obtain ⟨p, q, hA0, hV, rfl, hfz, hnd⟩ := hW
  have hA : DataW.TrodAll enc Try.prog W 0 (fun _ => true) true Try.f3.params.toList args.toList ds p := hA0
  rw [Try.params3] at hA hval
  obtain ⟨v0, vs0, d0, ds0, p0, q0, hargs, rfl, rfl, h0, r0⟩ := trodAll_cons hA
  obtain ⟨rfl, rfl, rfl⟩ := trodAll_nil r0
  obtain rfl : args = #[v0] := by cases args; simp_all
  obtain ⟨rfl, rfl⟩ := trodVars_none hV
  obtain ⟨a0, len0, cap0, rfl⟩ := okWide_slice Try.underlying22 (hval 0 22 v0 rfl rfl)
  have k0 := h0
  have lt0 : ∀ x ∈ p0, x.block < W.heap.size := by obtain ⟨m, hm⟩ := k0; exact DataW.trod_lt m _ _ _ hm
  obtain ⟨z0, w0⟩ : ∃ zs, IsRow .u8 W a0 len0 cap0 zs := by
    obtain ⟨fuel, hf⟩ := h0
    rcases open_ints Try.underlying22 Try.underlying5 (by kernel_rfl) hf with ⟨hcs, _⟩ | ⟨x, l, c, zs, hcs, _, hl, hm, hz, _, hcell, hwz⟩
    · simp [Value.cells] at hcs
      obtain ⟨rfl, rfl, rfl⟩ := hcs
      exact ⟨[], .inl ⟨rfl, rfl, rfl, rfl⟩⟩
    · simp [Value.cells] at hcs
      obtain ⟨rfl, rfl, rfl⟩ := hcs
      exact ⟨zs, .inr ⟨_, rfl, hl, hm, by simpa using hz, hcell, hwz⟩⟩
  clear hA0 hval0
  refine (walk a0 len0 cap0 z0 W w0).mono fun e W' ⟨he, bel⟩ => ?_
  subst he
  exact ⟨_, rfl, _, _, _, [], _, [], hW', trodAll_mk1 (shut_bool Try.underlying4 _), (trodAll_cons_mk (Below.trod laidOut (by kernel_rfl) (of_decide_eq_true (by kernel_rfl)) k0 bel lt0) trodAll_mk0), rfl, bel.frame _, fun h => by cases h⟩

theorem over : Rows.fnAmountsRow.holds Try.pinned (OpenSpec.ofChange Rows.fnAmountsSpec) :=
  OpenClaim.holds_of_wide 3 Try.f3 rfl rfl rfl rfl rfl rfl rfl ⟨rfl, rfl, rfl, rfl, rfl⟩ rfl rfl rfl rfl rfl (by kernel_rfl) Try.func3 (by kernel_rfl)
    (of_decide_eq_true (by kernel_rfl)) (by unfold Func.isWrapper; first | (rw [if_pos (by decide +kernel)]; kernel_rfl) | (rw [if_neg (by decide +kernel)]; exact ⟨rfl, rfl⟩))
    (fun os started H enc _ => lifted os started H enc)

/-- ████ THE STATEMENT ████ -/
theorem proved : Rows.FnAmountsSaid := over
#print axioms proved
end Go.Proofs.Ythdbofgbcnacmaa.fnAmounts
