/-
  Proved: FnStripes answers true at every input (any drawn bytes): each trail belongs to one stripe, and no two numbers of 16 bits are mixed to one; no condition.
-/
import Derived.Test.YtpmgnjchfleicadRows
import Derived.Test.YtpmgnjchfleicadNum
import Derived.Test.YtpmgnjchfleicadMix
import Derived.Test.YtpmgnjchfleicadInts
import Derived.Test.YtpmgnjchfleicadSpread
import Derived.Test.YtpmgnjchfleicadMixInj
import Derived.Test.YtpmgnjchfleicadDraw
import Derived.Test.YtpmgnjchfleicadGrow
import Derived.WalkKit
import Derived.ProofKit
import Derived.OpenShut
import Derived.ShutString
import Derived.ChangeOld
import Derived.Below
namespace Go.Proofs.Ytpmgnjchfleicad.fnStripes
open Go.ChangeShapes Go.WideShapes Go.ChangeAt Go.RowKit
open Go.ChangeMaps (open_string shut_string)
set_option linter.unusedVariables false

theorem laidOut : laidOutB Try.prog = true := by kernel_rfl

/-- WHAT THE WALK IS TOLD OF A SLICE OF INTEGERS THAT CAME IN: it is nil; or it leads to a row of 'cap' cells, the numbers 'zs' (the first 'len' are its elements, the rest its spare room), each fitting its kind. -/
def IsRow (k : IntKind) (w : World) (a : Option Addr) (len cap : Nat) (zs : List Int) : Prop :=
  (a = none ∧ len = 0 ∧ cap = 0 ∧ zs = []) ∨
  ∃ x, a = some x ∧ len ≤ cap ∧ cap ≤ maxLen ∧ zs.length = cap ∧ (∀ i, i < zs.length → w.cell? (x.add i) = some (.int k (zs.getD i 0))) ∧ ∀ n ∈ zs, (Lit.int k n).wf = true

/-! ### STEP 1: THE WALK: the Go text returns true, AND WRITES NOTHING THAT WAS THERE: 'Below w.heap.size w w'' (Derived/Below.lean: '.refl', '.alloc', '.drew', '.setCell' at a new block, '.trans'). Open each 'IsRow' by 'rcases' AHEAD of 'go_enter'; part every test ahead of the walk. -/
theorem mixv_low (n : Int) : mixv (n % 65536) = mixv n := by
  unfold mixv mixn low16
  rw [Int.emod_emod_of_dvd n (Int.dvd_refl 65536)]
theorem mixv_and (n : Int) : mixv (bits .and .i64 n 65535) = mixv n := by rw [bits_and16, mixv_low]
theorem mix_apart (n z : Int) (h : (bits .and .i64 z 65535 == bits .and .i64 n 65535) = false) : (mixv (bits .and .i64 z 65535) == mixv n) = false := by
  rw [beq_eq_false_iff_ne] at h ⊢
  intro e
  apply h
  rw [mixv_and] at e
  have := mixn_inj (x := z) (y := n) (by unfold mixv at e; omega)
  rw [bits_and16, bits_and16, this]
theorem stripev_in (t k : Int) : 0 ≤ stripev t k ∧ (1 ≤ k → stripev t k < k) := by
  unfold stripev
  have := mixv_lo t
  split
  · exact ⟨by omega, fun h => by omega⟩
  · exact ⟨Int.tmod_nonneg _ this, fun h => Int.tmod_lt_of_pos _ (by omega)⟩
theorem cnt_one (x n i : Int) (r : List Int) : cnt (x :: r) n i = (if stripev x n = i then (1 : Int) else 0) + cnt r n i := by simp [cnt]
theorem spread_elems (l : List Int) (n : Int) (hl : l.length ≤ 8) : ∀ x ∈ spreadL l n, 0 ≤ x ∧ x ≤ 8 := by
  intro x hx
  unfold spreadL at hx
  split at hx
  · simp only [List.mem_map] at hx
    obtain ⟨i, _, rfl⟩ := hx
    have := cnt_in l n i
    omega
  · simp at hx
theorem spread_sum (l : List Int) (n : Int) (h : (spreadL l n).length ≠ 0) : (spreadL l n).sum = l.length := by
  cases hn : inB n 1 3
  · rw [spreadL_no hn] at h; simp at h
  · have hn' := (inB_iff n 1 3).1 hn
    have hc : n = 1 ∨ n = 2 ∨ n = 3 := by omega
    rcases hc with rfl | rfl | rfl
    · rw [spread1]
      simp only [List.sum_cons, List.sum_nil]
      clear h hn hn'
      induction l with
      | nil => rfl
      | cons x r ih =>
        have := stripev_in x 1
        rw [cnt_one, if_pos (by omega)]
        simp only [List.length_cons]; omega
    · rw [spread2]
      simp only [List.sum_cons, List.sum_nil]
      clear h hn hn'
      induction l with
      | nil => rfl
      | cons x r ih =>
        have := stripev_in x 2
        rw [cnt_one, cnt_one]
        simp only [List.length_cons]
        split <;> split <;> omega
    · rw [spread3]
      simp only [List.sum_cons, List.sum_nil]
      clear h hn hn'
      induction l with
      | nil => rfl
      | cons x r ih =>
        have := stripev_in x 3
        rw [cnt_one, cnt_one, cnt_one]
        simp only [List.length_cons]
        split <;> split <;> split <;> omega
theorem take_sum (L : List Int) (h : ∀ x ∈ L, 0 ≤ x ∧ x ≤ 8) (k : Nat) : 0 ≤ (L.take k).sum ∧ (L.take k).sum ≤ 8 * k := by
  induction L generalizing k with
  | nil => simp; omega
  | cons x r ih =>
    cases k with
    | zero => simp
    | succ k =>
      have h1 := h x (by simp)
      have h2 := ih (fun y hy => h y (by simp [hy])) k
      simp only [List.take_succ_cons, List.sum_cons]
      omega
theorem take_sum_snoc (L : List Int) (k : Nat) (h : k < L.length) : (L.take (k + 1)).sum = (L.take k).sum + L.getD k 0 := by
  rw [List.take_succ_eq_append_getElem h, List.sum_append]
  simp [List.getD, h]
set_option maxHeartbeats 4000000 in
theorem walk (a0 : Option Addr) (len0 cap0 : Nat) (z0 : List Int) (w : World) (w0 : IsRow .u8 w a0 len0 cap0 z0) :
    Calls Try.prog 4 #[.slice a0 len0 cap0] w fun e w' => e = .returned (.bool true) ∧ Below w.heap.size w w' := by
  have hy : Bytes w a0 len0 := bytes_of_row w0
  by_cases hbig : 1048576 < len0
  · have hbig' : (1048576 : Int) < (len0 : Int) := by omega
    go_enter Try.func4, Try.ntmps4
    go_wp2_with (go_at_call 13; refine (big_any _ _ _ _).mono ?_; rintro e w' ⟨rfl, rfl⟩)
    go_ret
    exact ⟨rfl, Below.refl _ _⟩
  have hbig' : decide ((1048576 : Int) < (len0 : Int)) = false := decide_eq_false (by omega)
  go_enter Try.func4, Try.ntmps4
  go_wp2_with fail
  refine (big_any _ _ _ _).mono ?_
  rintro e w' ⟨rfl, rfl⟩
  go_wp2_with fail
  refine (DrawMix_any a0 len0 cap0 w (by omega) hy).mono ?_
  rintro e w1 ⟨⟨n, rfl⟩, hb1⟩
  have hy1 := hy.keep hb1
  go_wp2_with fail
  refine (implMix n _).mono ?_
  rintro e w1' ⟨rfl, hw1⟩
  obtain rfl := hw1.symm
  have m0 := mixv_lo n
  have m1 := mixv_hi n
  generalize hM : mixv n = M at *
  have HM := hide hM
  clear hM
  go_wp2_with fail
  refine (DrawStripeOf_any a0 len0 cap0 w1 (by omega) hy1).mono ?_
  rintro e w2 ⟨⟨t, k, rfl⟩, hb2⟩
  have hy2 := hy1.keep hb2
  have B2 := bthen hb1 hb2
  clear hy1 hb1 hb2
  go_wp2_with fail
  refine (implStripeOf t k _).mono ?_
  rintro e w2' ⟨rfl, hw2⟩
  obtain rfl := hw2.symm
  go_wp2_with fail
  refine (DrawSpread_any a0 len0 cap0 w2 (by omega) hy2).mono ?_
  rintro e w3 ⟨⟨l, v, j, rfl, hl8, hl3⟩, hb3⟩
  have hy3 := hy2.keep hb3
  have B3 := bthen B2 hb3
  clear hy2 B2 hb3
  obtain ⟨al, cl, rfl⟩ := hl3.form
  go_wp2_with fail
  refine (implSpread l _ j _ hl3 (by omega)).mono ?_
  rintro e w4 ⟨⟨bg, rfl, hbg, hg4, _⟩, hb4⟩
  have hy4 := hy3.keep hb4
  have hl4 := hl3.keep hb4
  have B4 := bthen B3 hb4
  clear hy3 hl3 B3 hb4
  have s0 := (stripev_in t k).1
  have s1 := (stripev_in t k).2
  have L3 := spread_len l j
  have HE := hide (spread_elems l j hl8)
  have HS := hide (spread_sum l j)
  go_wp2_with fail
  refine (specMix n _).mono ?_
  rintro e w4' ⟨rfl, hw4⟩
  obtain rfl := hw4.symm
  rw [unhide HM]
  go_wp2_with fail
  refine (specStripeOf t k _).mono ?_
  rintro e w4' ⟨rfl, hw4⟩
  obtain rfl := hw4.symm
  go_wp2_with fail
  refine (specSpread l _ j _ hl4 (by omega)).mono ?_
  rintro e w5 ⟨vs, rfl, hs5, hb5⟩
  obtain ⟨av, cs, rfl⟩ := hs5.form
  have hg5 := hg4.keep hb5
  have hy5 := hy4.keep hb5
  have B5 := bthen B4 hb5
  clear hg4 hy4 B4 hb5 hl4
  generalize spreadL l j = L at *
  go_wp2_with fail
  refine (lawSameInts L _ _ _ hg5 hs5).mono ?_
  rintro e w6 ⟨rfl, hb6⟩
  have hg6 := hg5.keep hb6
  have hy6 := hy5.keep hb6
  have B6 := bthen B5 hb6
  clear hg5 hy5 B5 hb6 hs5
  go_wp2_with fail
  refine (implMix _ _).mono ?_
  rintro e w6' ⟨rfl, hw6⟩
  obtain rfl := hw6.symm
  rw [mixv_and, unhide HM]
  have HG := hide hg6
  clear hg6
  go_wp2
  go_loop [11, 12] (fun s i => ∃ q : Nat, q ≤ L.length ∧ i = .int .i64 q ∧ s = .int .i64 (L.take q).sum) (fun _ i => L.length - (intOf i).toNat)
  case atStart => exact ⟨0, Nat.zero_le _, rfl, by simp⟩
  case round =>
    obtain ⟨q, hq, rfl, rfl⟩ := hrel
    by_cases hlt : q < L.length
    · obtain ⟨b, o, ha, hbk, c0⟩ := (unhide HG).at q hlt
      injection ha with ha
      injection ha with ha1 ha2
      subst ha1 ha2
      rw [Nat.zero_add] at c0
      have hx := unhide HE (L.getD q 0) (by rw [List.getD_eq_getElem?_getD, List.getElem?_eq_getElem hlt]; exact List.getElem_mem hlt)
      have ht := take_sum L (unhide HE) q
      have hn := take_sum_snoc L q hlt
      have HN := hide hn
      clear hn
      generalize L.getD q 0 = x at *
      generalize (L.take q).sum = S at *
      have hqi : (q : Int) < (L.length : Int) := by omega
      go_wp2
      go_round
      case rel => exact ⟨q + 1, by omega, by go_num, by rw [unhide HN]⟩
      case measure => simp [intOf]; omega
    · have hqi : ¬ (q : Int) < (L.length : Int) := by omega
      obtain rfl : q = L.length := by omega
      rw [List.take_length]
      clear hq
      go_wp2_with fail
      refine (at_any a0 len0 cap0 2 (by omega) _ (by omega) hy6).mono ?_
      rintro e w7 ⟨⟨x, rfl, hx0, hx1⟩, hw7⟩
      subst hw7
      have hap : (bits .and .i64 (bits .xor .i64 n (1 + x * 257)) 65535 == bits .and .i64 n 65535) = true ∨ ((bits .and .i64 (bits .xor .i64 n (1 + x * 257)) 65535 == bits .and .i64 n 65535) = false ∧ Hid ((mixv (bits .and .i64 (bits .xor .i64 n (1 + x * 257)) 65535) != M) = true)) := by
        cases hz : bits .and .i64 (bits .xor .i64 n (1 + x * 257)) 65535 == bits .and .i64 n 65535
        · refine .inr ⟨rfl, hide ?_⟩
          have := mix_apart n _ hz
          rw [unhide HM] at this
          simp [bne, this]
        · exact .inl rfl
      have hLL : (L.length : Int) = 0 ∨ (¬ (L.length : Int) = 0 ∧ (L.sum == (l.length : Int)) = true) := by
        by_cases h : L.length = 0
        · exact .inl (by omega)
        · exact .inr ⟨by omega, beq_iff_eq.2 (unhide HS h)⟩
      have hkk : k < 1 ∨ (¬ k < 1 ∧ stripev t k < k) := by omega
      clear s1
      generalize stripev t k = s at *
      generalize L.sum = S at *
      clear HE HS HG hy6 hy
      rcases hLL with hLi | ⟨hLi, hSum⟩
      all_goals rcases hkk with hk | ⟨hk, hs⟩
      all_goals rcases hap with hz | ⟨hz, hmx⟩
      all_goals
        go_wp2_with (go_at_call 15; refine (implMix _ _).mono ?_; rintro e w' ⟨rfl, rfl⟩)
        all_goals
          go_ret
          first
            | exact ⟨rfl, B6⟩
            | exact ⟨ret_bool (unhide hmx), B6⟩

/-! ### THE ROW's STEP: WRITTEN OUT: LEAVE IT -/
set_option maxRecDepth 100000 in
theorem lifted (os : Os) (started : os.Started) (H : Type) (enc : TypeId × Value → H) :
    ReturnsInHanded {} Try.checked os 4 .any (Rows.fnStripesSpec.pre6 enc Try.prog Try.f4 Rows.fnStripesRow.domain false) (Rows.fnStripesSpec.post enc Try.prog Try.f4 false true false false) := by
  refine returnsInHanded_of_change (C := Try.checked) own started (by kernel_rfl) Try.func4
    (ChangeSpec.witness6 (enc := enc) (C := Try.checked) false ⟨#[], #[.slice none 0 0], []⟩ 8 (by kernel_rfl) (by kernel_rfl) (by kernel_rfl) (by kernel_rfl)) ?_
  intro W base args ds gs before hval0 hW hcnd _
  have hval : ∀ (j : Nat) t v, Try.f4.params[j]? = some t → args[j]? = some v → Value.okWide Try.prog W .any base t v := hval0
  have hW' := hW
  obtain ⟨p, q, hA0, hV, rfl, hfz, hnd⟩ := hW
  have hA : DataW.TrodAll enc Try.prog W 0 (fun _ => true) true Try.f4.params.toList args.toList ds p := hA0
  rw [Try.params4] at hA hval
  obtain ⟨v0, vs0, d0, ds0, p0, q0, hargs, rfl, rfl, h0, r0⟩ := trodAll_cons hA
  obtain ⟨rfl, rfl, rfl⟩ := trodAll_nil r0
  obtain rfl : args = #[v0] := by cases args; simp_all
  obtain ⟨rfl, rfl⟩ := trodVars_none hV
  obtain ⟨a0, len0, cap0, rfl⟩ := okWide_slice Try.underlying28 (hval 0 28 v0 rfl rfl)
  have k0 := h0
  have lt0 : ∀ x ∈ p0, x.block < W.heap.size := by obtain ⟨m, hm⟩ := k0; exact DataW.trod_lt m _ _ _ hm
  obtain ⟨z0, w0⟩ : ∃ zs, IsRow .u8 W a0 len0 cap0 zs := by
    obtain ⟨fuel, hf⟩ := h0
    rcases open_ints Try.underlying28 Try.underlying5 (by kernel_rfl) hf with ⟨hcs, _⟩ | ⟨x, l, c, zs, hcs, _, hl, hm, hz, _, hcell, hwz⟩
    · simp [Value.cells] at hcs
      obtain ⟨rfl, rfl, rfl⟩ := hcs
      exact ⟨[], .inl ⟨rfl, rfl, rfl, rfl⟩⟩
    · simp [Value.cells] at hcs
      obtain ⟨rfl, rfl, rfl⟩ := hcs
      exact ⟨zs, .inr ⟨_, rfl, hl, hm, by simpa using hz, hcell, hwz⟩⟩
  clear hA0 hval0
  refine (walk a0 len0 cap0 z0 W w0).mono fun e W' ⟨he, bel⟩ => ?_
  subst he
  exact ⟨_, rfl, _, _, _, [], _, [], hW', trodAll_mk1 (shut_bool Try.underlying4 _), (trodAll_cons_mk (Below.trod laidOut (by kernel_rfl) (of_decide_eq_true (by kernel_rfl)) k0 bel lt0) trodAll_mk0), rfl, bel.frame _, fun h => by cases h⟩

theorem over : Rows.fnStripesRow.holds Try.pinned (OpenSpec.ofChange Rows.fnStripesSpec) :=
  OpenClaim.holds_of_wide 4 Try.f4 rfl rfl rfl rfl rfl rfl rfl ⟨rfl, rfl, rfl, rfl, rfl⟩ rfl rfl rfl rfl rfl (by kernel_rfl) Try.func4 (by kernel_rfl)
    (of_decide_eq_true (by kernel_rfl)) (by unfold Func.isWrapper; first | (rw [if_pos (by decide +kernel)]; kernel_rfl) | (rw [if_neg (by decide +kernel)]; exact ⟨rfl, rfl⟩))
    (fun os started H enc _ => lifted os started H enc)

/-- ████ THE STATEMENT ████ -/
theorem proved : Rows.FnStripesSaid := over
#print axioms proved
end Go.Proofs.Ytpmgnjchfleicad.fnStripes
