/-
  Proved: FnSeen answers true at every input (any drawn bytes): what failed, and how long it took, is as of some thing, and more things never take that away; no condition.
-/
import Derived.Test.YtchinpgjaddnkaaRows
import Derived.Test.YtchinpgjaddnkaaDrF
import Derived.Test.YtchinpgjaddnkaaSeenA
import Derived.Test.YtchinpgjaddnkaaQSkip
import Derived.WalkKit
import Derived.ProofKit
import Derived.OpenShut
import Derived.ShutString
import Derived.ChangeOld
import Derived.Below
namespace Go.Proofs.Ytchinpgjaddnkaa.fnSeen
open Go.ChangeShapes Go.WideShapes Go.ChangeAt Go.RowKit
open Go.ChangeMaps (open_string shut_string)
set_option linter.unusedVariables false
set_option maxRecDepth 100000

theorem laidOut : laidOutB Try.prog = true := by kernel_rfl

/-- WHAT THE WALK IS TOLD OF A SLICE OF INTEGERS THAT CAME IN: it is nil; or it leads to a row of 'cap' cells, the numbers 'zs' (the first 'len' are its elements, the rest its spare room), each fitting its kind. -/
def IsRow (k : IntKind) (w : World) (a : Option Addr) (len cap : Nat) (zs : List Int) : Prop :=
  (a = none ∧ len = 0 ∧ cap = 0 ∧ zs = []) ∨
  ∃ x, a = some x ∧ len ≤ cap ∧ cap ≤ maxLen ∧ zs.length = cap ∧ (∀ i, i < zs.length → w.cell? (x.add i) = some (.int k (zs.getD i 0))) ∧ ∀ n ∈ zs, (Lit.int k n).wf = true

/-! ### STEP 1: THE WALK: the Go text returns true, AND WRITES NOTHING THAT WAS THERE: 'Below w.heap.size w w'' (Derived/Below.lean: '.refl', '.alloc', '.drew', '.setCell' at a new block, '.trans'). Open each 'IsRow' by 'rcases' AHEAD of 'go_enter'; part every test ahead of the walk. -/
set_option maxHeartbeats 4000000 in
theorem walk (a0 : Option Addr) (len0 cap0 : Nat) (z0 : List Int) (w : World) (w0 : IsRow .u8 w a0 len0 cap0 z0) :
    Calls Try.prog 3 #[.slice a0 len0 cap0] w fun e w' => e = .returned (.bool true) ∧ Below w.heap.size w w' := by
  have hy : Bytes w a0 len0 := bytes_of_row w0
  by_cases hbig : 1048576 < len0
  · have hbig' : (1048576 : Int) < (len0 : Int) := by omega
    go_enter Try.func3, Try.ntmps3
    go_wp2_with (go_at_call 5; refine (big_any _ _ _ _).mono ?_; rintro e w' ⟨rfl, rfl⟩)
    go_ret
    exact ⟨rfl, Below.refl _ _⟩
  have hbig' : decide ((1048576 : Int) < (len0 : Int)) = false := decide_eq_false (by omega)
  go_enter Try.func3, Try.ntmps3
  go_wp2_with fail
  refine (big_any _ _ _ _).mono ?_
  rintro e w' ⟨rfl, hw'⟩
  obtain rfl := hw'
  go_wp2_with fail
  refine (DrawErrors_any a0 len0 cap0 w (by omega) hy).mono ?_
  rintro e w1 ⟨⟨v, l, rfl, hl4, hal, hcl⟩, hb1⟩
  have hy1 := hy.keep hb1
  obtain ⟨hsp, g, c, hv, hlc, hcm⟩ := hcl
  subst hv
  have HAL := hide hal
  have HSP := hide hsp
  clear hal hsp
  go_wp2_with fail
  refine (DrawLongest_any a0 len0 cap0 w1 (by omega) hy1).mono ?_
  rintro e w2 ⟨⟨vm, m, rfl, hm5, ham, hcm2⟩, hb2⟩
  have hy2 := hy1.keep hb2
  have HSP2 := hide ((unhide HSP).keep hb2)
  have B2 := bthen hb1 hb2
  obtain ⟨am, cm, rfl⟩ := hcm2.form
  have HAM := hide ham
  have HSM := hide hcm2
  clear ham hcm2 HSP hb1 hb2 hy1
  go_wp2_with fail
  refine (at_any a0 len0 cap0 2 (by omega) w2 (by omega) hy2).mono ?_
  rintro e w5 ⟨⟨x, rfl, hx0, hx1⟩, hw5⟩
  obtain rfl := hw5
  clear hy2
  have hK := tmod_lt (x := x) (n := (l.length : Int) + 1) (by omega) (by omega)
  have hmx : maxLen = 9223372036854775807 := rfl
  go_upto_region 6 with fail
  generalize x % ((l.length : Int) + 1) = KI at *
  obtain ⟨hK0, hK1⟩ := hK
  obtain ⟨KK, rfl⟩ := Int.eq_ofNat_of_zero_le hK0
  have hKn : KK ≤ l.length := by omega
  have hal := unhide HAL
  have hsp := unhide HSP2
  have hs1 : SpansAt w2 (.slice (some ⟨g, 0, none⟩) KK c) (l.take KK) := spans_take hsp KK hKn c
  have hs2 : SpansAt w2 (.slice (if c = KK then some ⟨g, 0, none⟩ else some ⟨g, KK * 6, none⟩) (l.length - KK) (c - KK)) (l.drop KK) := by
    have h2 := spans_drop hsp KK hKn c
    by_cases hck : c = KK
    · exact h2.1 _ _ (by omega)
    · rw [if_neg hck]
      rcases Nat.lt_or_ge KK l.length with hlt | hge
      · obtain ⟨b2, o2, e2, h3⟩ := h2.2 hlt
        injection e2 with e2
        injection e2 with e3 e4
        subst e3
        subst e4
        have h4 := h3 (c - KK)
        rw [Nat.zero_add] at h4
        exact h4
      · exact h2.1 _ _ (by omega)
  have hl1 : (l.take KK).length = KK := by rw [List.length_take]; omega
  have hl2 : (l.drop KK).length = l.length - KK := List.length_drop
  have CE : ∀ wx, Below w2.heap.size w2 wx → Calls Try.prog 9 #[.slice (some ⟨g, 0, none⟩) l.length c] wx fun e w' => e = .returned (.int .i64 (errS l)) ∧ Below wx.heap.size wx w' := fun wx hb => implErrors l _ wx (hsp.keep hb) (by omega) (bulk_tiny hal (by omega))
  replace CE := hide CE
  have CEs : ∀ wx, Below w2.heap.size w2 wx → Calls Try.prog 10 #[.slice (some ⟨g, 0, none⟩) l.length c] wx fun e w' => e = .returned (.int .i64 (errS l)) ∧ Below wx.heap.size wx w' := fun wx hb => specErrors l _ wx (hsp.keep hb) (by omega) (bulk_tiny hal (by omega))
  replace CEs := hide CEs
  have CM : ∀ wx, Below w2.heap.size w2 wx → Calls Try.prog 11 #[.slice am m.length cm] wx fun e w' => e = .returned (.int .i64 (longS m)) ∧ Below wx.heap.size wx w' := fun wx hb => implLongest m _ wx ((unhide HSM).keep hb) (by omega) (bulk_tiny (unhide HAM) (by omega))
  replace CM := hide CM
  have CMs : ∀ wx, Below w2.heap.size w2 wx → Calls Try.prog 12 #[.slice am m.length cm] wx fun e w' => e = .returned (.int .i64 (longS m)) ∧ Below wx.heap.size wx w' := fun wx hb => specLongest m _ wx ((unhide HSM).keep hb) (by omega) (bulk_tiny (unhide HAM) (by omega))
  replace CMs := hide CMs
  have CE1 : ∀ wx, Below w2.heap.size w2 wx → Calls Try.prog 9 #[.slice (some ⟨g, 0, none⟩) KK c] wx fun e w' => e = .returned (.int .i64 (errS (l.take KK))) ∧ Below wx.heap.size wx w' := fun wx hb => implErrors (l.take KK) _ wx (hs1.keep hb) (by omega) (bulk_tiny (allS_take hal KK) (by omega))
  replace CE1 := hide CE1
  have CE2 : ∀ wx, Below w2.heap.size w2 wx → Calls Try.prog 9 #[.slice (if c = KK then some ⟨g, 0, none⟩ else some ⟨g, KK * 6, none⟩) (l.length - KK) (c - KK)] wx fun e w' => e = .returned (.int .i64 (errS (l.drop KK))) ∧ Below wx.heap.size wx w' := fun wx hb => implErrors (l.drop KK) _ wx (hs2.keep hb) (by omega) (bulk_tiny (allS_drop hal KK) (by omega))
  replace CE2 := hide CE2
  have CL : ∀ wx, Below w2.heap.size w2 wx → Calls Try.prog 11 #[.slice (some ⟨g, 0, none⟩) l.length c] wx fun e w' => e = .returned (.int .i64 (longS l)) ∧ Below wx.heap.size wx w' := fun wx hb => implLongest l _ wx (hsp.keep hb) (by omega) (bulk_tiny hal (by omega))
  replace CL := hide CL
  have CL1 : ∀ wx, Below w2.heap.size w2 wx → Calls Try.prog 11 #[.slice (some ⟨g, 0, none⟩) KK c] wx fun e w' => e = .returned (.int .i64 (longS (l.take KK))) ∧ Below wx.heap.size wx w' := fun wx hb => implLongest (l.take KK) _ wx (hs1.keep hb) (by omega) (bulk_tiny (allS_take hal KK) (by omega))
  replace CL1 := hide CL1
  have CL2 : ∀ wx, Below w2.heap.size w2 wx → Calls Try.prog 11 #[.slice (if c = KK then some ⟨g, 0, none⟩ else some ⟨g, KK * 6, none⟩) (l.length - KK) (c - KK)] wx fun e w' => e = .returned (.int .i64 (longS (l.drop KK))) ∧ Below wx.heap.size wx w' := fun wx hb => implLongest (l.drop KK) _ wx (hs2.keep hb) (by omega) (bulk_tiny (allS_drop hal KK) (by omega))
  replace CL2 := hide CL2
  have he := errS_parts l KK
  have hL := longS_parts l KK
  have e1 := errS_in (l.take KK)
  have e2 := errS_in (l.drop KK)
  have hlc2 : (l.length : Int) ≤ (c : Int) := by omega
  have hKc : (KK : Int) ≤ (c : Int) := by omega
  have hKn2 : (KK : Int) ≤ (l.length : Int) := by omega
  have hK0 : (0 : Int) ≤ (KK : Int) := by omega
  have HB5 := hide (fun wx (hb : Below w2.heap.size w2 wx) => bthen B2 hb)
  rw [← he] at CE CEs
  clear hal hsp hs1 hs2 B2 HAL HSP2 HAM HSM he
  rw [hl1] at e1
  rw [hl2] at e2
  generalize errS (l.take KK) = E1 at *
  generalize errS (l.drop KK) = E2 at *
  generalize longS (l.take KK) = L1 at *
  generalize longS (l.drop KK) = L2 at *
  generalize longS m = LM at *
  generalize longS l = LL at *
  clear hl1 hl2
  generalize l.length = n at *
  have hle1 : L1 ≤ LL := by omega
  have hle2 : L2 ≤ LL := by omega
  have HWR : Hid (IntKind.i64.wrap (E1 + E2) = E1 + E2) := hide (by rw [IntKind.wrap_i64]; omega)
  have mixed : Try.prog.follows .mixedOrders = true := by kernel_rfl
  rcases (show LL = L1 ∨ (¬ LL = L1 ∧ LL = L2) by omega) with heq | ⟨heq, heq2⟩
  · subst heq
    clear hL
    refine wq_region (by assumption) (by kernel_rfl) ?_
    refine q_take (by kernel_rfl) (fun K hK => ?_)
    go_simp
    refine hK _ ?_
    clear hK K
    refine q_take (by kernel_rfl) (fun K hK => ?_)
    go_simp
    apply Exists.intro
    refine ⟨fun _ => ?_, hK _ ?_⟩
    exact Calls.regrown_of (unhide CE _ (below_regrown _ _ _))
    clear hK K
    refine q_take (by kernel_rfl) (fun K hK => ?_)
    go_simp
    refine hK _ ?_
    clear hK K
    refine q_take (by kernel_rfl) (fun K hK => ?_)
    go_simp
    apply Exists.intro
    refine ⟨fun _ => ?_, hK _ ?_⟩
    exact Calls.regrown_of (unhide CEs _ (below_regrown _ _ _))
    clear hK K
    refine q_take (by kernel_rfl) (fun K hK => ?_)
    go_simp
    refine hK _ ?_
    clear hK K
    refine q_take (by kernel_rfl) (fun K hK => ?_)
    go_simp
    refine hK _ ?_
    clear hK K
    refine q_take (by kernel_rfl) (fun K hK => ?_)
    go_simp
    refine hK _ ?_
    clear hK K
    refine q_take (by kernel_rfl) (fun K hK => ?_)
    go_simp
    apply Exists.intro
    refine ⟨fun _ => ?_, hK _ ?_⟩
    exact Calls.regrown_of (unhide CM _ (below_regrown _ _ _))
    clear hK K
    refine q_take (by kernel_rfl) (fun K hK => ?_)
    go_simp
    refine hK _ ?_
    clear hK K
    refine q_take (by kernel_rfl) (fun K hK => ?_)
    go_simp
    apply Exists.intro
    refine ⟨fun _ => ?_, hK _ ?_⟩
    exact Calls.regrown_of (unhide CMs _ (below_regrown _ _ _))
    clear hK K
    refine q_take (by kernel_rfl) (fun K hK => ?_)
    go_simp
    refine hK _ ?_
    clear hK K
    refine q_take (by kernel_rfl) (fun K hK => ?_)
    go_simp
    refine hK _ ?_
    clear hK K
    refine q_take (by kernel_rfl) (fun K hK => ?_)
    go_simp
    refine hK _ ?_
    clear hK K
    refine q_take (by kernel_rfl) (fun K hK => ?_)
    go_simp
    refine hK _ ?_
    clear hK K
    refine q_take (by kernel_rfl) (fun K hK => ?_)
    go_simp
    apply Exists.intro
    refine ⟨fun _ => ?_, hK _ ?_⟩
    exact Calls.regrown_of (unhide CE _ (below_regrown _ _ _))
    clear hK K
    refine q_take (by kernel_rfl) (fun K hK => ?_)
    go_simp
    refine hK _ ?_
    clear hK K
    refine q_take (by kernel_rfl) (fun K hK => ?_)
    go_simp
    refine hK _ ?_
    clear hK K
    refine q_take (by kernel_rfl) (fun K hK => ?_)
    go_simp
    refine hK _ ?_
    clear hK K
    refine q_take (by kernel_rfl) (fun K hK => ?_)
    go_simp
    apply Exists.intro
    refine ⟨fun _ => ?_, hK _ ?_⟩
    exact Calls.regrown_of (unhide CE1 _ (below_regrown _ _ _))
    clear hK K
    refine q_take (by kernel_rfl) (fun K hK => ?_)
    go_simp
    refine hK _ ?_
    clear hK K
    refine q_take (by kernel_rfl) (fun K hK => ?_)
    go_simp
    refine hK _ ?_
    clear hK K
    refine q_take (by kernel_rfl) (fun K hK => ?_)
    go_simp
    refine hK _ ?_
    clear hK K
    refine q_take (by kernel_rfl) (fun K hK => ?_)
    go_simp
    apply Exists.intro
    refine ⟨fun _ => ?_, hK _ ?_⟩
    exact Calls.regrown_of (unhide CE2 _ (below_regrown _ _ _))
    clear hK K
    refine q_take (by kernel_rfl) (fun K hK => ?_)
    go_simp
    refine hK _ ?_
    clear hK K
    refine q_take (by kernel_rfl) (fun K hK => ?_)
    go_simp
    refine hK _ ?_
    clear hK K
    refine q_take (by kernel_rfl) (fun K hK => ?_)
    go_simp
    rw [unhide HWR]
    refine hK _ ?_
    clear hK K
    refine q_take (by kernel_rfl) (fun K hK => ?_)
    go_simp
    refine hK _ ?_
    clear hK K
    refine q_take (by kernel_rfl) (fun K hK => ?_)
    go_simp
    refine hK _ ?_
    clear hK K
    refine q_take (by kernel_rfl) (fun K hK => ?_)
    go_simp
    refine hK _ ?_
    clear hK K
    refine q_take (by kernel_rfl) (fun K hK => ?_)
    go_simp
    refine hK _ ?_
    clear hK K
    refine q_take (by kernel_rfl) (fun K hK => ?_)
    go_simp
    apply Exists.intro
    refine ⟨fun _ => ?_, hK _ ?_⟩
    exact Calls.regrown_of (unhide CL1 _ (below_regrown _ _ _))
    clear hK K
    refine q_take (by kernel_rfl) (fun K hK => ?_)
    go_simp
    refine hK _ ?_
    clear hK K
    refine q_take (by kernel_rfl) (fun K hK => ?_)
    go_simp
    apply Exists.intro
    refine ⟨fun _ => ?_, hK _ ?_⟩
    exact Calls.regrown_of (unhide CL _ (below_regrown _ _ _))
    clear hK K
    refine q_take (by kernel_rfl) (fun K hK => ?_)
    go_simp
    refine hK _ ?_
    clear hK K
    refine q_take (by kernel_rfl) (fun K hK => ?_)
    go_simp
    refine hK _ ?_
    clear hK K
    refine q_take (by kernel_rfl) (fun K hK => ?_)
    go_simp
    refine hK _ ?_
    clear hK K
    refine q_take (by kernel_rfl) (fun K hK => ?_)
    go_simp
    refine hK _ ?_
    clear hK K
    refine q_take (by kernel_rfl) (fun K hK => ?_)
    go_simp
    refine hK _ ?_
    clear hK K
    refine q_take (by kernel_rfl) (fun K hK => ?_)
    go_simp
    refine hK _ ?_
    clear hK K
    refine q_take (by kernel_rfl) (fun K hK => ?_)
    go_simp
    apply Exists.intro
    refine ⟨fun _ => ?_, hK _ ?_⟩
    exact Calls.regrown_of (unhide CL2 _ (below_regrown _ _ _))
    clear hK K
    refine q_take (by kernel_rfl) (fun K hK => ?_)
    go_simp
    refine hK _ ?_
    clear hK K
    refine q_take (by kernel_rfl) (fun K hK => ?_)
    go_simp
    apply Exists.intro
    refine ⟨fun _ => ?_, hK _ ?_⟩
    exact Calls.regrown_of (unhide CL _ (below_regrown _ _ _))
    clear hK K
    refine q_take (by kernel_rfl) (fun K hK => ?_)
    go_simp
    refine hK _ ?_
    clear hK K
    refine q_take (by kernel_rfl) (fun K hK => ?_)
    go_simp
    refine hK _ ?_
    clear hK K
    refine q_take (by kernel_rfl) (fun K hK => ?_)
    go_simp
    refine hK _ ?_
    clear hK K
    refine q_take (by kernel_rfl) (fun K hK => ?_)
    go_simp
    refine hK _ ?_
    clear hK K
    refine q_take (by kernel_rfl) (fun K hK => ?_)
    go_simp
    apply Exists.intro
    refine ⟨fun _ => ?_, hK _ ?_⟩
    exact Calls.regrown_of (unhide CL _ (below_regrown _ _ _))
    clear hK K
    refine q_take (by kernel_rfl) (fun K hK => ?_)
    go_simp
    refine hK _ ?_
    clear hK K
    refine q_take (by kernel_rfl) (fun K hK => ?_)
    go_simp
    refine hK _ ?_
    clear hK K
    refine q_take (by kernel_rfl) (fun K hK => ?_)
    go_simp
    refine hK _ ?_
    clear hK K
    refine q_take (by kernel_rfl) (fun K hK => ?_)
    go_simp
    apply Exists.intro
    refine ⟨fun _ => ?_, hK _ ?_⟩
    exact Calls.regrown_of (unhide CL1 _ (below_regrown _ _ _))
    clear hK K
    refine q_take (by kernel_rfl) (fun K hK => ?_)
    go_simp
    refine hK _ ?_
    clear hK K
    refine q_take (by kernel_rfl) (fun K hK => ?_)
    go_simp
    refine hK _ ?_
    clear hK K
    refine q_skipK (by kernel_rfl) (fun K hK => ?_)
    simp only [Act.put, List.setIfInBounds_toArray, List.set_cons_zero, List.set_cons_succ]
    refine hK _ ?_
    clear hK K
    refine q_skipK (by kernel_rfl) (fun K hK => ?_)
    simp only [Act.put, List.setIfInBounds_toArray, List.set_cons_zero, List.set_cons_succ]
    refine hK _ ?_
    clear hK K
    refine q_skipK (by kernel_rfl) (fun K hK => ?_)
    simp only [Act.put, List.setIfInBounds_toArray, List.set_cons_zero, List.set_cons_succ]
    refine hK _ ?_
    clear hK K
    refine q_skipK (by kernel_rfl) (fun K hK => ?_)
    simp only [Act.put, List.setIfInBounds_toArray, List.set_cons_zero, List.set_cons_succ]
    refine hK _ ?_
    clear hK K
    refine q_skipK (by kernel_rfl) (fun K hK => ?_)
    simp only [Act.put, List.setIfInBounds_toArray, List.set_cons_zero, List.set_cons_succ]
    refine hK _ ?_
    clear hK K
    refine q_skipK (by kernel_rfl) (fun K hK => ?_)
    simp only [Act.put, List.setIfInBounds_toArray, List.set_cons_zero, List.set_cons_succ]
    refine hK _ ?_
    clear hK K
    refine q_skipK (by kernel_rfl) (fun K hK => ?_)
    simp only [Act.put, List.setIfInBounds_toArray, List.set_cons_zero, List.set_cons_succ]
    refine hK _ ?_
    clear hK K
    refine q_take (by kernel_rfl) (fun K hK => ?_)
    go_simp
    refine hK _ ?_
    clear hK K
    refine q_take (by kernel_rfl) (fun K hK => ?_)
    go_simp
    refine hK _ ?_
    clear hK K
    refine q_take (by kernel_rfl) (fun K hK => ?_)
    go_simp
    refine hK _ ?_
    clear hK K
    refine wq_nil ?_
    intro _ hw9
    obtain ⟨⟨dq, osq⟩, hw9'⟩ := hw9
    subst hw9'
    have hHeld := below_regrown w2 dq osq
    generalize Go.Sort.grow (redrawn w2 dq) osq = wq at *
    have hfin := unhide HB5 _ hHeld
    clear hHeld
    go_wp2
    all_goals (go_ret; exact ⟨rfl, hfin⟩)
  · have hne : (LL == L1) = false := beq_eq_false_iff_ne.2 heq
    subst heq2
    clear hL
    refine wq_region (by assumption) (by kernel_rfl) ?_
    refine q_take (by kernel_rfl) (fun K hK => ?_)
    go_simp
    refine hK _ ?_
    clear hK K
    refine q_take (by kernel_rfl) (fun K hK => ?_)
    go_simp
    apply Exists.intro
    refine ⟨fun _ => ?_, hK _ ?_⟩
    exact Calls.regrown_of (unhide CE _ (below_regrown _ _ _))
    clear hK K
    refine q_take (by kernel_rfl) (fun K hK => ?_)
    go_simp
    refine hK _ ?_
    clear hK K
    refine q_take (by kernel_rfl) (fun K hK => ?_)
    go_simp
    apply Exists.intro
    refine ⟨fun _ => ?_, hK _ ?_⟩
    exact Calls.regrown_of (unhide CEs _ (below_regrown _ _ _))
    clear hK K
    refine q_take (by kernel_rfl) (fun K hK => ?_)
    go_simp
    refine hK _ ?_
    clear hK K
    refine q_take (by kernel_rfl) (fun K hK => ?_)
    go_simp
    refine hK _ ?_
    clear hK K
    refine q_take (by kernel_rfl) (fun K hK => ?_)
    go_simp
    refine hK _ ?_
    clear hK K
    refine q_take (by kernel_rfl) (fun K hK => ?_)
    go_simp
    apply Exists.intro
    refine ⟨fun _ => ?_, hK _ ?_⟩
    exact Calls.regrown_of (unhide CM _ (below_regrown _ _ _))
    clear hK K
    refine q_take (by kernel_rfl) (fun K hK => ?_)
    go_simp
    refine hK _ ?_
    clear hK K
    refine q_take (by kernel_rfl) (fun K hK => ?_)
    go_simp
    apply Exists.intro
    refine ⟨fun _ => ?_, hK _ ?_⟩
    exact Calls.regrown_of (unhide CMs _ (below_regrown _ _ _))
    clear hK K
    refine q_take (by kernel_rfl) (fun K hK => ?_)
    go_simp
    refine hK _ ?_
    clear hK K
    refine q_take (by kernel_rfl) (fun K hK => ?_)
    go_simp
    refine hK _ ?_
    clear hK K
    refine q_take (by kernel_rfl) (fun K hK => ?_)
    go_simp
    refine hK _ ?_
    clear hK K
    refine q_take (by kernel_rfl) (fun K hK => ?_)
    go_simp
    refine hK _ ?_
    clear hK K
    refine q_take (by kernel_rfl) (fun K hK => ?_)
    go_simp
    apply Exists.intro
    refine ⟨fun _ => ?_, hK _ ?_⟩
    exact Calls.regrown_of (unhide CE _ (below_regrown _ _ _))
    clear hK K
    refine q_take (by kernel_rfl) (fun K hK => ?_)
    go_simp
    refine hK _ ?_
    clear hK K
    refine q_take (by kernel_rfl) (fun K hK => ?_)
    go_simp
    refine hK _ ?_
    clear hK K
    refine q_take (by kernel_rfl) (fun K hK => ?_)
    go_simp
    refine hK _ ?_
    clear hK K
    refine q_take (by kernel_rfl) (fun K hK => ?_)
    go_simp
    apply Exists.intro
    refine ⟨fun _ => ?_, hK _ ?_⟩
    exact Calls.regrown_of (unhide CE1 _ (below_regrown _ _ _))
    clear hK K
    refine q_take (by kernel_rfl) (fun K hK => ?_)
    go_simp
    refine hK _ ?_
    clear hK K
    refine q_take (by kernel_rfl) (fun K hK => ?_)
    go_simp
    refine hK _ ?_
    clear hK K
    refine q_take (by kernel_rfl) (fun K hK => ?_)
    go_simp
    refine hK _ ?_
    clear hK K
    refine q_take (by kernel_rfl) (fun K hK => ?_)
    go_simp
    apply Exists.intro
    refine ⟨fun _ => ?_, hK _ ?_⟩
    exact Calls.regrown_of (unhide CE2 _ (below_regrown _ _ _))
    clear hK K
    refine q_take (by kernel_rfl) (fun K hK => ?_)
    go_simp
    refine hK _ ?_
    clear hK K
    refine q_take (by kernel_rfl) (fun K hK => ?_)
    go_simp
    refine hK _ ?_
    clear hK K
    refine q_take (by kernel_rfl) (fun K hK => ?_)
    go_simp
    rw [unhide HWR]
    refine hK _ ?_
    clear hK K
    refine q_take (by kernel_rfl) (fun K hK => ?_)
    go_simp
    refine hK _ ?_
    clear hK K
    refine q_take (by kernel_rfl) (fun K hK => ?_)
    go_simp
    refine hK _ ?_
    clear hK K
    refine q_take (by kernel_rfl) (fun K hK => ?_)
    go_simp
    refine hK _ ?_
    clear hK K
    refine q_take (by kernel_rfl) (fun K hK => ?_)
    go_simp
    refine hK _ ?_
    clear hK K
    refine q_take (by kernel_rfl) (fun K hK => ?_)
    go_simp
    apply Exists.intro
    refine ⟨fun _ => ?_, hK _ ?_⟩
    exact Calls.regrown_of (unhide CL1 _ (below_regrown _ _ _))
    clear hK K
    refine q_take (by kernel_rfl) (fun K hK => ?_)
    go_simp
    refine hK _ ?_
    clear hK K
    refine q_take (by kernel_rfl) (fun K hK => ?_)
    go_simp
    apply Exists.intro
    refine ⟨fun _ => ?_, hK _ ?_⟩
    exact Calls.regrown_of (unhide CL _ (below_regrown _ _ _))
    clear hK K
    refine q_take (by kernel_rfl) (fun K hK => ?_)
    go_simp
    refine hK _ ?_
    clear hK K
    refine q_take (by kernel_rfl) (fun K hK => ?_)
    go_simp
    refine hK _ ?_
    clear hK K
    refine q_take (by kernel_rfl) (fun K hK => ?_)
    go_simp
    refine hK _ ?_
    clear hK K
    refine q_take (by kernel_rfl) (fun K hK => ?_)
    go_simp
    refine hK _ ?_
    clear hK K
    refine q_take (by kernel_rfl) (fun K hK => ?_)
    go_simp
    refine hK _ ?_
    clear hK K
    refine q_take (by kernel_rfl) (fun K hK => ?_)
    go_simp
    refine hK _ ?_
    clear hK K
    refine q_take (by kernel_rfl) (fun K hK => ?_)
    go_simp
    apply Exists.intro
    refine ⟨fun _ => ?_, hK _ ?_⟩
    exact Calls.regrown_of (unhide CL2 _ (below_regrown _ _ _))
    clear hK K
    refine q_take (by kernel_rfl) (fun K hK => ?_)
    go_simp
    refine hK _ ?_
    clear hK K
    refine q_take (by kernel_rfl) (fun K hK => ?_)
    go_simp
    apply Exists.intro
    refine ⟨fun _ => ?_, hK _ ?_⟩
    exact Calls.regrown_of (unhide CL _ (below_regrown _ _ _))
    clear hK K
    refine q_take (by kernel_rfl) (fun K hK => ?_)
    go_simp
    refine hK _ ?_
    clear hK K
    refine q_take (by kernel_rfl) (fun K hK => ?_)
    go_simp
    refine hK _ ?_
    clear hK K
    refine q_take (by kernel_rfl) (fun K hK => ?_)
    go_simp
    refine hK _ ?_
    clear hK K
    refine q_take (by kernel_rfl) (fun K hK => ?_)
    go_simp
    refine hK _ ?_
    clear hK K
    refine q_take (by kernel_rfl) (fun K hK => ?_)
    go_simp
    apply Exists.intro
    refine ⟨fun _ => ?_, hK _ ?_⟩
    exact Calls.regrown_of (unhide CL _ (below_regrown _ _ _))
    clear hK K
    refine q_take (by kernel_rfl) (fun K hK => ?_)
    go_simp
    refine hK _ ?_
    clear hK K
    refine q_take (by kernel_rfl) (fun K hK => ?_)
    go_simp
    refine hK _ ?_
    clear hK K
    refine q_take (by kernel_rfl) (fun K hK => ?_)
    go_simp
    refine hK _ ?_
    clear hK K
    refine q_take (by kernel_rfl) (fun K hK => ?_)
    go_simp
    apply Exists.intro
    refine ⟨fun _ => ?_, hK _ ?_⟩
    exact Calls.regrown_of (unhide CL1 _ (below_regrown _ _ _))
    clear hK K
    refine q_take (by kernel_rfl) (fun K hK => ?_)
    go_simp
    refine hK _ ?_
    clear hK K
    refine q_take (by kernel_rfl) (fun K hK => ?_)
    go_simp
    refine hK _ ?_
    clear hK K
    refine q_take (by kernel_rfl) (fun K hK => ?_)
    go_simp
    refine hK _ ?_
    clear hK K
    refine q_take (by kernel_rfl) (fun K hK => ?_)
    go_simp
    apply Exists.intro
    refine ⟨fun _ => ?_, hK _ ?_⟩
    exact Calls.regrown_of (unhide CL _ (below_regrown _ _ _))
    clear hK K
    refine q_take (by kernel_rfl) (fun K hK => ?_)
    go_simp
    refine hK _ ?_
    clear hK K
    refine q_take (by kernel_rfl) (fun K hK => ?_)
    go_simp
    refine hK _ ?_
    clear hK K
    refine q_take (by kernel_rfl) (fun K hK => ?_)
    go_simp
    refine hK _ ?_
    clear hK K
    refine q_take (by kernel_rfl) (fun K hK => ?_)
    go_simp
    apply Exists.intro
    refine ⟨fun _ => ?_, hK _ ?_⟩
    exact Calls.regrown_of (unhide CL2 _ (below_regrown _ _ _))
    clear hK K
    refine q_take (by kernel_rfl) (fun K hK => ?_)
    go_simp
    refine hK _ ?_
    clear hK K
    refine q_take (by kernel_rfl) (fun K hK => ?_)
    go_simp
    refine hK _ ?_
    clear hK K
    refine q_take (by kernel_rfl) (fun K hK => ?_)
    go_simp
    refine hK _ ?_
    clear hK K
    refine q_take (by kernel_rfl) (fun K hK => ?_)
    go_simp
    refine hK _ ?_
    clear hK K
    refine wq_nil ?_
    intro _ hw9
    obtain ⟨⟨dq, osq⟩, hw9'⟩ := hw9
    subst hw9'
    have hHeld := below_regrown w2 dq osq
    generalize Go.Sort.grow (redrawn w2 dq) osq = wq at *
    have hfin := unhide HB5 _ hHeld
    clear hHeld
    go_wp2
    all_goals (go_ret; exact ⟨rfl, hfin⟩)

/-! ### THE ROW's STEP: WRITTEN OUT: LEAVE IT -/
set_option maxRecDepth 100000 in
theorem lifted (os : Os) (started : os.Started) (H : Type) (enc : TypeId × Value → H) :
    ReturnsInHanded {} Try.checked os 3 .any (Rows.fnSeenSpec.pre6 enc Try.prog Try.f3 Rows.fnSeenRow.domain false) (Rows.fnSeenSpec.post enc Try.prog Try.f3 false true false false) := by
  refine returnsInHanded_of_change (C := Try.checked) own started (by kernel_rfl) Try.func3
    (ChangeSpec.witness6 (enc := enc) (C := Try.checked) false ⟨#[], #[.slice none 0 0], []⟩ 8 (by kernel_rfl) (by kernel_rfl) (by kernel_rfl) (by kernel_rfl)) ?_
  intro W base args ds gs before hval0 hW hcnd _
  have hval : ∀ (j : Nat) t v, Try.f3.params[j]? = some t → args[j]? = some v → Value.okWide Try.prog W .any base t v := hval0
  have hW' := hW
  obtain ⟨p, q, hA0, hV, rfl, hfz, hnd⟩ := hW
  have hA : DataW.TrodAll enc Try.prog W 0 (fun _ => true) true Try.f3.params.toList args.toList ds p := hA0
  rw [Try.params3] at hA hval
  obtain ⟨v0, vs0, d0, ds0, p0, q0, hargs, rfl, rfl, h0, r0⟩ := trodAll_cons hA
  obtain ⟨rfl, rfl, rfl⟩ := trodAll_nil r0
  obtain rfl : args = #[v0] := by cases args; simp_all
  obtain ⟨rfl, rfl⟩ := trodVars_none hV
  obtain ⟨a0, len0, cap0, rfl⟩ := okWide_slice Try.underlying22 (hval 0 22 v0 rfl rfl)
  have k0 := h0
  have lt0 : ∀ x ∈ p0, x.block < W.heap.size := by obtain ⟨m, hm⟩ := k0; exact DataW.trod_lt m _ _ _ hm
  obtain ⟨z0, w0⟩ : ∃ zs, IsRow .u8 W a0 len0 cap0 zs := by
    obtain ⟨fuel, hf⟩ := h0
    rcases open_ints Try.underlying22 Try.underlying5 (by kernel_rfl) hf with ⟨hcs, _⟩ | ⟨x, l, c, zs, hcs, _, hl, hm, hz, _, hcell, hwz⟩
    · simp [Value.cells] at hcs
      obtain ⟨rfl, rfl, rfl⟩ := hcs
      exact ⟨[], .inl ⟨rfl, rfl, rfl, rfl⟩⟩
    · simp [Value.cells] at hcs
      obtain ⟨rfl, rfl, rfl⟩ := hcs
      exact ⟨zs, .inr ⟨_, rfl, hl, hm, by simpa using hz, hcell, hwz⟩⟩
  clear hA0 hval0
  refine (walk a0 len0 cap0 z0 W w0).mono fun e W' ⟨he, bel⟩ => ?_
  subst he
  exact ⟨_, rfl, _, _, _, [], _, [], hW', trodAll_mk1 (shut_bool Try.underlying4 _), (trodAll_cons_mk (Below.trod laidOut (by kernel_rfl) (of_decide_eq_true (by kernel_rfl)) k0 bel lt0) trodAll_mk0), rfl, bel.frame _, fun h => by cases h⟩

theorem over : Rows.fnSeenRow.holds Try.pinned (OpenSpec.ofChange Rows.fnSeenSpec) :=
  OpenClaim.holds_of_wide 3 Try.f3 rfl rfl rfl rfl rfl rfl rfl ⟨rfl, rfl, rfl, rfl, rfl⟩ rfl rfl rfl rfl rfl (by kernel_rfl) Try.func3 (by kernel_rfl)
    (of_decide_eq_true (by kernel_rfl)) (by unfold Func.isWrapper; first | (rw [if_pos (by decide +kernel)]; kernel_rfl) | (rw [if_neg (by decide +kernel)]; exact ⟨rfl, rfl⟩))
    (fun os started H enc _ => lifted os started H enc)

/-- ████ THE STATEMENT ████ -/
theorem proved : Rows.FnSeenSaid := over
#print axioms proved
end Go.Proofs.Ytchinpgjaddnkaa.fnSeen
