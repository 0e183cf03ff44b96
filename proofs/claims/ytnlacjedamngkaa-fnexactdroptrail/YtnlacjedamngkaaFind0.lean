/-
  What FindTrail answers.
-/
import Derived.Test.YtnlacjedamngkaaTrlAt
import Derived.Test.YtnlacjedamngkaaAStripe
import Derived.Test.YtnlacjedamngkaaATrail
import Derived.Test.YtnlacjedamngkaaToSt
namespace Go.Proofs.Ytnlacjedamngkaa
open Go.ChangeShapes Go.WideShapes Go.ChangeAt Go.RowKit
set_option linter.unusedVariables false
set_option maxRecDepth 100000

theorem stripe_in2 (x : Int) (m : Nat) (h : 1 ≤ m) : ∃ j : Nat, j < m ∧ stripev x m = (j : Int) := by
  have hm : (1 : Int) ≤ (m : Int) := by omega
  have h0 : 0 ≤ stripev x m ∧ stripev x m < m := by
    unfold stripev
    rw [if_neg (by omega)]
    have := mixv_lo x
    exact ⟨Int.tmod_nonneg _ this, Int.tmod_lt_of_pos _ (by omega)⟩
  exact ⟨(stripev x m).toNat, by omega, by omega⟩
theorem idx_is {α : Type} {p : α → Bool} {l : List α} (h : ¬ idxv p l < 0) : ∃ k : Nat, k < l.length ∧ idxv p l = (k : Int) := by
  unfold idxv at *
  cases e : l.findIdx? p with
  | none => rw [e] at h; simp at h
  | some i => exact ⟨i, (List.findIdx?_eq_some_iff_getElem.1 e).1, rfl⟩
def noTrail : TrailD := ⟨0, 0, 0, []⟩
def trailsAt (l : List StripeD) (id : Int) : List TrailD := match l[(stripev id l.length).toNat]? with | some s => s.l | none => []
def placeAt (l : List StripeD) (id : Int) : Int := atID (trailsAt l id) id
def foundT (l : List StripeD) (id : Int) : TrailD := if placeAt l id < 0 then noTrail else (trailsAt l id).getD (placeAt l id).toNat noTrail
def foundB (l : List StripeD) (id : Int) : Bool := decide (0 ≤ placeAt l id)
theorem at_nil (l : List StripeD) (id : Int) (h : l.length = 0) : placeAt l id = -1 := by
  obtain rfl := List.length_eq_zero_iff.1 h
  rfl
theorem at_is (l : List StripeD) (id : Int) (j : Nat) (hj : j < l.length) (e : stripev id l.length = (j : Int)) : trailsAt l id = l[j].l := by
  have h : (stripev id l.length).toNat = j := by omega
  unfold trailsAt
  rw [h, List.getElem?_eq_getElem hj]
theorem found_no (l : List StripeD) (id : Int) (h : placeAt l id < 0) : foundT l id = noTrail ∧ foundB l id = false := by
  refine ⟨by rw [foundT, if_pos h], ?_⟩
  unfold foundB
  exact decide_eq_false (by omega)
theorem found_is (l : List StripeD) (id : Int) (k : Nat) (hk : k < (trailsAt l id).length) (e : placeAt l id = (k : Int)) : foundT l id = (trailsAt l id)[k] ∧ foundB l id = true := by
  refine ⟨?_, ?_⟩
  · rw [foundT, if_neg (by omega), e]
    simp [List.getD, hk]
  · unfold foundB
    exact decide_eq_true (by omega)
theorem res_row2 {P : Program} {fn : Func} {tmps : Array Value} {w : World} {t u : Tmp} {ty : TypeId} {b o : Nat} {cs : List Value} {v : Value} (hr : fn.results = #[.cell t ty, .tmp u]) (ht : tmps.getD t undef = .pointer (some ⟨b, o, none⟩)) (hu : tmps.getD u undef = v) (h : InB w b o cs) (hrow : RowT P ty cs.length) :
    (results fn tmps).run P w = .ok (.tuple #[.agg cs.toArray, v]) w := by
  obtain ⟨d, hu', hd, hi⟩ := hrow
  have hl := run_loadVar_mid (P := P) w b o ty cs d h hu' hd hi
  unfold results
  rw [hr]
  have ht' : tmps[t]?.getD undef = .pointer (some ⟨b, o, none⟩) := by simpa using ht
  have hu2 : tmps[u]?.getD undef = v := by simpa using hu
  simp [ht', hu2, asAddr, hl]
theorem no_trail (w : World) (S : Nat → Prop) : trailO w S [.int .i64 0, .int .i64 0, .int .i64 0, .slice none 0 0] noTrail := ⟨_, rfl, LOw.nil _ _ _ _ _ _⟩
theorem stripe_bulk_l {l : List StripeD} {j : Nat} (hj : j < l.length) (h : bulkL stripeBulk l ≤ 1048576) : bulkL trailBulk l[j].l ≤ 1048576 := by
  have := bulkL_mem stripeBulk (List.getElem_mem hj)
  have e : stripeBulk l[j] = bulkL trailBulk l[j].l := rfl
  omega
theorem trail_bulk_k {l : List TrailD} {k : Nat} (hk : k < l.length) (h : bulkL trailBulk l ≤ 1048576) : trailBulk l[k] ≤ 1048576 := by
  have := bulkL_mem trailBulk (List.getElem_mem hk)
  omega
end Go.Proofs.Ytnlacjedamngkaa
