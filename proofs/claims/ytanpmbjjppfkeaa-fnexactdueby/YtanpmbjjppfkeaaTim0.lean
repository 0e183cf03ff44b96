/-
  Timers of the program.
-/
import Derived.Test.YtanpmbjjppfkeaaIter3
namespace Go.Proofs.Ytanpmbjjppfkeaa
open Go.ChangeShapes Go.WideShapes Go.ChangeAt Go.RowKit
set_option linter.unusedVariables false
set_option maxRecDepth 100000

def allT (x : WheelD) : List TimerD := x.near.flatten ++ x.far.flatten ++ x.rest
theorem timerC_len (x : TimerD) : (timerC x).length = 3 := rfl
theorem timers_done {t : TypeId} {base : Nat} {w : World} {v : Value} {zs : List TimerD} (h : w.ownsRow base t 3 v zs.length (cellsT zs)) (hl : zs.length ≤ 9223372036854775807) : LOw 3 timerO w (Within base w.heap.size) v zs :=
  own_flat (f := timerC) h timerC_len (fun x _ => rfl) hl
theorem flat_tl {w0 : World} {S : Nat → Prop} (p : Int) (ys : List (Slot w0 S)) {ls : List (List TimerD)} (h : ys.map (fun y => y.1.2) = ls) : tl (places p ys) = ls.flatten := by
  subst h
  have e : (places p ys).map (fun x => x.2.2.1.2) = ys.map (fun y => y.1.2) := by
    apply List.ext_getElem
    · simp [places]
    · intro i h1 h2
      simp [places]
  unfold tl
  rw [List.flatMap_def, e]
theorem bulk_flat3 (ls : List (List TimerD)) : ls.flatten.length ≤ bulkL timerSBulk ls := by
  unfold bulkL
  induction ls with
  | nil => simp
  | cons x r ih =>
    have : x.length ≤ timerSBulk x := bulkL_len timerBulk x
    simp only [List.flatten_cons, List.length_append, List.map_cons, List.sum_cons, List.length_cons]
    omega
theorem allT_len (x : WheelD) (h : wheelBulk x ≤ 1048576) : (allT x).length ≤ 3145728 := by
  have h1 := bulk_flat3 x.near
  have h2 := bulk_flat3 x.far
  have h3 := bulkL_len timerBulk x.rest
  unfold wheelBulk at h
  unfold allT
  simp only [List.length_append]
  omega
theorem implTimers (x : WheelD) (S : Nat → Prop) (cs : List Value) (w : World) (h0 : wheelR w S cs x) (b0 : wheelBulk x ≤ 1048576) :
    Calls Try.prog 45 #[.agg cs.toArray] w fun e w' => ∃ v', e = .returned v' ∧ LOw 3 timerO w' (Within w.heap.size w'.heap.size) v' (allT x) ∧ Below w.heap.size w w' := by
  have hall := allT_len x b0
  obtain ⟨s0, s1, s2, rfl, g0, g1, g2⟩ := h0
  obtain ⟨a0, k0, rfl⟩ := g0.form
  obtain ⟨a1, k1, rfl⟩ := g1.form
  obtain ⟨a2, k2, rfl⟩ := g2.form
  unfold wheelBulk at b0
  have hb0 : ∀ y ∈ x.near, y.length ≤ 1048576 := fun y hy => by
    have := bulkL_mem timerSBulk hy
    have : y.length ≤ timerSBulk y := bulkL_len timerBulk y
    omega
  have hb1 : ∀ y ∈ x.far, y.length ≤ 1048576 := fun y hy => by
    have := bulkL_mem timerSBulk hy
    have : y.length ≤ timerSBulk y := bulkL_len timerBulk y
    omega
  have hl0 := bulkL_len timerSBulk x.near
  have hl1 := bulkL_len timerSBulk x.far
  have hl2 := bulkL_len timerBulk x.rest
  obtain ⟨nS, n1, n2, n3⟩ := slots_of g0 hb0
  obtain ⟨fS, f1, f2, f3⟩ := slots_of g1 hb1
  have hrl : x.rest.length ≤ 1048576 := by omega
  obtain ⟨rS, hrS⟩ : ∃ rS : Slot w S, rS.1 = (.slice a2 x.rest.length k2, x.rest) := ⟨⟨(_, _), g2, hrl⟩, rfl⟩
  have ht := Timers_in Fence.wide 20 trivial trivial trivial trivial trivial rfl (by omega) x.now a0 a1 a2 x.near.length k0 x.far.length k1 x.rest.length k2 S w nS fS rS (by rw [hrS]) n1.symm f1.symm (by omega) (by omega) n3 f3
  have e : tl (places 0 nS ++ places 1 fS ++ [(2, 0, rS)]) = allT x := by
    have e1 : tl (places 0 nS ++ places 1 fS) = tl (places 0 nS) ++ tl (places 1 fS) := by simp [tl]
    unfold allT
    rw [tl_snoc, e1, flat_tl 0 nS n2, flat_tl 1 fS f2]
    show _ ++ rS.1.2 = _
    rw [hrS]
  rw [e] at ht
  refine (callsIn_wide.1 ht).mono ?_
  rintro e w' ⟨v, rfl, how, hb⟩
  exact ⟨v, rfl, timers_done how (by omega), hb⟩
end Go.Proofs.Ytanpmbjjppfkeaa
