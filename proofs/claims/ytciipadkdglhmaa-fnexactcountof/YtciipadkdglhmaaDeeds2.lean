/-
  Sums over deeds of the program.
-/
import Derived.Test.YtciipadkdglhmaaDeeds1
import Derived.Test.YtciipadkdglhmaaDeeds3
import Derived.Shelf.Abstract
namespace Go.Proofs.Ytciipadkdglhmaa
open Go.ChangeShapes Go.WideShapes Go.ChangeAt Go.RowKit
set_option linter.unusedVariables false
set_option maxRecDepth 100000

theorem hmfD : ∀ (fn : Fn) (first cap : Array Value) (w : World), (Instr.makeFunc fn first cap).run Try.prog w = .ok (.func fn first cap) w := fun _ _ _ _ => rfl
def Tells1 (w : World) (fn : Nat) (caps : Array Value) (p : DeedD → Bool) : Prop :=
  ∀ (X : DeedD) (S : Nat → Prop) (cs : List Value) (w1 : World), Below w.heap.size w w1 → deedR w1 S cs X → deedBulk X ≤ 1048576 → Calls Try.prog fn (#[.agg cs.toArray] ++ caps) w1 fun e w' => e = .returned (.bool (p X)) ∧ Below w1.heap.size w1 w'
theorem boxed (w : World) (v : Value) (t : TypeId) : (w.alloc (.cells #[v] t)).cell? ⟨w.heap.size, 0, none⟩ = some v := by simp [go_sem]
set_option maxHeartbeats 2000000 in
theorem implHM1 (x : DeedD) (S0 : Nat → Prop) (c0 : List Value) (bp fn : Nat) (caps : Array Value) (p : DeedD → Bool) (wa w : World) (ha : Below wa.heap.size wa w) (hbp : bp < wa.heap.size) (hc : wa.cell? ⟨bp, 0, none⟩ = some (.func (.func fn) #[] caps)) (hf : Enters Try.prog fn) (ht : Tells1 wa fn caps p) (h0 : deedR w S0 c0 x) (b0 : deedBulk x ≤ 1048576) :
    Calls Try.prog 57 #[.agg c0.toArray, .pointer (some ⟨bp, 0, none⟩)] w fun e w' => e = .returned (.int .i64 (one (p x))) ∧ Below w.heap.size w w' := by
  have P0 := Held.new w c0 77
  have B0 := bnew w (.cells c0.toArray 77)
  have r0 : RowT Try.prog 77 c0.length := by rw [deedR_len h0]; exact rowIDeed
  have HR := hide h0
  clear h0
  have hal := bthen ha B0
  have c1 := hal.cell (p := ⟨bp, 0, none⟩) hbp
  rw [hc] at c1
  have HT := hide ht
  have HFN := hide hf
  clear ht hf hc
  go_enter Try.func57, Try.ntmps57
  go_upto_region 1 with fail
  generalize World.alloc w _ = w0 at *
  go_wp2_with (first | (refine wpl_load rfl 77 _ rfl _ 0 rfl c0 P0.inB r0 ?_))
  rw [unhide HFN, Oper.upon_enter]
  have hq := unhide HT x S0 c0 _ hal (deedR_keeps _ _ _ None1 _ _ (Below.turn B0) none_off (unhide HR)) b0
  cases hp : p x
  · have HF := hide (show one (p x) = 0 by rw [hp]; rfl)
    rw [hp] at hq
    refine hq.mono ?_
    rintro e w1 ⟨rfl, hb1⟩
    clear hq
    go_wp2
    go_ret
    exact ⟨by rw [unhide HF]; rfl, bthen B0 hb1⟩
  · have HF := hide (show one (p x) = 1 by rw [hp]; rfl)
    rw [hp] at hq
    refine hq.mono ?_
    rintro e w1 ⟨rfl, hb1⟩
    clear hq
    go_wp2
    go_ret
    exact ⟨by rw [unhide HF]; rfl, bthen B0 hb1⟩
set_option maxHeartbeats 2000000 in
theorem implHowMany (l : List DeedD) (S0 : Nat → Prop) (v0 : Value) (w : World) (h0 : LAt 20 deedR w S0 v0 l) (b0 : bulkL deedBulk l ≤ 1048576) (fn : Nat) (caps : Array Value) (p : DeedD → Bool) (hf : Enters Try.prog fn) (ht : Tells1 w fn caps p) :
    Calls Try.prog 27 #[v0, .func (.func fn) #[] caps] w fun e w' => e = .returned (.int .i64 (sumI (fun x => one (p x)) l)) ∧ Below w.heap.size w w' := by
  obtain ⟨a, cap, rfl⟩ := h0.form
  have hmf := hmfD
  have hlen := bulkL_len deedBulk l
  have hb := bnew w (.cells #[.func (.func fn) #[] caps] 96)
  have hbx := boxed w (.func (.func fn) #[] caps) 96
  have HT := hide ht
  have HFN := hide hf
  have HA := hide h0
  clear ht hf h0
  go_enter Try.func27, Try.ntmps27
  go_upto_region 1 with fail
  generalize hW : World.alloc w _ = wa at *
  have hsz : wa.heap.size = w.heap.size + 1 := by rw [← hW]; simp
  have HSZ := hide hsz
  clear hW hsz
  go_wp2_with fail
  refine (implAddedUpDeed l S0 _ wa ((unhide HA).keep deedR_keeps hb) b0 57 #[.pointer (some ⟨w.heap.size, 0, none⟩)] (fun x => one (p x)) (by omega) (enters_of Try.func57 (by kernel_rfl) rfl) ?_).mono ?_
  · intro X S cs w1 hb1 hx hX
    exact implHM1 X S cs w.heap.size fn caps p wa w1 hb1 (by rw [unhide HSZ]; omega) hbx (unhide HFN) (fun X S cs w2 h2 => unhide HT X S cs w2 (bthen hb h2)) hx hX
  · rintro e w1 ⟨rfl, hb1⟩
    clear hmf
    go_wp2
    go_ret
    exact ⟨rfl, bthen hb hb1⟩
end Go.Proofs.Ytciipadkdglhmaa
