/-
  Sums over deeds of the program.
-/
import Derived.Test.YtigkhilgnaecjabDeeds1
import Derived.Test.YtigkhilgnaecjabDeeds3
import Derived.Shelf.Abstract
namespace Go.Proofs.Ytigkhilgnaecjab
open Go.ChangeShapes Go.WideShapes Go.ChangeAt Go.RowKit
set_option linter.unusedVariables false
set_option maxRecDepth 100000

theorem hmfD : ∀ (fn : Fn) (first cap : Array Value) (w : World), (Instr.makeFunc fn first cap).run Try.prog w = .ok (.func fn first cap) w := fun _ _ _ _ => rfl
def Tells1 (w : World) (fn : Nat) (caps : Array Value) (p : DeedD → Bool) : Prop :=
  ∀ (X : DeedD) (S : Nat → Prop) (cs : List Value) (w1 : World), Below w.heap.size w w1 → deedR w1 S cs X → deedBulk X ≤ 1048576 → Calls Try.prog fn (#[.agg cs.toArray] ++ caps) w1 fun e w' => e = .returned (.bool (p X)) ∧ Below w1.heap.size w1 w'
theorem boxed (w : World) (v : Value) (t : TypeId) : (w.alloc (.cells #[v] t)).cell? ⟨w.heap.size, 0, none⟩ = some v := by simp [go_sem]
set_option maxHeartbeats 2000000 in
theorem implHM1 (x : DeedD) (S0 : Nat → Prop) (c0 : List Value) (bp fn : Nat) (caps : Array Value) (p : DeedD → Bool) (wa w : World) (ha : Below wa.heap.size wa w) (hbp : bp < wa.heap.size) (hc : wa.cell? ⟨bp, 0, none⟩ = some (.func (.func fn) #[] caps)) (hf : Enters Try.prog fn) (ht : Tells1 wa fn caps p) (h0 : deedR w S0 c0 x) (b0 : deedBulk x ≤ 1048576) :
    Calls Try.prog 113 #[.agg c0.toArray, .pointer (some ⟨bp, 0, none⟩)] w fun e w' => e = .returned (.int .i64 (one (p x))) ∧ Below w.heap.size w w' := by
  have P0 := Held.new w c0 94
  have B0 := bnew w (.cells c0.toArray 94)
  have r0 : RowT Try.prog 94 c0.length := by rw [deedR_len h0]; exact rowIDeed
  have HR := hide h0
  clear h0
  have hal := bthen ha B0
  have c1 := hal.cell (p := ⟨bp, 0, none⟩) hbp
  rw [hc] at c1
  have HT := hide ht
  have HFN := hide hf
  clear ht hf hc
  go_enter Try.func113, Try.ntmps113
  go_upto_region 1 with fail
  generalize World.alloc w _ = w0 at *
  go_wp2_with (first | (refine wpl_load rfl 94 _ rfl _ 0 rfl c0 P0.inB r0 ?_))
  rw [unhide HFN, Oper.upon_enter]
  have hq := unhide HT x S0 c0 _ hal (deedR_keeps _ _ _ None1 _ _ (Below.turn B0) none_off (unhide HR)) b0
  cases hp : p x
  · have HF := hide (show one (p x) = 0 by rw [hp]; rfl)
    rw [hp] at hq
    refine hq.mono ?_
    rintro e w1 ⟨rfl, hb1⟩
    clear hq
    go_wp2
    go_ret
    exact ⟨by rw [unhide HF]; rfl, bthen B0 hb1⟩
  · have HF := hide (show one (p x) = 1 by rw [hp]; rfl)
    rw [hp] at hq
    refine hq.mono ?_
    rintro e w1 ⟨rfl, hb1⟩
    clear hq
    go_wp2
    go_ret
    exact ⟨by rw [unhide HF]; rfl, bthen B0 hb1⟩
set_option maxHeartbeats 2000000 in
theorem implHowMany (l : List DeedD) (S0 : Nat → Prop) (v0 : Value) (w : World) (h0 : LAt 20 deedR w S0 v0 l) (b0 : bulkL deedBulk l ≤ 1048576) (fn : Nat) (caps : Array Value) (p : DeedD → Bool) (hf : Enters Try.prog fn) (ht : Tells1 w fn caps p) :
    Calls Try.prog 54 #[v0, .func (.func fn) #[] caps] w fun e w' => e = .returned (.int .i64 (sumI (fun x => one (p x)) l)) ∧ Below w.heap.size w w' := by
  obtain ⟨a, cap, rfl⟩ := h0.form
  have hmf := hmfD
  have hlen := bulkL_len deedBulk l
  have hb := bnew w (.cells #[.func (.func fn) #[] caps] 111)
  have hbx := boxed w (.func (.func fn) #[] caps) 111
  have HT := hide ht
  have HFN := hide hf
  have HA := hide h0
  clear ht hf h0
  go_enter Try.func54, Try.ntmps54
  go_upto_region 1 with fail
  generalize hW : World.alloc w _ = wa at *
  have hsz : wa.heap.size = w.heap.size + 1 := by rw [← hW]; simp
  have HSZ := hide hsz
  clear hW hsz
  go_wp2_with fail
  refine (implAddedUpDeed l S0 _ wa ((unhide HA).keep deedR_keeps hb) b0 113 #[.pointer (some ⟨w.heap.size, 0, none⟩)] (fun x => one (p x)) (by omega) (enters_of Try.func113 (by kernel_rfl) rfl) ?_).mono ?_
  · intro X S cs w1 hb1 hx hX
    exact implHM1 X S cs w.heap.size fn caps p wa w1 hb1 (by rw [unhide HSZ]; omega) hbx (unhide HFN) (fun X S cs w2 h2 => unhide HT X S cs w2 (bthen hb h2)) hx hX
  · rintro e w1 ⟨rfl, hb1⟩
    clear hmf
    go_wp2
    go_ret
    exact ⟨rfl, bthen hb hb1⟩
set_option maxHeartbeats 2000000 in
theorem implTookIn1 (x : DeedD) (f t : Int) (S0 : Nat → Prop) (c0 : List Value) (bp bq : Nat) (w : World) (hbp : bp < w.heap.size) (hc : w.cell? ⟨bp, 0, none⟩ = some (.int .i64 f)) (hbq : bq < w.heap.size) (hd : w.cell? ⟨bq, 0, none⟩ = some (.int .i64 t)) (h0 : deedR w S0 c0 x) (b0 : deedBulk x ≤ 1048576) :
    Calls Try.prog 130 #[.agg c0.toArray, .pointer (some ⟨bp, 0, none⟩), .pointer (some ⟨bq, 0, none⟩)] w fun e w' => e = .returned (.int .i64 (gTookIn f t x)) ∧ Below w.heap.size w w' := by
  have P0 := Held.new w c0 94
  have B0 := bnew w (.cells c0.toArray 94)
  have r0 : RowT Try.prog 94 c0.length := by rw [deedR_len h0]; exact rowIDeed
  have HR := hide h0
  clear h0
  have c1 := B0.cell (p := ⟨bp, 0, none⟩) hbp
  rw [hc] at c1
  have c2 := B0.cell (p := ⟨bq, 0, none⟩) hbq
  rw [hd] at c2
  go_enter Try.func130, Try.ntmps130
  go_upto_region 1 with fail
  generalize World.alloc w _ = w0 at *
  go_wp2_with (first | (refine wpl_load rfl 94 _ rfl _ 0 rfl c0 P0.inB r0 ?_))
  have hq := implJudgedIn x f t S0 c0 _ (deedR_keeps _ _ _ None1 _ _ (Below.turn B0) none_off (unhide HR)) b0
  cases hp : whenB f t x
  · have HF := hide (show gTookIn f t x = 0 by simp [gTookIn, hp])
    rw [hp] at hq
    refine hq.mono ?_
    rintro e w1 ⟨rfl, hb1⟩
    clear hq
    go_wp2
    go_ret
    exact ⟨by rw [unhide HF]; rfl, bthen B0 hb1⟩
  · have HF := hide (show gTookIn f t x = x.took by simp [gTookIn, hp])
    rw [hp] at hq
    refine hq.mono ?_
    rintro e w1 ⟨rfl, hb1⟩
    clear hq
    have p13 := (P0.keep hb1).2 13 _ (deedR_c13 (unhide HR))
    go_wp2
    go_ret
    exact ⟨by rw [unhide HF]; rfl, bthen B0 hb1⟩
set_option maxHeartbeats 2000000 in
theorem implTookIn (l : List DeedD) (f t : Int) (S0 : Nat → Prop) (v0 : Value) (w : World) (h0 : LAt 20 deedR w S0 v0 l) (b0 : bulkL deedBulk l ≤ 1048576) :
    Calls Try.prog 75 #[v0, .int .i64 f, .int .i64 t] w fun e w' => e = .returned (.int .i64 (sumI (gTookIn f t) l)) ∧ Below w.heap.size w w' := by
  obtain ⟨a, cap, rfl⟩ := h0.form
  have hmf := hmfD
  have hlen := bulkL_len deedBulk l
  have hb1 := bnew w (.cells #[.int .i64 f] 3)
  have hb2 := bnew (w.alloc (.cells #[.int .i64 f] 3)) (.cells #[.int .i64 t] 3)
  have hbx := hb2.cell (p := ⟨w.heap.size, 0, none⟩) (by simp)
  rw [boxed w (.int .i64 f) 3] at hbx
  have hby := boxed (w.alloc (.cells #[.int .i64 f] 3)) (.int .i64 t) 3
  rw [show (w.alloc (.cells #[.int .i64 f] 3)).heap.size = w.heap.size + 1 by simp] at hby
  have hb := bthen hb1 hb2
  have HA := hide h0
  clear h0 hb1 hb2
  go_enter Try.func75, Try.ntmps75
  go_upto_region 1 with fail
  generalize hW : World.alloc (World.alloc w _) _ = wa at *
  have HSZ := hide (show w.heap.size + 1 < wa.heap.size by rw [← hW]; simp)
  clear hW
  go_wp2_with fail
  refine (implAddedUpDeed l S0 _ wa ((unhide HA).keep deedR_keeps hb) b0 130 #[.pointer (some ⟨w.heap.size, 0, none⟩), .pointer (some ⟨w.heap.size + 1, 0, none⟩)] (gTookIn f t) (by omega) (enters_of Try.func130 (by kernel_rfl) rfl) ?_).mono ?_
  · intro X S cs w1 hb1 hx hX
    have hz := unhide HSZ
    have hz1 := hb1.size
    exact implTookIn1 X f t S cs w.heap.size (w.heap.size + 1) w1 (by omega) (by rw [hb1.cell (by show w.heap.size < wa.heap.size; omega)]; exact hbx) (by omega) (by rw [hb1.cell (by show w.heap.size + 1 < wa.heap.size; omega)]; exact hby) hx hX
  · rintro e w1 ⟨rfl, hb1⟩
    clear hmf
    go_wp2
    go_ret
    exact ⟨rfl, bthen hb hb1⟩
end Go.Proofs.Ytigkhilgnaecjab
