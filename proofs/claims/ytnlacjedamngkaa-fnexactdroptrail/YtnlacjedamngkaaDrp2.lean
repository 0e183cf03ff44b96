/-
  Copies of lists of trails, of the program.
-/
import Derived.Test.YtnlacjedamngkaaTrl2
namespace Go.Proofs.Ytnlacjedamngkaa
open Go.ChangeShapes Go.WideShapes Go.ChangeAt Go.RowKit
set_option linter.unusedVariables false
set_option maxRecDepth 100000

set_option maxHeartbeats 4000000 in
theorem implEachTrailC (l : List TrailD) (S : Nat → Prop) (v : Value) (w : World) (h0 : LAt 4 trailR w S v l) (b0 : bulkL trailBulk l ≤ 1048576) :
    Calls Try.prog 92 #[v, .func (.func 70) #[] #[]] w fun e w' => ∃ g, e = .returned (.slice (some ⟨g, 0, none⟩) l.length l.length) ∧ LOw 4 trailO w' (Within w.heap.size w'.heap.size) (.slice (some ⟨g, 0, none⟩) l.length l.length) l ∧ Below w.heap.size w w' := by
  obtain ⟨a, cap, rfl⟩ := h0.form
  have hl := bulkL_len trailBulk l
  have HA := hide h0
  clear h0
  obtain ⟨w0, hmk, hrow, hb0⟩ := mMakeTrail l.length (by omega) w
  go_enter Try.func92, Try.ntmps92
  go_wp2
  go_loopw [13] (fun i wk => ∃ k : Nat, k ≤ l.length ∧ i = .int .i64 k ∧ Below w.heap.size w wk ∧ Hid (Filled 4 trailO w wk l k)) (fun i _ => l.length - (intOf i).toNat)
  case atStart => exact ⟨0, Nat.zero_le _, rfl, hb0, hide (Filled.start _ _ _ _ _ hrow)⟩
  case round =>
    obtain ⟨k, hk, rfl, hbl, hfl⟩ := hrel
    have hbs := hbl.size
    by_cases hlt : k < l.length
    · have hki : (k : Int) < (l.length : Int) := by omega
      obtain ⟨b, o, cs, rfl, hbk, hSb, hcs, hin⟩ := (unhide HA).at k hlt
      have hcs := trailR_keeps _ _ S None1 cs _ (Below.turn hbl) none_off hcs
      have hin := hin.turn hbk (Below.turn hbl) (fun e => e)
      have hXb : trailBulk l[k] ≤ 1048576 := by have := bulkL_mem trailBulk (List.getElem_mem hlt); omega
      have hrw : RowT Try.prog 50 cs.length := by rw [trailR_len hcs]; exact rowITrail
      have HL1 := hide (trailR_len hcs)
      have on1 := trailR_one hcs
      generalize hX : l[k] = X at *
      have HX := hide hX
      have hA1 := Held.new wr cs 50
      have hbA := bnew wr (.cells cs.toArray 50)
      have hcs := trailR_keeps _ _ S None1 cs _ (Below.turn hbA) none_off hcs
      have HBA := hide hbA
      clear hX hmk hrow hbA
      go_upto_region 5 with (first | (refine wpl_load rfl 50 _ rfl _ _ rfl cs hin hrw ?_) | (refine wpl_store_new rfl _ _ _ rfl _ cs rfl rfl ?_ on1 hrw ?_; (rw [unhide HL1]; rfl)))
      generalize hWa : World.alloc wr _ = wa at *
      have hI := hA1.inB
      clear hWa hin on1 hA1
      go_wp2_with (first | (refine wpl_load rfl 50 _ rfl _ 0 rfl cs hI hrw ?_))
      refine (implCopyTrail X S cs wa hcs hXb).mono ?_
      rintro e w2 ⟨cs2, rfl, yy, hb2'⟩
      have hb2 := bthen (unhide HBA) hb2'
      have hln := trailO_len yy
      have on2 := trailR_one (trailO_read _ _ _ _ yy)
      have hri : RowT Try.prog 50 cs2.length := by rw [hln]; exact rowITrail
      have hwr : WrAt w2 w.heap.size (k * 4) cs2.length := by
        have h := ((unhide hfl).1.keep hb2).part (k * 4) 4 (by omega)
        rw [hln]; rwa [Nat.zero_add] at h
      have yy := trailO_widens _ _ (Within wr.heap.size w2.heap.size) _ _ (fun k hk => ⟨Nat.le_trans (unhide HBA).size hk.1, hk.2⟩) yy
      have HB := hide (And.intro yy (And.intro hb2 hln))
      clear yy hb2 hln hb2' HBA hI hcs
      go_wp2_with (first | (refine wpl_store_at rfl 50 _ _ rfl _ _ cs2 rfl rfl hwr on2 hri ?_))
      go_roundw
      case rel =>
        obtain ⟨yy, hb2, hln⟩ := unhide HB
        have st := Filled.step (cs := cs2) trailO_keeps (unhide hfl) hlt hb2 (by rw [unhide HX]; exact yy) hln
        exact ⟨k + 1, by omega, by go_num, (bthen hbl hb2).trans ((putL_turn _ _ _ _ _).belowFrom (bthen hbl hb2).size (fun k hk => by omega)), hide st⟩
      case measure => simp [intOf]; omega
    · have hki : ¬ (k : Int) < (l.length : Int) := by omega
      obtain rfl : k = l.length := by omega
      go_wp2
      go_ret
      exact ⟨_, rfl, (unhide hfl).done (by omega), hbl⟩
theorem implCopyTrails (l : List TrailD) (S : Nat → Prop) (v : Value) (w : World) (h0 : LAt 4 trailR w S v l) (b0 : bulkL trailBulk l ≤ 1048576) :
    Calls Try.prog 58 #[v] w fun e w' => ∃ g, e = .returned (.slice (some ⟨g, 0, none⟩) l.length l.length) ∧ LOw 4 trailO w' (Within w.heap.size w'.heap.size) (.slice (some ⟨g, 0, none⟩) l.length l.length) l ∧ Below w.heap.size w w' := by
  have H := hide (implEachTrailC l S v w h0 b0)
  go_enter Try.func58, Try.ntmps58
  go_wp2_with fail
  refine (unhide H).mono ?_
  rintro e w2 ⟨v2, rfl, y, hb⟩
  go_wp2
  go_ret
  exact ⟨_, rfl, y, hb⟩
end Go.Proofs.Ytnlacjedamngkaa
