/-
  A list laid anew, of the program (by copy).
-/
import Derived.Test.YtjhlammjnggghaaCopy0
namespace Go.Proofs.Ytjhlammjnggghaa
open Go.ChangeShapes Go.WideShapes Go.ChangeAt Go.RowKit
set_option linter.unusedVariables false
set_option maxRecDepth 100000

theorem sizeAttr2 : (Try.prog.info? 180).map (·.size) = some 4 := by kernel_rfl
set_option maxHeartbeats 2000000 in
theorem implLaidAttr (l : List AttrD) (S : Nat → Prop) (v : Value) (b0 : Nat) (w : World) (h0 : LAt 4 attrR w S v l) (hc : w.cell? ⟨b0, 0, none⟩ = some v) (hb0 : b0 < w.heap.size) (hlen : l.length ≤ 1048576) :
    Calls Try.prog 198 #[.slice (some ⟨b0, 0, none⟩) 1 1] w fun e w' => ∃ v', e = .returned v' ∧ LOw 4 attrO w' (Within w.heap.size w'.heap.size) v' l ∧ Below w.heap.size w w' := by
  have HQ := hide (attrs_ok h0)
  obtain ⟨a, cap, rfl⟩ := h0.form
  have hsr := attrs_src h0
  obtain ⟨w0, hmk, hrow, hbm⟩ := mMakeAttr l.length hlen w
  have hc0 : w0.cell? ⟨b0, 0, none⟩ = some (.slice a l.length cap) := by rw [hbm.cell (p := ⟨b0, 0, none⟩) hb0]; exact hc
  have hmid : ∃ w4 : World, (Builtin.copy_ #[31, 31] 3 #[.slice (some ⟨w.heap.size, 0, none⟩) l.length l.length, .slice a l.length cap]).run Try.prog w0 = .ok (.int .i64 l.length) w4 ∧ LOw 4 attrO w4 (Within w.heap.size w4.heap.size) (.slice (some ⟨w.heap.size, 0, none⟩) l.length l.length) l ∧ Below w.heap.size w w4 := by
    rcases hsr with rfl | ⟨b, o, rfl, hbk, hsrc⟩
    · exact ⟨w0, run_copy0 w0 _ _ _ 180 4 _ _ _ _ _ Try.underlying31 sizeAttr2, LOw.nil _ _ _ _ _ _, hbm⟩
    · have hsrc' : ∀ j u, (l.flatMap attrC)[j]? = some u → w0.cell? ((⟨b, o, none⟩ : Addr).add j) = some u := fun j u hu => by
        have e : (⟨b, o, none⟩ : Addr).add j = ⟨b, o + j, none⟩ := by unfold Addr.add; split <;> simp_all
        have := hsrc j u hu
        rw [e] at this ⊢
        rw [hbm.cell (p := ⟨b, o + j, none⟩) hbk]; exact this
      have hfl := flatMap_len l attrC attrC_len
      have hmin : Nat.min l.length l.length = l.length := Nat.min_self _
      have hr := run_copyN (P := Try.prog) w0 31 31 3 180 4 w.heap.size 0 l.length l.length ⟨b, o, none⟩ l.length cap (l.flatMap attrC) Try.underlying31 sizeAttr2 (by rw [hfl, hmin]) hsrc' (by rw [hfl]; exact hrow) (attrs_one l)
      rw [hmin] at hr
      refine ⟨_, hr, ?_, hbm.trans ((putL_turn _ _ _ _ _).belowFrom hbm.size (fun k hk => by omega))⟩
      have hin := putL_at (b := w.heap.size) (o := 0) (l.flatMap attrC) 0 hrow (by omega) (by rw [hfl]; omega)
      have hwr := putL_wr (b := w.heap.size) (o := 0) (l.flatMap attrC) 0 hrow
      refine ⟨_, _, rfl, by omega, .inr ⟨w.heap.size, 0, fun _ _ => False, rfl, ⟨Nat.le_refl _, hwr.1⟩, hwr, fun _ _ e => e.elim, fun _ _ _ e => e.elim, fun i x hx => ⟨attrC x, ⟨rfl, unhide HQ x (List.mem_of_getElem? hx)⟩, fun j u hu => ?_⟩⟩⟩
      have hj : j < 4 := by rw [← attrC_len x]; exact (List.getElem?_eq_some_iff.1 hu).1
      have := hin (i * 4 + j) u (by rw [List.flatMap_def, flat_at (N := 4) _ i j (fun cs hcs => by obtain ⟨y, _, rfl⟩ := List.mem_map.1 hcs; rfl) hj, List.getElem?_map, hx]; exact hu)
      rw [show 0 + i * 4 + j = 0 + 0 + (i * 4 + j) by omega]
      exact this
  obtain ⟨w4, hrun, y, hb4⟩ := hmid
  have HY0 := hide (And.intro y hb4)
  have hl4 : w4.heap.size = w4.heap.size := rfl
  have hc4 : w4.cell? ⟨b0, 0, none⟩ = some (.slice a l.length cap) := by rw [hb4.cell (p := ⟨b0, 0, none⟩) hb0]; exact hc
  clear y hb4 hrow hsr h0 hl4
  go_enter Try.func198, Try.ntmps198
  go_wp2
  go_loopw [3, 12] (fun s i wk => ∃ k : Nat, k ≤ 1 ∧ i = .int .i64 k ∧ s = .int .i64 (k * l.length : Nat) ∧ wk = w) (fun _ i _ => 1 - (intOf i).toNat)
  case atStart => exact ⟨0, by omega, rfl, by simp, rfl⟩
  case round =>
    obtain ⟨k, hk, rfl, rfl, rfl⟩ := hrel
    by_cases hlt : k = 0
    · subst hlt
      go_wp2
      go_roundw
      case rel => exact ⟨1, by omega, by go_num, by go_num, trivial⟩
      case measure => simp [intOf]
    · obtain rfl : k = 1 := by omega
      simp only [Nat.one_mul]
      go_wp2
      go_loopw [7, 25] (fun s i wk => (s = .int .i64 0 ∧ i = .int .i64 0 ∧ wk = w0) ∨ (s = .int .i64 l.length ∧ i = .int .i64 1 ∧ wk = w4)) (fun _ i _ => 1 - (intOf i).toNat)
      case atStart => exact .inl ⟨rfl, rfl, rfl⟩
      case round =>
        rcases hrel with ⟨rfl, rfl, rfl⟩ | ⟨rfl, rfl, rfl⟩
        · go_wp2_with (first | (at_builtin; refine wpl_copy _ rfl (.tmp 32) (.tmp 33) 31 31 rfl _ _ rfl rfl hrun ?_))
          go_roundw
          case rel => exact .inr ⟨by go_num, by go_num, trivial⟩
          case measure => simp [intOf]
        · go_wp2
          go_ret
          obtain ⟨y, hb4⟩ := unhide HY0
          exact ⟨_, rfl, y, hb4⟩
end Go.Proofs.Ytjhlammjnggghaa
