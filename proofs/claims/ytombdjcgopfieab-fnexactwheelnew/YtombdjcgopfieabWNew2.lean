/-
  WheelNew of the program.
-/
import Derived.Test.YtombdjcgopfieabWNew0
namespace Go.Proofs.Ytombdjcgopfieab
open Go.ChangeShapes Go.WideShapes Go.ChangeAt Go.RowKit
set_option linter.unusedVariables false
set_option maxRecDepth 100000

theorem infoTS : (Try.prog.info? 45).map (fun i => (i.zero, i.size, i.bytes)) = some (some (.slice none 0 0), 1, 24) := by kernel_rfl
theorem mMakeNils (w : World) : (Instr.makeSlice 47 (.int .i64 8) (.int .i64 8)).run Try.prog w = .ok (.slice (some ⟨w.heap.size, 0, none⟩) 8 8) (w.alloc (.cells (List.replicate 8 (.slice none 0 0)).toArray 45)) := by
  obtain ⟨i0, hi, hz0, hz1, hz2⟩ := info_parts infoTS
  have h := run_make (P := Try.prog) w 47 45 i0 _ Try.underlying47 hi hz0 .i64 .i64 8 8 (by omega) (by omega) (by rw [hz2]; omega) (by omega)
  have e : madeCells (Value.cells (.slice none 0 0)) (8 * i0.size) = (List.replicate 8 (Value.slice none 0 0)).toArray := by
    rw [hz1, Nat.mul_one, ← toList_madeCells_one]
    simp [Value.cells]
  simpa [e] using h
theorem two_nils (w : World) (A : Obj) : LAt 1 timerSR (((w.alloc A).alloc (.cells #[.slice none 0 0, .slice none 0 0, .slice none 0 0, .slice none 0 0, .slice none 0 0, .slice none 0 0, .slice none 0 0, .slice none 0 0] 45)).alloc (.cells #[.slice none 0 0, .slice none 0 0, .slice none 0 0, .slice none 0 0, .slice none 0 0, .slice none 0 0, .slice none 0 0, .slice none 0 0] 45)) (Within w.heap.size (((w.alloc A).alloc (.cells #[.slice none 0 0, .slice none 0 0, .slice none 0 0, .slice none 0 0, .slice none 0 0, .slice none 0 0, .slice none 0 0, .slice none 0 0] 45)).alloc (.cells #[.slice none 0 0, .slice none 0 0, .slice none 0 0, .slice none 0 0, .slice none 0 0, .slice none 0 0, .slice none 0 0, .slice none 0 0] 45)).heap.size) (.slice (some ⟨w.heap.size + 1, 0, none⟩) 8 8) (nils 8) ∧
    LAt 1 timerSR (((w.alloc A).alloc (.cells #[.slice none 0 0, .slice none 0 0, .slice none 0 0, .slice none 0 0, .slice none 0 0, .slice none 0 0, .slice none 0 0, .slice none 0 0] 45)).alloc (.cells #[.slice none 0 0, .slice none 0 0, .slice none 0 0, .slice none 0 0, .slice none 0 0, .slice none 0 0, .slice none 0 0, .slice none 0 0] 45)) (Within w.heap.size (((w.alloc A).alloc (.cells #[.slice none 0 0, .slice none 0 0, .slice none 0 0, .slice none 0 0, .slice none 0 0, .slice none 0 0, .slice none 0 0, .slice none 0 0] 45)).alloc (.cells #[.slice none 0 0, .slice none 0 0, .slice none 0 0, .slice none 0 0, .slice none 0 0, .slice none 0 0, .slice none 0 0, .slice none 0 0] 45)).heap.size) (.slice (some ⟨w.heap.size + 1 + 1, 0, none⟩) 8 8) (nils 8) ∧ Below w.heap.size w (((w.alloc A).alloc (.cells #[.slice none 0 0, .slice none 0 0, .slice none 0 0, .slice none 0 0, .slice none 0 0, .slice none 0 0, .slice none 0 0, .slice none 0 0] 45)).alloc (.cells #[.slice none 0 0, .slice none 0 0, .slice none 0 0, .slice none 0 0, .slice none 0 0, .slice none 0 0, .slice none 0 0, .slice none 0 0] 45)) := by
  have h1 := (Held.new (w.alloc A) [.slice none 0 0, .slice none 0 0, .slice none 0 0, .slice none 0 0, .slice none 0 0, .slice none 0 0, .slice none 0 0, .slice none 0 0] 45).keep (bnew _ (.cells #[.slice none 0 0, .slice none 0 0, .slice none 0 0, .slice none 0 0, .slice none 0 0, .slice none 0 0, .slice none 0 0, .slice none 0 0] 45))
  have h2 := Held.new ((w.alloc A).alloc (.cells #[.slice none 0 0, .slice none 0 0, .slice none 0 0, .slice none 0 0, .slice none 0 0, .slice none 0 0, .slice none 0 0, .slice none 0 0] 45)) [.slice none 0 0, .slice none 0 0, .slice none 0 0, .slice none 0 0, .slice none 0 0, .slice none 0 0, .slice none 0 0, .slice none 0 0] 45
  rw [show (w.alloc A).heap.size = w.heap.size + 1 by simp] at h1
  rw [show ((w.alloc A).alloc (.cells #[.slice none 0 0, .slice none 0 0, .slice none 0 0, .slice none 0 0, .slice none 0 0, .slice none 0 0, .slice none 0 0, .slice none 0 0] 45)).heap.size = w.heap.size + 1 + 1 by simp] at h2
  exact ⟨nils_of h1 ⟨by omega, by simp⟩, nils_of h2 ⟨by omega, by simp⟩, bthen (bthen (bnew _ _) (bnew _ _)) (bnew _ _)⟩
set_option maxHeartbeats 1000000 in
theorem implWheelNew (w : World) :
    Calls Try.prog 34 #[] w fun e w' => ∃ cs', e = .returned (.agg cs'.toArray) ∧ wheelR w' (Within w.heap.size w'.heap.size) cs' newWheel ∧ Below w.heap.size w w' := by
  have hm := mMakeNils
  go_enter Try.func34, Try.ntmps34
  go_upto_region 1 with fail
  go_region
  all_goals go_wp2
  · obtain ⟨f1, f2, f3⟩ := two_nils w (.cells #[.int .i64 0, .slice (some ⟨w.heap.size + 1, 0, none⟩) 8 8, .slice (some ⟨w.heap.size + 1 + 1, 0, none⟩) 8 8, .slice none 0 0] 49)
    exact bodyPost_ret (v := .agg #[.int .i64 0, .slice (some ⟨w.heap.size + 1, 0, none⟩) 8 8, .slice (some ⟨w.heap.size + 1 + 1, 0, none⟩) 8 8, .slice none 0 0]) (by simp [results, Try.results34, go_sem]) rfl ⟨_, rfl, ⟨_, _, _, rfl, f1, f2, LAt.nil _ _ _ _ _ _⟩, Below.drew f3⟩
  · obtain ⟨f1, f2, f3⟩ := two_nils w (.cells #[.int .i64 0, .slice (some ⟨w.heap.size + 1 + 1, 0, none⟩) 8 8, .slice (some ⟨w.heap.size + 1, 0, none⟩) 8 8, .slice none 0 0] 49)
    exact bodyPost_ret (v := .agg #[.int .i64 0, .slice (some ⟨w.heap.size + 1 + 1, 0, none⟩) 8 8, .slice (some ⟨w.heap.size + 1, 0, none⟩) 8 8, .slice none 0 0]) (by simp [results, Try.results34, go_sem]) rfl ⟨_, rfl, ⟨_, _, _, rfl, f2, f1, LAt.nil _ _ _ _ _ _⟩, Below.drew f3⟩
end Go.Proofs.Ytombdjcgopfieab
