/-
  slices.Sort at a row of ints of the call's own.
-/
import Derived.Test.YtjhlammjnggghaaIns1
import Derived.Test.YtjhlammjnggghaaLaySort
namespace Go.Proofs.Ytjhlammjnggghaa
open Go.ChangeShapes Go.WideShapes Go.ChangeAt Go.RowKit Go.Sort Go.Shelf
set_option linter.unusedVariables false
set_option maxRecDepth 100000

theorem implSort {base : Nat} (w : World) (g cap : Nat) (zs : List Int) (h : w.ownsRow base 3 1 (.slice (some ⟨g, 0, none⟩) zs.length cap) zs.length (cellsI2 zs)) (hl : zs.length ≤ 16777216) :
    Calls Try.prog 227 #[.slice (some ⟨g, 0, none⟩) zs.length cap] w fun e w' => e = .returned (.tuple #[]) ∧ w'.ownsRow base 3 1 (.slice (some ⟨g, 0, none⟩) zs.length cap) zs.length (cellsI2 (sortZ zs)) ∧ Below base w w' := by
  have hg := h.lt g rfl
  have hc := AnyM.slices_Sort_int Try.laySort g 0 cap zs w (zrow_holds h) hg.2 (by omega)
  change Calls Try.prog 227 _ _ _ at hc
  refine hc.mono ?_
  rintro e w' ⟨rfl, m, os, rfl⟩
  exact ⟨rfl, zrow_end (ys := sortZ zs) h (sortZ_srt zs).len, zrow_below hg.1 hg.2⟩
end Go.Proofs.Ytjhlammjnggghaa
