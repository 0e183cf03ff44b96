/-
  Order of both, as the law asks for it.
-/
import Derived.Test.YtopngelgpfjdeaaOrd3
namespace Go.Proofs.Ytopngelgpfjdeaa
open Go.ChangeShapes Go.WideShapes Go.ChangeAt Go.RowKit
set_option linter.unusedVariables false
set_option maxRecDepth 100000

theorem ord_len (l : List DeedD) : (ordL l).length ≤ l.length := by
  rw [(ordL_ord l).perm.length_eq]
  exact placesK_len l l.length
theorem ord_cnt (l : List DeedD) (h : bulkL deedBulk l ≤ 1048576) : (zOf (ordL l)).length ≤ 16777216 := by
  have := ord_len l
  have := bulkL_len deedBulk l
  rw [zOf_len]
  omega
theorem specOrderL (l : List DeedD) (S0 : Nat → Prop) (v0 : Value) (w : World) (h0 : LAt 20 deedR w S0 v0 l) (b0 : bulkL deedBulk l ≤ 1048576) :
    Calls Try.prog 22 #[v0] w fun e w' => ∃ v', e = .returned v' ∧ LOw 1 intO w' (Within w.heap.size w'.heap.size) v' (zOf (ordL l)) ∧ Below w.heap.size w w' := by
  refine (specOrder l S0 v0 w h0 b0).mono ?_
  rintro e w' ⟨v', rfl, hr, hb⟩
  rw [← zOf_len] at hr
  have := ord_cnt l b0
  exact ⟨v', rfl, ints_done hr (by omega), hb⟩
theorem implOrderL (l : List DeedD) (S0 : Nat → Prop) (v0 : Value) (w : World) (h0 : LAt 20 deedR w S0 v0 l) (b0 : bulkL deedBulk l ≤ 1048576) :
    Calls Try.prog 24 #[v0] w fun e w' => ∃ v', e = .returned v' ∧ LOw 1 intO w' (Within w.heap.size w'.heap.size) v' (zOf (ordL l)) ∧ Below w.heap.size w w' := by
  refine (implOrder l S0 v0 w h0 b0).mono ?_
  rintro e w' ⟨v', rfl, hr, hb⟩
  rw [← zOf_len] at hr
  have := ord_cnt l b0
  exact ⟨v', rfl, ints_done hr (by omega), hb⟩
end Go.Proofs.Ytopngelgpfjdeaa
