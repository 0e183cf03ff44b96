/-
  Contracts of HeldBytes, of the program (each trail is handed to a function that adds) and of the specification.
-/
import Derived.Test.YtjhlammjnggghaaPlain2
import Derived.Test.YtjhlammjnggghaaAStripe
import Derived.Test.YtjhlammjnggghaaATrail
import Derived.Test.YtjhlammjnggghaaAbs2
namespace Go.Proofs.Ytjhlammjnggghaa
open Go.ChangeShapes Go.WideShapes Go.ChangeAt Go.RowKit
set_option linter.unusedVariables false
set_option maxRecDepth 100000

theorem flat_snoc {α β σ : Type} {f : α → List β} {g : σ → β → σ} {s : σ} {l : List α} {k : Nat} (h : k < l.length) : ((l.take (k + 1)).flatMap f).foldl g s = (f l[k]).foldl g (((l.take k).flatMap f).foldl g s) := by
  rw [List.take_succ_eq_append_getElem h, List.flatMap_append, List.foldl_append]
  simp
theorem fold_snoc {β σ : Type} {g : σ → β → σ} {s : σ} {l : List β} {k : Nat} (h : k < l.length) : (l.take (k + 1)).foldl g s = g ((l.take k).foldl g s) l[k] := by
  rw [List.take_succ_eq_append_getElem h, List.foldl_append]
  simp
def addB (s : Int) (t : TrailD) : Int := IntKind.i64.wrap (s + totS t.spans)
def heldSum (l : List StripeD) : Int := (l.flatMap StripeD.l).foldl addB 0
def AtCell (bp lo : Nat) (w : World) (s : Int) : Prop := lo ≤ bp ∧ bp < w.heap.size ∧ w.cell? ⟨bp, 0, none⟩ = some (.int .i64 s) ∧ w.frozen? ⟨bp, 0, none⟩ = false
theorem AtCell.keep {bp lo : Nat} {w w' : World} {s : Int} (h : AtCell bp lo w s) (hb : Below w.heap.size w w') : AtCell bp lo w' s :=
  ⟨h.1, Nat.lt_of_lt_of_le h.2.1 hb.size, by rw [hb.cell h.2.1]; exact h.2.2.1, by rw [hb.frozen h.2.1]; exact h.2.2.2⟩
theorem AtCell.set {bp lo : Nat} {w : World} {s : Int} (h : AtCell bp lo w s) (t : Int) : AtCell bp lo (w.setCell ⟨bp, 0, none⟩ (.int .i64 t)) t :=
  ⟨h.1, by simpa using h.2.1, World.cell?_setCell_same' _ _ _ (by rw [h.2.2.1]; rfl), by simpa using h.2.2.2⟩
end Go.Proofs.Ytjhlammjnggghaa
