/-
  One cell that is loaded in a region that draws its order.
-/
import Derived.Test.YtjhlammjnggghaaAbs
namespace Go.Proofs.Ytjhlammjnggghaa
open Go.ChangeShapes Go.WideShapes Go.ChangeAt Go.RowKit
set_option linter.unusedVariables false
set_option maxRecDepth 100000

/-- A type of one cell. -/
def PlainT (P : Program) (ty : TypeId) : Prop := ∀ (w : World) (a : Addr) (v : Value), w.cell? a = some v → (loadVar ty a).run P w = .ok v w
theorem yld_cell {P : Program} {ops : Array Oper} {S : World → Prop} {op : Oper} {a : Act} (hw : Region.wanted op (yielded ops a.tmps) = true) (ty : TypeId) (x : Operand) (ho : op.op = .load ty x)
    (b o : Nat) (hx : a.eval x = .pointer (some ⟨b, o, none⟩)) (v : Value) (hS : ∀ w, S w → w.cell? ⟨b, o, none⟩ = some v) (hp : PlainT P ty) : YieldsIf P ops S op v a :=
  .inl ⟨hw, fun w hw' => by
    unfold execOp
    simp only [ho, hx, Instr.loadAt, Instr.sureAddr, Sem.run_bind, Sem.run_pure, Result.andThen_ok, hp w _ v (hS w hw')]⟩
theorem plainInt : PlainT Try.prog 3 := fun w a v h => by simp [loadVar, go_sem, h]
theorem plainBool : PlainT Try.prog 4 := fun w a v h => by simp [loadVar, go_sem, h]
theorem plainStr : PlainT Try.prog 9 := fun w a v h => by simp [loadVar, go_sem, h]
/-- A whole struct that is loaded where a guard says so. -/
theorem wpl_loadG {P : Program} {ops : Array Oper} {rest : List Oper} {op : Oper} {a : Act} {w : World} {Q : Exit → Act → World → Prop} (hw : Region.wanted op (yielded ops a.tmps) = true) (ty : TypeId) (x : Operand) (ho : op.op = .load ty x)
    (b o : Nat) (hx : a.eval x = .pointer (some ⟨b, o, none⟩)) (cs : List Value) (hh : InB w b o cs) (ht : RowT P ty cs.length)
    (h : wpList P ops Q rest (a.put op.dst (.agg cs.toArray)) w) : wpList P ops Q (op :: rest) a w := by
  obtain ⟨d, hu, hd, hi⟩ := ht
  exact BigFrame.wpList_want hw fun K hK => wp_load_mid ty x ho b o hx cs d hh hu hd hi (hK _ _ h)
theorem plainAttrS : PlainT Try.prog 31 := fun w a v h => by simp [loadVar, go_sem, h]
theorem plainSpanS : PlainT Try.prog 42 := fun w a v h => by simp [loadVar, go_sem, h]
end Go.Proofs.Ytjhlammjnggghaa
