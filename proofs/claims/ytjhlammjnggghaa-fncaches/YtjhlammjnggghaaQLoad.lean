/-
  Loads of a struct, or of a cell, in the walk of a region in the order of its text.
-/
import Derived.Test.YtjhlammjnggghaaQSkip
import Derived.Test.YtjhlammjnggghaaAbs2
namespace Go.Proofs.Ytjhlammjnggghaa
open Go.ChangeShapes Go.WideShapes Go.ChangeAt Go.RowKit Go.Sort
set_option linter.unusedVariables false
set_option maxRecDepth 100000

theorem q_load {P : Program} {ops : Array Oper} {W : World} {Q : Act → Prop} {a : Act} {op : Oper} {rest : List Oper} (hw : Region.wanted op (yielded ops a.tmps) = true) (ty : TypeId) (x : Operand) (ho : op.op = .load ty x)
    (b o : Nat) (hx : a.eval x = .pointer (some ⟨b, o, none⟩)) (cs : List Value) (hb : b < W.heap.size) (hin : InB W b o cs) (ht : RowT P ty cs.length)
    (h : ∀ K : Act → Prop, (∀ a, WQ P ops (fun w' => ∃ p : Regrown, w' = grow (redrawn W p.d) p.os) Q rest a → K a) → K (a.put op.dst (.agg cs.toArray))) : WQ P ops (fun w' => ∃ p : Regrown, w' = grow (redrawn W p.d) p.os) Q (op :: rest) a := by
  obtain ⟨d, hu, hd, hi⟩ := ht
  refine q_take hw (fun K hK => ⟨.agg cs.toArray, fun w hC => ?_, h K hK⟩)
  obtain ⟨p, rfl⟩ := hC
  have hin2 := hin.turn hb (Below.turn (below_regrown W p.d p.os)) (fun e => e)
  have hl := run_loadVar_mid (P := P) (grow (redrawn W p.d) p.os) b o ty cs d hin2 hu hd hi
  unfold Oper.quietAt execOp
  simp only [ho, hx, Instr.loadAt, Instr.sureAddr, Sem.run_bind, Sem.run_pure, Result.andThen_ok, hl]
  exact ⟨rfl, rfl⟩
theorem q_cell {P : Program} {ops : Array Oper} {W : World} {Q : Act → Prop} {a : Act} {op : Oper} {rest : List Oper} (hw : Region.wanted op (yielded ops a.tmps) = true) (ty : TypeId) (x : Operand) (ho : op.op = .load ty x)
    (b o : Nat) (hx : a.eval x = .pointer (some ⟨b, o, none⟩)) (v : Value) (hin : W.cell? ⟨b, o, none⟩ = some v) (hp : PlainT P ty)
    (h : ∀ K : Act → Prop, (∀ a, WQ P ops (fun w' => ∃ p : Regrown, w' = grow (redrawn W p.d) p.os) Q rest a → K a) → K (a.put op.dst v)) : WQ P ops (fun w' => ∃ p : Regrown, w' = grow (redrawn W p.d) p.os) Q (op :: rest) a := by
  refine q_take hw (fun K hK => ⟨v, fun w hC => ?_, h K hK⟩)
  obtain ⟨p, rfl⟩ := hC
  unfold Oper.quietAt execOp
  simp only [ho, hx, Instr.loadAt, Instr.sureAddr, Sem.run_bind, Sem.run_pure, Result.andThen_ok, hp _ _ v (cell_regrown hin p.d p.os)]
  exact ⟨rfl, rfl⟩
end Go.Proofs.Ytjhlammjnggghaa
