/-
  Whole structs loaded, stored and handed on without looking at their cells.
-/
import Derived.Test.YtjhlammjnggghaaMem
import Derived.Deep.CutRange
import Derived.Deep.MidRow
import Derived.Deep.WholeRow
import Derived.Deep.RegionHeld3
namespace Go.Proofs.Ytjhlammjnggghaa
open Go.ChangeShapes Go.WideShapes Go.ChangeAt Go.RowKit
set_option linter.unusedVariables false
set_option maxRecDepth 100000

/-- A struct's type, of so many cells. -/
def RowT (P : Program) (ty : TypeId) (n : Nat) : Prop := ∃ d : TypeDesc, P.underlying ty = some d ∧ d.isRow = true ∧ (P.info? ty).map (·.size) = some n
def One (cs : List Value) : Prop := ∀ v ∈ cs, v.oneCell' = true
theorem wpl_load {P : Program} {ops : Array Oper} {rest : List Oper} {op : Oper} {a : Act} {w : World} {Q : Exit → Act → World → Prop} (hgd : op.guard = none) (ty : TypeId) (x : Operand) (ho : op.op = .load ty x)
    (b o : Nat) (hx : a.eval x = .pointer (some ⟨b, o, none⟩)) (cs : List Value) (hh : InB w b o cs) (ht : RowT P ty cs.length)
    (h : wpList P ops Q rest (a.put op.dst (.agg cs.toArray)) w) : wpList P ops Q (op :: rest) a w := by
  obtain ⟨d, hu, hd, hi⟩ := ht
  exact wpList_load_mid hgd ty x ho b o hx cs d hh hu hd hi h
theorem wpl_store_new {P : Program} {ops : Array Oper} {rest : List Oper} {op : Oper} {a : Act} {w : World} {Q : Exit → Act → World → Prop} (hgd : op.guard = none) (ty : TypeId) (x y : Operand) (ho : op.op = .store ty x y)
    (c : Array Value) (cs : List Value) (hx : a.eval x = .pointer (some ⟨w.heap.size, 0, none⟩)) (hy : a.eval y = .agg cs.toArray) (hc : c.size = cs.length) (h1 : One cs) (ht : RowT P ty cs.length)
    (h : wpList P ops Q rest (a.put op.dst undef) (w.alloc (.cells cs.toArray ty))) : wpList P ops Q (op :: rest) a (w.alloc (.cells c ty)) := by
  obtain ⟨d, hu, hd, hi⟩ := ht
  refine wpList_plain hgd fun K hK => ?_
  unfold Oper.wp execOp
  simp only [ho, hx, hy, Instr.storeAt, Instr.sureAddr, Sem.run_bind, Sem.run_pure, Result.andThen_ok, run_storeVar_new w ty c cs.toArray (by simpa using hi) (by simpa using hc) (all_oneCell_toArray h1)]
  exact hK _ _ h
theorem wpl_store_at {P : Program} {ops : Array Oper} {rest : List Oper} {op : Oper} {a : Act} {w : World} {Q : Exit → Act → World → Prop} (hgd : op.guard = none) (ty : TypeId) (x y : Operand) (ho : op.op = .store ty x y)
    (b o : Nat) (cs : List Value) (hx : a.eval x = .pointer (some ⟨b, o, none⟩)) (hy : a.eval y = .agg cs.toArray) (hw : WrAt w b o cs.length) (h1 : One cs) (hi : RowT P ty cs.length)
    (h : wpList P ops Q rest (a.put op.dst undef) (putL b o cs 0 w)) : wpList P ops Q (op :: rest) a w := by
  obtain ⟨d, hu, hd, hi⟩ := hi
  refine wpList_store_mid hgd ty x y ho b o cs.toArray hx hy (fun j hj => hw.2 j (by simpa using hj)) (by simpa using hi) (all_oneCell_toArray h1) ?_
  have e : ∀ (vs : List Value) (j : Nat) (w : World), w.setCells b (o + j) vs = putL b o vs j w := by
    intro vs
    induction vs with
    | nil => intro j w; rfl
    | cons v r ih => intro j w; exact ih (j + 1) _
  have e0 := e cs 0 w
  rw [Nat.add_zero] at e0
  simpa [e0] using h
theorem yld_load {P : Program} {ops : Array Oper} {S : World → Prop} {op : Oper} {a : Act} (hw : Region.wanted op (yielded ops a.tmps) = true) (ty : TypeId) (x : Operand) (ho : op.op = .load ty x)
    (b o : Nat) (hx : a.eval x = .pointer (some ⟨b, o, none⟩)) (cs : List Value) (hS : ∀ w, S w → InB w b o cs) (ht : RowT P ty cs.length) : YieldsIf P ops S op (.agg cs.toArray) a := by
  obtain ⟨d, hu, hd, hi⟩ := ht
  exact yieldsIf_load_mid hw ty x ho b o hx cs d hS hu hd hi

end Go.Proofs.Ytjhlammjnggghaa
