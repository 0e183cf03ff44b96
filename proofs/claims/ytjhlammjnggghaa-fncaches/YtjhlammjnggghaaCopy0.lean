/-
  Copies of spans, of the specification (by append) and of the program (by copy).
-/
import Derived.Test.YtjhlammjnggghaaGrow2
import Derived.Test.YtjhlammjnggghaaASpan
import Derived.Test.YtjhlammjnggghaaToSt
namespace Go.Proofs.Ytjhlammjnggghaa
open Go.ChangeShapes Go.WideShapes Go.ChangeAt Go.RowKit
set_option linter.unusedVariables false
set_option maxRecDepth 100000

def attrC (x : AttrD) : List Value := [.string x.1, .bool x.2.1, .int .i64 x.2.2.1, .string x.2.2.2]
theorem attrC_len (x : AttrD) : (attrC x).length = 4 := rfl
theorem attrs_src {w : World} {S : Nat → Prop} {a : Option Addr} {n k : Nat} {l : List AttrD} (h : LAt 4 attrR w S (.slice a n k) l) : l = [] ∨ ∃ b o, a = some ⟨b, o, none⟩ ∧ b < w.heap.size ∧ ∀ j u, (l.flatMap attrC)[j]? = some u → w.cell? ((⟨b, o, none⟩ : Addr).add j) = some u := by
  obtain ⟨a', cap', e, hl, h⟩ := h
  injection e with e1 e2 e3
  subst e1
  rcases h with h | ⟨b, o, h1, h2, h3, h4⟩
  · exact .inl h
  · refine .inr ⟨b, o, h1, h2, flat_src (N := 4) attrC_len (by omega) (fun i x hx => ?_)⟩
    obtain ⟨cs, ⟨rfl, _, _⟩, hin⟩ := h4 i x hx
    exact hin
theorem attrs_ok {w : World} {S : Nat → Prop} {v : Value} {l : List AttrD} (h : LAt 4 attrR w S v l) : ∀ x ∈ l, x.1.size ≤ maxLen ∧ x.2.2.2.size ≤ maxLen := by
  obtain ⟨a', cap', e, hl, h⟩ := h
  rcases h with h | ⟨b, o, h1, h2, h3, h4⟩
  · subst h; simp
  · intro x hx
    obtain ⟨i, hi, rfl⟩ := List.mem_iff_getElem.1 hx
    obtain ⟨cs, ⟨_, q⟩, _⟩ := h4 i _ (List.getElem?_eq_getElem hi)
    exact q
theorem attrs_one (l : List AttrD) : One (l.flatMap attrC) := by
  intro v hv
  obtain ⟨x, _, hx⟩ := List.mem_flatMap.1 hv
  simp only [attrC, List.mem_cons, List.not_mem_nil, or_false] at hx
  rcases hx with rfl | rfl | rfl | rfl <;> rfl
theorem own_attrs {t : TypeId} {base : Nat} {w : World} {v : Value} {l : List AttrD} (h : w.ownsRow base t 4 v l.length (l.flatMap attrC)) (hq : ∀ x ∈ l, x.1.size ≤ maxLen ∧ x.2.2.2.size ≤ maxLen) (hl : l.length ≤ 9223372036854775807) : LOw 4 attrO w (Within base w.heap.size) v l :=
  own_flat h attrC_len (fun x hx => ⟨rfl, hq x hx⟩) hl
theorem run_append0 {P : Program} (w : World) (t ty e : TypeId) (i : TypeInfo) (ht : P.underlying t = some (.slice e)) (hi : P.info? e = some i) (g : Nat) (a : Option Addr) (k : Nat) :
    (Builtin.append_ #[t, t] ty #[.slice (some ⟨g, 0, none⟩) 0 0, .slice a 0 k]).run P w = .ok (.slice (some ⟨g, 0, none⟩) 0 0) w := by
  cases a <;> simp [Builtin.append_, run_underlying ht, sizeOf, typeInfo, hi, Builtin.lenOf, Builtin.firstCells, loadCells, loadCellsFrom, storeCells]
theorem wpl_append0 {P : Program} (w : World) {ops : Array Oper} {rest : List Oper} {o : Oper} {a : Act} {Q : Exit → Act → World → Prop} (hgd : o.guard = none) (s x : Operand) (t : TypeId)
    (ho : o.op = .call { callee := .builtin .append, args := #[s, x], argTypes := #[t, t] }) (e : TypeId) (z : Value) (size bytes : Nat) (ht : P.underlying t = some (.slice e)) (hinf : (P.info? e).map (fun i => (i.zero, i.size, i.bytes)) = some (some z, size, bytes))
    (g : Nat) (b : Option Addr) (k : Nat) (hs : a.eval s = .slice (some ⟨g, 0, none⟩) 0 0) (hx : a.eval x = .slice b 0 k)
    (h : wpList P ops Q rest (a.put o.dst (.slice (some ⟨g, 0, none⟩) 0 0)) w) : wpList P ops Q (o :: rest) a w := by
  obtain ⟨i, hi, _⟩ := info_parts hinf
  refine wpList_plain hgd fun K hK => ?_
  unfold Oper.wp execOp
  simp only [ho, resolve, invoke, builtin, Sem.run_bind, Sem.run_pure, Result.andThen_ok, List.map_toArray, List.map_cons, List.map_nil, hs, hx, run_append0 (P := P) w t o.type e i ht hi g b k]
  exact hK _ _ h
theorem wpl_append_run {P : Program} (w : World) {ops : Array Oper} {rest : List Oper} {o : Oper} {a : Act} {Q : Exit → Act → World → Prop} (hgd : o.guard = none) (s x : Operand) (t : TypeId)
    (ho : o.op = .call { callee := .builtin .append, args := #[s, x], argTypes := #[t, t] }) (v u : Value) (hs : a.eval s = v) (hx : a.eval x = u) {v' : Value} {w' : World}
    (hr : (Builtin.append_ #[t, t] o.type #[v, u]).run P w = .ok v' w') (h : wpList P ops Q rest (a.put o.dst v') w') : wpList P ops Q (o :: rest) a w := by
  refine wpList_plain hgd fun K hK => ?_
  unfold Oper.wp execOp
  simp only [ho, resolve, invoke, builtin, Sem.run_bind, Sem.run_pure, Result.andThen_ok, List.map_toArray, List.map_cons, List.map_nil, hs, hx, hr]
  exact hK _ _ h
end Go.Proofs.Ytjhlammjnggghaa
