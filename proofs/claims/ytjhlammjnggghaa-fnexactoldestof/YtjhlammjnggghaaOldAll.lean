/-
  Several texts in one: Old0, QSkip, QLoad, Old1, HeldB, Copy2, Copy3, Trl2, Old2, Trl1, Old3, COld.
-/
import Derived.Test.YtjhlammjnggghaaPlain
import Derived.Test.YtjhlammjnggghaaGrowK
import Derived.Test.YtjhlammjnggghaaATrail
import Derived.Test.YtjhlammjnggghaaNum
import Derived.Lib.QuietBelow
import Derived.Test.YtjhlammjnggghaaAbs2
import Derived.RangeFuncBox
import Derived.Test.YtjhlammjnggghaaPlain2
import Derived.Test.YtjhlammjnggghaaAStripe
import Derived.Test.YtjhlammjnggghaaCopy0
import Derived.Test.YtjhlammjnggghaaToSt
import Derived.Test.YtjhlammjnggghaaCopy1
import Derived.Test.YtjhlammjnggghaaItems0
import Derived.Test.YtjhlammjnggghaaMTrail
namespace Go.Proofs.Ytjhlammjnggghaa
open Go.ChangeShapes Go.WideShapes Go.ChangeAt Go.RowKit
set_option linter.unusedVariables false
set_option maxRecDepth 100000

def bstep (b : Option TrailD) (t : TrailD) : Option TrailD :=
  match b with
  | none => some t
  | some x => if olderB t x then some t else some x
def bestL (ts : List TrailD) : Option TrailD := ts.foldl bstep none
theorem bestL_snoc (ts : List TrailD) (t : TrailD) : bestL (ts ++ [t]) = bstep (bestL ts) t := by simp [bestL]
theorem older_irr (x : TrailD) : olderB x x = false := by simp [olderB]
theorem older_no (x y : TrailD) : olderB x y = false ↔ (¬ x.first < y.first ∧ (x.first = y.first → ¬ x.stamp < y.stamp)) := by
  unfold olderB
  by_cases h1 : x.first < y.first <;> by_cases h2 : x.first = y.first <;> by_cases h3 : x.stamp < y.stamp <;> simp [h1, h2, h3]
theorem older_is (x y : TrailD) : olderB x y = true ↔ (x.first < y.first ∨ (x.first = y.first ∧ x.stamp < y.stamp)) := by
  unfold olderB
  by_cases h1 : x.first < y.first <;> by_cases h2 : x.first = y.first <;> by_cases h3 : x.stamp < y.stamp <;> simp [h1, h2, h3]
theorem older_tr {x y z : TrailD} (h1 : olderB x y = false) (h2 : olderB y z = false) : olderB x z = false := by
  rw [older_no] at *
  omega
theorem older_up {x y z : TrailD} (h1 : olderB x y = false) (h2 : olderB z y = true) : olderB x z = false := by
  rw [older_no] at *
  rw [older_is] at h2
  omega

section
variable {α : Type} (f : α → TrailD)
def Rooted (ps : List α) (b : Option TrailD) : Prop := (ps = [] ∧ b = none) ∨ ∃ r, ps[0]? = some r ∧ b = some (f r) ∧ ∀ (k : Nat) q, ps[k]? = some q → olderB (f q) (f r) = false
def Going (ps : List α) (t : α) (qs : List α) (i : Nat) : Prop :=
  qs.length = ps.length + 1 ∧ i ≤ ps.length ∧ qs[i]? = some t ∧
    ∀ r, ps[0]? = some r → (∀ (k : Nat) q, k ≠ i → qs[k]? = some q → olderB (f q) (f r) = false) ∧ (0 < i → qs[0]? = some r) ∧ (i = 0 → olderB (f t) (f r) = true)
variable {f}
theorem Going.start {ps : List α} {b : Option TrailD} (t : α) (h : Rooted f ps b) : Going f ps t (ps ++ [t]) ps.length := by
  refine ⟨by simp, Nat.le_refl _, by simp, fun r hr => ?_⟩
  have hlen : 0 < ps.length := by
    rcases Nat.eq_zero_or_pos ps.length with e | e
    · rw [List.getElem?_eq_none (by omega)] at hr; cases hr
    · exact e
  refine ⟨fun k q hk hq => ?_, fun _ => ?_, fun e => by omega⟩
  · have hkl : k < ps.length := by
      rcases Nat.lt_or_ge k ps.length with e | e
      · exact e
      · rw [List.getElem?_eq_none (by simp; omega)] at hq; cases hq
    rw [List.getElem?_append_left hkl] at hq
    rcases h with ⟨rfl, _⟩ | ⟨r2, h1, _, h3⟩
    · simp at hkl
    · rw [h1] at hr
      injection hr with hr
      subst hr
      exact h3 k q hq
  · rw [List.getElem?_append_left hlen]; exact hr
theorem Going.step {ps qs : List α} {t qa : α} {i a : Nat} (h : Going f ps t qs i) (hi : 0 < i) (ha : a < i) (hq : qs[a]? = some qa) (ho : olderB (f t) (f qa) = true) : Going f ps t ((qs.set i qa).set a t) a := by
  obtain ⟨hl, hil, ht, hr⟩ := h
  refine ⟨by simp [hl], by omega, by rw [List.getElem?_set_self (by simp; omega)], fun r hr0 => ?_⟩
  obtain ⟨g1, g2, g3⟩ := hr r hr0
  refine ⟨fun k q hk hqk => ?_, fun ha0 => ?_, fun ha0 => ?_⟩
  · rw [List.getElem?_set_ne (fun e => hk e.symm)] at hqk
    by_cases e : i = k
    · subst e
      rw [List.getElem?_set_self (by omega)] at hqk
      injection hqk with hqk
      subst hqk
      exact g1 a qa (by omega) hq
    · rw [List.getElem?_set_ne e] at hqk
      exact g1 k q (fun e2 => e e2.symm) hqk
  · rw [List.getElem?_set_ne (by omega), List.getElem?_set_ne (by omega)]
    exact g2 hi
  · subst ha0
    rw [g2 hi] at hq
    injection hq with hq
    subst hq
    exact ho
theorem Going.stop {ps qs : List α} {t : α} {i : Nat} {b : Option TrailD} (h : Going f ps t qs i) (hb : Rooted f ps b) (hs : i = 0 ∨ ∃ (a : Nat) (qa : α), a < i ∧ qs[a]? = some qa ∧ olderB (f t) (f qa) = false) : Rooted f qs (bstep b (f t)) := by
  obtain ⟨hl, hil, ht, hr⟩ := h
  rcases hb with ⟨rfl, rfl⟩ | ⟨r, h1, rfl, h3⟩
  · have e0 : i = 0 := by simpa using hil
    subst e0
    refine .inr ⟨t, ht, rfl, fun k q hq => ?_⟩
    have hk : k = 0 := by
      rcases Nat.lt_or_ge k qs.length with e | e
      · simp at hl; omega
      · rw [List.getElem?_eq_none e] at hq; cases hq
    subst hk
    rw [ht] at hq
    injection hq with hq
    subst hq
    exact older_irr _
  · obtain ⟨g1, g2, g3⟩ := hr r h1
    by_cases hi : i = 0
    · subst hi
      have ho := g3 rfl
      refine .inr ⟨t, ht, by simp [bstep, ho], fun k q hq => ?_⟩
      by_cases hk : k = 0
      · subst hk
        rw [ht] at hq
        injection hq with hq
        subst hq
        exact older_irr _
      · exact older_up (g1 k q hk hq) ho
    · have h0 := g2 (by omega)
      have hno : olderB (f t) (f r) = false := by
        rcases hs with e | ⟨a, qa, ha, hqa, hoa⟩
        · exact absurd e hi
        · exact older_tr hoa (g1 a qa (by omega) hqa)
      refine .inr ⟨r, h0, by simp [bstep, hno], fun k q hq => ?_⟩
      by_cases hk : k = i
      · subst hk
        rw [ht] at hq
        injection hq with hq
        subst hq
        exact hno
      · exact g1 k q hk hq
end

/-- A trail's cells: what it is, and where its things lie. -/
def tc (p : TrailD × Value) : List Value := [.int .i64 p.1.id, .int .i64 p.1.stamp, .int .i64 p.1.first, p.2]
def cellsP (ps : List (TrailD × Value)) : List Value := ps.flatMap tc
theorem cellsP_len (ps : List (TrailD × Value)) : (cellsP ps).length = ps.length * 4 := flatMap_len ps tc (fun _ => rfl)
theorem cellsP_snoc (ps : List (TrailD × Value)) (p : TrailD × Value) : cellsP (ps ++ [p]) = cellsP ps ++ tc p := by simp [cellsP]
theorem cellsP_cons (p : TrailD × Value) (ps : List (TrailD × Value)) : cellsP (p :: ps) = .int .i64 p.1.id :: .int .i64 p.1.stamp :: .int .i64 p.1.first :: p.2 :: cellsP ps := rfl
theorem cellsP_at : ∀ (ps : List (TrailD × Value)) (k : Nat) (p : TrailD × Value) (j : Nat) (u : Value), ps[k]? = some p → (tc p)[j]? = some u → (cellsP ps)[k * 4 + j]? = some u
  | [], k, p, j, u, h, _ => by simp at h
  | q :: r, 0, p, j, u, h, hu => by
    simp only [List.getElem?_cons_zero, Option.some.injEq] at h
    subst h
    have hj : j < (tc q).length := (List.getElem?_eq_some_iff.1 hu).1
    show (tc q ++ cellsP r)[0 * 4 + j]? = some u
    rw [Nat.zero_mul, Nat.zero_add, List.getElem?_append_left hj]; exact hu
  | q :: r, k + 1, p, j, u, h, hu => by
    rw [List.getElem?_cons_succ] at h
    have ih := cellsP_at r k p j u h hu
    rw [cellsP_cons, show (k + 1) * 4 + j = (k * 4 + j) + 1 + 1 + 1 + 1 by omega]
    simpa using ih
theorem cellsP_set : ∀ (ps : List (TrailD × Value)) (k : Nat) (p : TrailD × Value), k < ps.length →
    ((((cellsP ps).set (k * 4) (.int .i64 p.1.id)).set (k * 4 + 1) (.int .i64 p.1.stamp)).set (k * 4 + 2) (.int .i64 p.1.first)).set (k * 4 + 3) p.2 = cellsP (ps.set k p)
  | [], k, p, h => by simp at h
  | q :: r, 0, p, _ => by simp [cellsP_cons]
  | q :: r, k + 1, p, h => by
    have ih := cellsP_set r k p (by simpa using h)
    rw [List.set_cons_succ, cellsP_cons, cellsP_cons, ← ih, show (k + 1) * 4 = k * 4 + 1 + 1 + 1 + 1 by omega]
    simp [Nat.add_assoc, Nat.add_comm 4]
end Go.Proofs.Ytjhlammjnggghaa
namespace Go.Proofs.Ytjhlammjnggghaa
open Go.ChangeShapes Go.WideShapes Go.ChangeAt Go.RowKit Go.Sort
set_option linter.unusedVariables false
set_option maxRecDepth 100000

structure WQ (P : Program) (ops : Array Oper) (C : World → Prop) (Q : Act → Prop) (l : List Oper) (a : Act) : Prop where
  out : wpQuiet P ops C Q l a
theorem wq_region {P : Program} {id : Nat} {Q : Exit → Act → World → Prop} {a : Act} {w : World} {l : List Oper} (hm : P.follows .mixedOrders = true) (hB : Region.lexB .any l.toArray = true)
    (h : WQ P l.toArray (fun w' => ∃ p : Regrown, w' = grow (redrawn w p.d) p.os) (fun a' => ∀ w', (∃ p : Regrown, w' = grow (redrawn w p.d) p.os) → Q .normal a' w') l a) : (Code.region id l.toArray true).wp P Q a w :=
  wp_region_quiet_below hm hB h.out
theorem wq_nil {P : Program} {ops : Array Oper} {C : World → Prop} {Q : Act → Prop} {a : Act} (h : Q a) : WQ P ops C Q [] a := ⟨wpQuiet_nil h⟩
theorem q_skipK {P : Program} {ops : Array Oper} {C : World → Prop} {Q : Act → Prop} {a : Act} {o : Oper} {rest : List Oper} (hw : Region.wanted o (yielded ops a.tmps) = false)
    (h : ∀ K : Act → Prop, (∀ a, WQ P ops C Q rest a → K a) → K (a.put o.dst undef)) : WQ P ops C Q (o :: rest) a := by
  constructor
  unfold wpQuiet
  rw [if_neg (by rw [hw]; exact Bool.false_ne_true)]
  exact (h (fun a => WQ P ops C Q rest a) (fun _ h => h)).out
theorem q_take {P : Program} {ops : Array Oper} {C : World → Prop} {Q : Act → Prop} {a : Act} {o : Oper} {rest : List Oper} (hw : Region.wanted o (yielded ops a.tmps) = true)
    (h : ∀ K : Act → Prop, (∀ a, WQ P ops C Q rest a → K a) → o.quiet P a C K) : WQ P ops C Q (o :: rest) a := by
  constructor
  unfold wpQuiet
  rw [if_pos hw]
  exact h _ (fun _ h => h.out)
end Go.Proofs.Ytjhlammjnggghaa
namespace Go.Proofs.Ytjhlammjnggghaa
open Go.ChangeShapes Go.WideShapes Go.ChangeAt Go.RowKit Go.Sort
set_option linter.unusedVariables false
set_option maxRecDepth 100000

theorem q_load {P : Program} {ops : Array Oper} {W : World} {Q : Act → Prop} {a : Act} {op : Oper} {rest : List Oper} (hw : Region.wanted op (yielded ops a.tmps) = true) (ty : TypeId) (x : Operand) (ho : op.op = .load ty x)
    (b o : Nat) (hx : a.eval x = .pointer (some ⟨b, o, none⟩)) (cs : List Value) (hb : b < W.heap.size) (hin : InB W b o cs) (ht : RowT P ty cs.length)
    (h : ∀ K : Act → Prop, (∀ a, WQ P ops (fun w' => ∃ p : Regrown, w' = grow (redrawn W p.d) p.os) Q rest a → K a) → K (a.put op.dst (.agg cs.toArray))) : WQ P ops (fun w' => ∃ p : Regrown, w' = grow (redrawn W p.d) p.os) Q (op :: rest) a := by
  obtain ⟨d, hu, hd, hi⟩ := ht
  refine q_take hw (fun K hK => ⟨.agg cs.toArray, fun w hC => ?_, h K hK⟩)
  obtain ⟨p, rfl⟩ := hC
  have hin2 := hin.turn hb (Below.turn (below_regrown W p.d p.os)) (fun e => e)
  have hl := run_loadVar_mid (P := P) (grow (redrawn W p.d) p.os) b o ty cs d hin2 hu hd hi
  unfold Oper.quietAt execOp
  simp only [ho, hx, Instr.loadAt, Instr.sureAddr, Sem.run_bind, Sem.run_pure, Result.andThen_ok, hl]
  exact ⟨rfl, rfl⟩
theorem q_cell {P : Program} {ops : Array Oper} {W : World} {Q : Act → Prop} {a : Act} {op : Oper} {rest : List Oper} (hw : Region.wanted op (yielded ops a.tmps) = true) (ty : TypeId) (x : Operand) (ho : op.op = .load ty x)
    (b o : Nat) (hx : a.eval x = .pointer (some ⟨b, o, none⟩)) (v : Value) (hin : W.cell? ⟨b, o, none⟩ = some v) (hp : PlainT P ty)
    (h : ∀ K : Act → Prop, (∀ a, WQ P ops (fun w' => ∃ p : Regrown, w' = grow (redrawn W p.d) p.os) Q rest a → K a) → K (a.put op.dst v)) : WQ P ops (fun w' => ∃ p : Regrown, w' = grow (redrawn W p.d) p.os) Q (op :: rest) a := by
  refine q_take hw (fun K hK => ⟨v, fun w hC => ?_, h K hK⟩)
  obtain ⟨p, rfl⟩ := hC
  unfold Oper.quietAt execOp
  simp only [ho, hx, Instr.loadAt, Instr.sureAddr, Sem.run_bind, Sem.run_pure, Result.andThen_ok, hp _ _ v (cell_regrown hin p.d p.os)]
  exact ⟨rfl, rfl⟩
end Go.Proofs.Ytjhlammjnggghaa
namespace Go.Proofs.Ytjhlammjnggghaa
open Go.ChangeShapes Go.WideShapes Go.ChangeAt Go.RowKit Go.Sort
set_option linter.unusedVariables false
set_option maxRecDepth 100000

theorem infoTrailO : (Try.prog.info? 44).map (fun i => (i.zero, i.size, i.bytes)) = some (some (.agg #[.int .i64 0, .int .i64 0, .int .i64 0, .slice none 0 0]), 4, 48) := by kernel_rfl
theorem plainTrailsO : PlainT Try.prog 28 := fun w a v h => by simp [loadVar, go_sem, h]
theorem wpo_loadO {P : Program} {op : Oper} {a : Act} {w : World} {K : Act → World → Prop} {Q : Exit → Act → World → Prop} (ty : TypeId) (x : Operand) (ho : op.op = .load ty x) (b o : Nat) (hx : a.eval x = .pointer (some ⟨b, o, none⟩)) (cs : List Value) (hh : InB w b o cs) (ht : RowT P ty cs.length)
    (h : K (a.put op.dst (.agg cs.toArray)) w) : Oper.wp P op a w K Q := by
  obtain ⟨d, hu, hd, hi⟩ := ht
  exact wp_load_mid ty x ho b o hx cs d hh hu hd hi h
theorem wpo_storeO {P : Program} {op : Oper} {a : Act} {w : World} {K : Act → World → Prop} {Q : Exit → Act → World → Prop} (ty : TypeId) (x y : Operand) (ho : op.op = .store ty x y)
    (b o : Nat) (cs : List Value) (hx : a.eval x = .pointer (some ⟨b, o, none⟩)) (hy : a.eval y = .agg cs.toArray) (hw : WrAt w b o cs.length) (h1 : One cs) (hi : RowT P ty cs.length)
    (h : K (a.put op.dst undef) (putL b o cs 0 w)) : Oper.wp P op a w K Q := by
  obtain ⟨d, hu, hd, hi⟩ := hi
  refine wp_store_mid ty x y ho b o cs.toArray hx hy (fun j hj => hw.2 j (by simpa using hj)) (by simpa using hi) (all_oneCell_toArray h1) ?_
  have e : ∀ (vs : List Value) (j : Nat) (w : World), w.setCells b (o + j) vs = putL b o vs j w := by
    intro vs
    induction vs with
    | nil => intro j w; rfl
    | cons v r ih => intro j w; exact ih (j + 1) _
  have e0 := e cs 0 w
  rw [Nat.add_zero] at e0
  simpa [e0] using h
theorem wpo_appendO {P : Program} {w : World} {o : Oper} {a : Act} {K : Act → World → Prop} {Q : Exit → Act → World → Prop} {s x : Operand} {t : TypeId} {v u v' : Value} {w' : World} (ho : o.op = .call { callee := .builtin .append, args := #[s, x], argTypes := #[t, t] })
    (hs : a.eval s = v) (hx : a.eval x = u) (hr : (Builtin.append_ #[t, t] o.type #[v, u]).run P w = .ok v' w') (h : K (a.put o.dst v') w') : Oper.wp P o a w K Q := by
  unfold Oper.wp execOp
  simp only [ho, resolve, invoke, builtin, Sem.run_bind, Sem.run_pure, Result.andThen_ok, List.map_toArray, List.map_cons, List.map_nil, hs, hx, hr]
  exact h
theorem lit_cellsO (w : World) (cs : List Value) (t : TypeId) : ∀ j u, cs[j]? = some u → (w.alloc (.cells cs.toArray t)).cell? ((⟨w.heap.size, 0, none⟩ : Addr).add j) = some u := by
  intro j u hu
  have e : (⟨w.heap.size, 0, none⟩ : Addr).add j = ⟨w.heap.size, j, none⟩ := by unfold Addr.add; split <;> simp_all
  rw [e, World.cell?_alloc_at _ _ _ _ rfl]
  simpa using hu
/-- A store into a row that the call owns. -/
theorem owns_setIn {w : World} {base : Nat} {e : TypeId} {size g n cap i : Nat} {xs : List Value} (h : w.ownsRow base e size (.slice (some ⟨g, 0, none⟩) n cap) n xs) (u : Value) :
    (w.setCell ⟨g, i, none⟩ u).ownsRow base e size (.slice (some ⟨g, 0, none⟩) n cap) n (xs.set i u) := by
  obtain ⟨h1, h2⟩ := h
  refine ⟨by rw [List.length_set]; exact h1, ?_⟩
  rcases h2 with ⟨h2, _⟩ | ⟨g2, cap2, cur, hv, hg, hh, hn, hc, hs, hx⟩
  · injection h2 with h2; cases h2
  · injection hv with hv1 hv2 hv3
    injection hv1 with hv1
    injection hv1 with hv1
    subst hv1
    subst hv3
    refine .inr ⟨g, cap, cur.setIfInBounds i u, rfl, hg, ?_, hn, hc, by simpa using hs, ?_⟩
    · obtain ⟨hlt, hk⟩ := Array.getElem?_eq_some_iff.1 hh
      show (w.heap.modify g _)[g]? = _
      rw [Array.getElem?_eq_getElem (by rw [Array.size_modify]; exact hlt), Array.getElem_modify_self, hk]
      rfl
    · rw [Array.toList_setIfInBounds, List.take_set, hx]
theorem owns_put4 {w : World} {base : Nat} {e : TypeId} {g n cap k : Nat} {ps : List (TrailD × Value)} (h : w.ownsRow base e 4 (.slice (some ⟨g, 0, none⟩) n cap) n (cellsP ps)) (p : TrailD × Value) (hk : k < ps.length) :
    (putL g (k * 4) (tc p) 0 w).ownsRow base e 4 (.slice (some ⟨g, 0, none⟩) n cap) n (cellsP (ps.set k p)) := by
  rw [← cellsP_set ps k p hk]
  exact owns_setIn (owns_setIn (owns_setIn (owns_setIn h (i := k * 4 + 0) (.int .i64 p.1.id)) (i := k * 4 + 1) (.int .i64 p.1.stamp)) (i := k * 4 + 2) (.int .i64 p.1.first)) (i := k * 4 + 3) p.2
theorem owns_in {w : World} {base : Nat} {e : TypeId} {g n cap k : Nat} {ps : List (TrailD × Value)} (h : w.ownsRow base e 4 (.slice (some ⟨g, 0, none⟩) n cap) n (cellsP ps)) {p : TrailD × Value} (hp : ps[k]? = some p) : InB w g (k * 4) (tc p) := by
  intro j u hu
  have hc := cellsP_at ps k p j u hp hu
  rcases h.2 with ⟨h2, _⟩ | ⟨g2, cap2, cur, hv, hg, hh, hn, hcp, hs, hx⟩
  · injection h2 with h2; cases h2
  · injection hv with hv1 hv2 hv3
    injection hv1 with hv1
    injection hv1 with hv1
    subst hv1
    rw [← hx] at hc
    rw [List.getElem?_take] at hc
    split at hc
    · rw [Array.getElem?_toList] at hc
      simp [World.cell?, hh, hc]
    · cases hc
theorem owns_wr {w : World} {base : Nat} {e : TypeId} {g n cap : Nat} {xs : List Value} (h : w.ownsRow base e 4 (.slice (some ⟨g, 0, none⟩) n cap) n xs) {k : Nat} (hk : k < n) : WrAt w g (k * 4) 4 := by
  rcases h.2 with ⟨h2, _⟩ | ⟨g2, cap2, cur, hv, hg, hh, hn, hcp, hs, hx⟩
  · injection h2 with h2; cases h2
  · injection hv with hv1 hv2 hv3
    injection hv1 with hv1
    injection hv1 with hv1
    subst hv1
    subst hv3
    refine ⟨(Array.getElem?_eq_some_iff.1 hh).1, fun j hj => ⟨?_, ?_⟩⟩
    · have hlt : k * 4 + j < cur.size := by rw [hs]; omega
      simp [World.cell?, hh, hlt]
    · simp [World.frozen?, hh]
theorem owns_lt {w : World} {base : Nat} {e : TypeId} {g n cap size : Nat} {xs : List Value} (h : w.ownsRow base e size (.slice (some ⟨g, 0, none⟩) n cap) n xs) : base ≤ g ∧ g < w.heap.size ∧ n ≤ cap ∧ cap ≤ maxLen := by
  rcases h.2 with ⟨h2, _⟩ | ⟨g2, cap2, cur, hv, hg, hh, hn, hcp, hs, hx⟩
  · injection h2 with h2; cases h2
  · injection hv with hv1 hv2 hv3
    injection hv1 with hv1
    injection hv1 with hv1
    subst hv1
    subst hv3
    exact ⟨hg, (Array.getElem?_eq_some_iff.1 hh).1, hn, hcp⟩
theorem owns_formO {w : World} {base : Nat} {e : TypeId} {size n : Nat} {v : Value} {xs : List Value} (h : w.ownsRow base e size v n xs) : ∃ a cap, v = .slice a n cap := by
  rcases h.2 with ⟨rfl, rfl⟩ | ⟨g, cap, _, rfl, _⟩
  · exact ⟨_, _, rfl⟩
  · exact ⟨_, _, rfl⟩
/-- What the row's trails are. -/
def Known (w0 : World) (S0 : Nat → Prop) (ps : List (TrailD × Value)) : Prop := ∀ p ∈ ps, LAt 6 spanR w0 S0 p.2 p.1.spans ∧ trailBulk p.1 ≤ 1048576
theorem Known.rd {w0 : World} {S0 : Nat → Prop} {ps : List (TrailD × Value)} (h : Known w0 S0 ps) {k : Nat} {p : TrailD × Value} (hp : ps[k]? = some p) {w : World} (hb : Below w0.heap.size w0 w) : trailR w S0 (tc p) p.1 ∧ trailBulk p.1 ≤ 1048576 := by
  have h1 := h p (List.mem_of_getElem? hp)
  exact ⟨trailR_keeps _ _ S0 None1 _ _ (Below.turn hb) none_off ⟨p.2, rfl, h1.1⟩, h1.2⟩
theorem Known.snoc {w0 : World} {S0 : Nat → Prop} {ps : List (TrailD × Value)} (h : Known w0 S0 ps) {p : TrailD × Value} (h1 : LAt 6 spanR w0 S0 p.2 p.1.spans) (h2 : trailBulk p.1 ≤ 1048576) : Known w0 S0 (ps ++ [p]) := by
  intro q hq
  rcases List.mem_append.1 hq with hq | hq
  · exact h q hq
  · rw [List.mem_singleton] at hq; subst hq; exact ⟨h1, h2⟩
theorem Known.set {w0 : World} {S0 : Nat → Prop} {ps : List (TrailD × Value)} (h : Known w0 S0 ps) {k : Nat} {p : TrailD × Value} (h1 : LAt 6 spanR w0 S0 p.2 p.1.spans) (h2 : trailBulk p.1 ≤ 1048576) : Known w0 S0 (ps.set k p) := by
  intro q hq
  rcases List.mem_or_eq_of_mem_set hq with hq | hq
  · exact h q hq
  · subst hq; exact ⟨h1, h2⟩
def AgeM (bp lo : Nat) (S0 : Nat → Prop) (w0 w : World) (ts : List TrailD) : Prop := lo ≤ bp ∧ ∃ v ps, Boxed w bp 145 v ∧ w.ownsRow lo 44 4 v ts.length (cellsP ps) ∧ ps.length = ts.length ∧ Known w0 S0 ps ∧ Rooted Prod.fst ps (bestL ts)
theorem AgeM.keep {bp lo : Nat} {S0 : Nat → Prop} {w0 w w' : World} {ts : List TrailD} (h : AgeM bp lo S0 w0 w ts) (hb : Below w.heap.size w w') : AgeM bp lo S0 w0 w' ts := by
  obtain ⟨h1, v, ps, h2, h3, h4, h5, h6⟩ := h
  exact ⟨h1, v, ps, (hb.block bp h2.lt).trans h2, owns_below h3 hb, h4, h5, h6⟩
def StO (bp lo n g cap : Nat) (S0 : Nat → Prop) (w0 wk : World) (ps : List (TrailD × Value)) (p : TrailD × Value) (qs : List (TrailD × Value)) (k : Nat) : Prop :=
  Boxed wk bp 145 (.slice (some ⟨g, 0, none⟩) (n + 1) cap) ∧ wk.ownsRow lo 44 4 (.slice (some ⟨g, 0, none⟩) (n + 1) cap) (n + 1) (cellsP qs) ∧ Below w0.heap.size w0 wk ∧ Known w0 S0 qs ∧ Going Prod.fst ps p qs k
theorem StO.fin {bp lo n g cap : Nat} {S0 : Nat → Prop} {w0 wk : World} {ts : List TrailD} {ps qs : List (TrailD × Value)} {p : TrailD × Value} {k : Nat} (h : StO bp lo n g cap S0 w0 wk ps p qs k) (hn : n = ts.length) (hpl : ps.length = ts.length) (hlo : lo ≤ bp) (hr : Rooted Prod.fst ps (bestL ts))
    (hs : k = 0 ∨ ∃ (a : Nat) (qa : TrailD × Value), a < k ∧ qs[a]? = some qa ∧ olderB p.1 qa.1 = false) : AgeM bp lo S0 w0 wk (ts ++ [p.1]) := by
  obtain ⟨h1, h2, h3, h4, h5⟩ := h
  subst hn
  refine ⟨hlo, _, qs, h1, by rw [List.length_append]; exact h2, by rw [h5.1, hpl, List.length_append]; rfl, h4, ?_⟩
  rw [bestL_snoc]
  exact h5.stop hr hs
theorem StO.keep {bp lo n g cap : Nat} {S0 : Nat → Prop} {w0 wk w' : World} {ps qs : List (TrailD × Value)} {p : TrailD × Value} {k : Nat} (h : StO bp lo n g cap S0 w0 wk ps p qs k) (hb : Below wk.heap.size wk w') : StO bp lo n g cap S0 w0 w' ps p qs k :=
  ⟨(hb.block bp h.1.lt).trans h.1, owns_below h.2.1 hb, h.2.2.1.trans (hb.mono h.2.2.1.size), h.2.2.2.1, h.2.2.2.2⟩
theorem StO.swap {bp lo n g cap : Nat} {S0 : Nat → Prop} {w0 wk : World} {ps qs : List (TrailD × Value)} {p qa : TrailD × Value} {k a : Nat} (h : StO bp lo n g cap S0 w0 wk ps p qs k) (hlo : w0.heap.size ≤ lo) (ha : a < k) (hk : k < n + 1) (hq : qs[a]? = some qa) (hpl : ps.length = n) (ho : olderB p.1 qa.1 = true) :
    StO bp lo n g cap S0 w0 (putL g (a * 4) (tc p) 0 (putL g (k * 4) (tc qa) 0 wk)) ps p ((qs.set k qa).set a p) a ∧
    (putL g (k * 4) (tc qa) 0 wk).cell? ⟨bp, 0, none⟩ = some (.slice (some ⟨g, 0, none⟩) (n + 1) cap) ∧ (putL g (a * 4) (tc p) 0 (putL g (k * 4) (tc qa) 0 wk)).cell? ⟨bp, 0, none⟩ = some (.slice (some ⟨g, 0, none⟩) (n + 1) cap) ∧
    WrAt (putL g (k * 4) (tc qa) 0 wk) g (a * 4) 4 := by
  obtain ⟨h1, h2, h3, h4, h5⟩ := h
  have hl : qs.length = n + 1 := by rw [h5.1, hpl]
  have hne : ¬ bp = g := fun e => h1.not_row (by decide) h2 (by rw [e]; rfl)
  have t1 := putL_turn g (k * 4) (tc qa) 0 wk
  have t2 := putL_turn g (a * 4) (tc p) 0 (putL g (k * 4) (tc qa) 0 wk)
  have r1 := owns_put4 h2 qa (by omega : k < qs.length)
  have r2 := owns_put4 r1 p (by rw [List.length_set]; omega : a < (qs.set k qa).length)
  have q1 := owns_lt h2
  have x1 : Boxed (putL g (k * 4) (tc qa) 0 wk) bp 145 (.slice (some ⟨g, 0, none⟩) (n + 1) cap) := (t1.2.2.2.2 bp h1.lt hne).trans h1
  have x2 : Boxed (putL g (a * 4) (tc p) 0 (putL g (k * 4) (tc qa) 0 wk)) bp 145 (.slice (some ⟨g, 0, none⟩) (n + 1) cap) := (t2.2.2.2.2 bp x1.lt hne).trans x1
  have hw := h3.size
  have b1 := h3.trans (t1.belowFrom hw (fun q e => by have e2 : q = g := e; omega))
  have b2 := b1.trans (t2.belowFrom b1.size (fun q e => by have e2 : q = g := e; omega))
  have kp := h4 p (List.mem_of_getElem? h5.2.2.1)
  have kq := h4 qa (List.mem_of_getElem? hq)
  exact ⟨⟨x2, r2, b2, (h4.set kq.1 kq.2).set kp.1 kp.2, h5.step (by omega) ha hq ho⟩, x1.cell, x2.cell, putL_wr _ _ (owns_wr h2 (by omega))⟩
def snocO (s : List TrailD) (t : TrailD) : List TrailD := s ++ [t]
set_option maxHeartbeats 4000000 in
theorem implAgesAdd (t : TrailD) (s : Value) (S0 : Nat → Prop) (bp : Nat) (w0 w : World) (ts : List TrailD) (h0 : LAt 6 spanR w0 S0 s t.spans) (b0 : trailBulk t ≤ 1048576) (hi : AgeM bp w0.heap.size S0 w0 w ts) (hb : Below w0.heap.size w0 w) (hlen : ts.length + 1 ≤ 1048577) :
    Calls Try.prog 113 #[.pointer (some ⟨bp, 0, none⟩), .agg (tc (t, s)).toArray] w fun e w' => e = .returned (.tuple #[]) ∧ AgeM bp w0.heap.size S0 w0 w' (snocO ts t) ∧ Below w0.heap.size w0 w' := by
  obtain ⟨sa, sk, rfl⟩ := h0.form
  have hone : One [.int .i64 t.id, .int .i64 t.stamp, .int .i64 t.first, .slice sa t.spans.length sk] := trailR_one (w := w0) (S := S0) (x := t) ⟨_, rfl, h0⟩
  have P0 := Held.new w [.int .i64 t.id, .int .i64 t.stamp, .int .i64 t.first, .slice sa t.spans.length sk] 44
  have b1 := bnew w (.cells [.int .i64 t.id, .int .i64 t.stamp, .int .i64 t.first, .slice sa t.spans.length sk].toArray 44)
  have hi1 := hi.keep b1
  have hbs := hb.size
  have hb1 := hb.trans (b1.mono hbs)
  have hmx : (1048577 : Nat) ≤ maxLen := by unfold maxLen; omega
  have HS := hide h0
  clear h0 hi hb
  unfold tc
  go_enter Try.func113, Try.ntmps113
  go_upto_region 1 with fail
  generalize w.alloc (.cells [.int .i64 t.id, .int .i64 t.stamp, .int .i64 t.first, .slice sa t.spans.length sk].toArray 44) = w1 at *
  obtain ⟨hlo, v, ps, hB, hrow, hpl, hkn, hroot⟩ := hi1
  have hdr : Below w1.heap.size w1 w1.drew := Below.drew (Below.refl _ _)
  have hs1 := b1.size
  have hP : Held w1.drew w.heap.size [.int .i64 t.id, .int .i64 t.stamp, .int .i64 t.first, .slice sa t.spans.length sk] := P0.keep hdr
  have hB1 : Boxed w1.drew bp 145 v := (hdr.block bp hB.lt).trans hB
  have hrow1 := owns_below hrow hdr
  have hbd := hb1.trans (hdr.mono (by omega))
  have HRT := hide (And.intro hpl (And.intro hlo hroot))
  go_cut [6] from 6 to 15 (fun c wc => c = .pointer (some ⟨bp, 0, none⟩) ∧ Hid (∃ g cap, StO bp w0.heap.size ts.length g cap S0 w0 wc ps (t, .slice sa t.spans.length sk) (ps ++ [(t, .slice sa t.spans.length sk)]) ps.length))
  case first =>
    refine wp_region_held_drew (S := fun _ => True) (by kernel_rfl) trivial (fun hHeld => ?_)
    generalize w.heap.size = pb at *
    generalize hD : w1.drew = wd at *
    clear hD hdr hB hrow P0 hb1 hs1 b1
    obtain ⟨av, kv, rfl⟩ := owns_formO hrow1
    have c0 := hB1.cell
    have c0a : (wd.alloc (.cells #[.int .i64 t.id, .int .i64 t.stamp, .int .i64 t.first, .slice sa t.spans.length sk] 44)).cell? ⟨bp, 0, none⟩ = some (.slice av ts.length kv) := by rw [World.cell?_alloc_lt _ _ _ hB1.lt]; exact c0
    have hPa : Held (wd.alloc (.cells #[.int .i64 t.id, .int .i64 t.stamp, .int .i64 t.first, .slice sa t.spans.length sk] 44)) pb [.int .i64 t.id, .int .i64 t.stamp, .int .i64 t.first, .slice sa t.spans.length sk] := hP.keep (bnew wd _)
    have hrow2 := owns_below hrow1 (bnew wd (.cells #[.int .i64 t.id, .int .i64 t.stamp, .int .i64 t.first, .slice sa t.spans.length sk] 44))
    obtain ⟨i0, hi, hz0, hz1, hz2⟩ := info_parts infoTrailO
    have hbds := hbd.size
    obtain ⟨v', w3, hr, how, hg, hv⟩ := run_append2 (P := Try.prog) (wd.alloc (.cells #[.int .i64 t.id, .int .i64 t.stamp, .int .i64 t.first, .slice sa t.spans.length sk] 44)) w0.heap.size 28 28 44 i0 _ 4 48 Try.underlying28 hi hz0 hz1 hz2 rfl (by decide) _ _ _ hrow2 ⟨wd.heap.size, 0, none⟩ 1 1 [.int .i64 t.id, .int .i64 t.stamp, .int .i64 t.first, .slice sa t.spans.length sk] rfl
      (lit_cellsO wd [.int .i64 t.id, .int .i64 t.stamp, .int .i64 t.first, .slice sa t.spans.length sk] 44) hone (by omega) (by omega) (by have := (bnew wd (.cells #[.int .i64 t.id, .int .i64 t.stamp, .int .i64 t.first, .slice sa t.spans.length sk] 44)).size; omega)
    rw [show cellsP ps ++ [.int .i64 t.id, .int .i64 t.stamp, .int .i64 t.first, .slice sa t.spans.length sk] = cellsP (ps ++ [(t, .slice sa t.spans.length sk)]) from (cellsP_snoc ps (t, .slice sa t.spans.length sk)).symm] at how
    obtain ⟨g, cap, rfl⟩ := ownsRow_succ how
    obtain ⟨hv1, hv2, hr2, _, hb2⟩ := hB1.appended (by decide) hrow1 (by omega) hlo how hg
    have c3 := hv1.cell
    have f3 := hv1.frozen
    have hbe := hbd.trans hb2
    have hgo := Going.start (f := Prod.fst) (t, Value.slice sa t.spans.length sk) hroot
    have hkn2 := hkn.snoc (p := (t, .slice sa t.spans.length sk)) (unhide HS) b0
    have HST : Hid (StO bp w0.heap.size ts.length g cap S0 w0 (w3.setCell ⟨bp, 0, none⟩ (.slice (some ⟨g, 0, none⟩) (ts.length + 1) cap)) ps (t, .slice sa t.spans.length sk) (ps ++ [(t, .slice sa t.spans.length sk)]) ps.length) := hide ⟨hv2, hr2, hbe, hkn2, hgo⟩
    clear hv1 hv2 hr2 how hg hv hrow1 hrow2 hB1 hbd hbe hgo hkn2 hkn hb2 hi hz0 hz1 hz2 hbds
    refine wpAnyH_take (i := 0) (oi := ?oo1) (v := ?vv1) ?hi1 (by kernel_rfl) (by kernel_rfl) (by kernel_rfl) ?hQ1 ?hy1 (by assumption) ?rest1
    case hi1 => (simp only [List.getElem?_toArray, List.getElem?_cons_zero]; rfl)
    case hQ1 => exact fun _ _ _ h => h
    case hy1 => exact Or.inl ⟨by rfl, by intro wS hSw; (try dsimp only at hSw); go_simp; try first | (with_reducible rfl) | (simp only [*]; done) | omega⟩
    try simp only [Act.put, List.setIfInBounds_toArray, List.set_cons_zero, List.set_cons_succ]
    refine wpAnyH_take (i := 1) (oi := ?oo2) (v := ?vv2) ?hi2 (by kernel_rfl) (by kernel_rfl) (by kernel_rfl) ?hQ2 ?hy2 (by assumption) ?rest2
    case hi2 => (simp only [List.getElem?_toArray, List.getElem?_cons_zero, List.getElem?_cons_succ]; rfl)
    case hQ2 => exact fun _ _ _ h => h
    case hy2 => exact Or.inl ⟨by rfl, by intro wS hSw; (try dsimp only at hSw); go_simp; try first | (with_reducible rfl) | (simp only [*]; done) | omega⟩
    try simp only [Act.put, List.setIfInBounds_toArray, List.set_cons_zero, List.set_cons_succ]
    refine wpAnyH_take (i := 2) (oi := ?oo3) (v := ?vv3) ?hi3 (by kernel_rfl) (by kernel_rfl) (by kernel_rfl) ?hQ3 ?hy3 (by assumption) ?rest3
    case hi3 => (simp only [List.getElem?_toArray, List.getElem?_cons_zero, List.getElem?_cons_succ]; rfl)
    case hQ3 => exact fun _ _ _ h => h
    case hy3 => exact Or.inl ⟨by rfl, by intro wS hSw; (try dsimp only at hSw); go_simp; try first | (with_reducible rfl) | (simp only [*]; done) | omega⟩
    try simp only [Act.put, List.setIfInBounds_toArray, List.set_cons_zero, List.set_cons_succ]
    refine wpAnyH_take (i := 3) (oi := ?oo4) (v := ?vv4) ?hi4 (by kernel_rfl) (by kernel_rfl) (by kernel_rfl) ?hQ4 ?hy4 (by assumption) ?rest4
    case hi4 => (simp only [List.getElem?_toArray, List.getElem?_cons_zero, List.getElem?_cons_succ]; rfl)
    case hQ4 => exact fun _ _ _ h => h
    case hy4 => exact Or.inl ⟨by rfl, by intro wS hSw; (try dsimp only at hSw); go_simp; try first | (with_reducible rfl) | (simp only [*]; done) | omega⟩
    try simp only [Act.put, List.setIfInBounds_toArray, List.set_cons_zero, List.set_cons_succ]
    refine wpAnyH_ready (rs := [4, 5]) (by kernel_rfl) (by simp) ?_
    refine (AllReadyH.cons (o := ?bo5n4) ?bh5n4 (fun K hK => ?br5n4) (AllReadyH.cons (o := ?bo5n5) ?bh5n5 (fun K hK => ?br5n5) AllReadyH.nil))
    case bh5n4 => (simp only [List.getElem?_toArray, List.getElem?_cons_zero, List.getElem?_cons_succ]; rfl)
    case bh5n5 => (simp only [List.getElem?_toArray, List.getElem?_cons_zero, List.getElem?_cons_succ]; rfl)
    case br5n4 =>
      go_simp
      refine hK.out _ _ (trivial) (fun hHeld => ?_)
      clear hK
      refine wpAnyH_ready (rs := [5]) (by kernel_rfl) (by simp) ?_
      refine (AllReadyH.cons (o := ?bo6n5) ?bh6n5 (fun K hK => ?br6n5) AllReadyH.nil)
      case bh6n5 => (simp only [List.getElem?_toArray, List.getElem?_cons_zero, List.getElem?_cons_succ]; rfl)
      case br6n5 =>
        rw [if_pos (by rfl)]
        refine wpo_loadO 44 _ rfl pb 0 rfl [.int .i64 t.id, .int .i64 t.stamp, .int .i64 t.first, .slice sa t.spans.length sk] (Held.inB (by assumption)) rowITrail ?_
        refine hK.out _ _ (trivial) (fun hHeld => ?_)
        clear hK
        refine wpAnyH_ready (rs := [6]) (by kernel_rfl) (by simp) ?_
        refine (AllReadyH.cons (o := ?bo7n6) ?bh7n6 (fun K hK => ?br7n6) AllReadyH.nil)
        case bh7n6 => (simp only [List.getElem?_toArray, List.getElem?_cons_zero, List.getElem?_cons_succ]; rfl)
        case br7n6 =>
          go_simp
          refine hK.out _ _ (trivial) (fun hHeld => ?_)
          clear hK
          refine wpAnyH_ready (rs := [7]) (by kernel_rfl) (by simp) ?_
          refine (AllReadyH.cons (o := ?bo8n7) ?bh8n7 (fun K hK => ?br8n7) AllReadyH.nil)
          case bh8n7 => (simp only [List.getElem?_toArray, List.getElem?_cons_zero, List.getElem?_cons_succ]; rfl)
          case br8n7 =>
            rw [if_pos (by rfl)]
            refine wpo_appendO (s := .tmp 10) (x := .tmp 12) (t := 28) (by rfl) (by rfl) (by rfl) hr ?_
            refine hK.out _ _ (trivial) (fun hHeld => ?_)
            clear hK
            refine wpAnyH_take (i := 8) (oi := ?oo9) (v := ?vv9) ?hi9 (by kernel_rfl) (by kernel_rfl) (by kernel_rfl) ?hQ9 ?hy9 (by assumption) ?rest9
            case hi9 => (simp only [List.getElem?_toArray, List.getElem?_cons_zero, List.getElem?_cons_succ]; rfl)
            case hQ9 => exact fun _ _ _ h => h
            case hy9 => exact Or.inl ⟨by rfl, by intro wS hSw; (try dsimp only at hSw); go_simp; try first | (with_reducible rfl) | (simp only [*]; done) | omega⟩
            try simp only [Act.put, List.setIfInBounds_toArray, List.set_cons_zero, List.set_cons_succ]
            refine wpAnyH_take (i := 9) (oi := ?oo10) (v := ?vv10) ?hi10 (by kernel_rfl) (by kernel_rfl) (by kernel_rfl) ?hQ10 ?hy10 (by assumption) ?rest10
            case hi10 => (simp only [List.getElem?_toArray, List.getElem?_cons_zero, List.getElem?_cons_succ]; rfl)
            case hQ10 => exact fun _ _ _ h => h
            case hy10 => exact Or.inl ⟨by rfl, by intro wS hSw; (try dsimp only at hSw); go_simp; try first | (with_reducible rfl) | (simp only [*]; done) | omega⟩
            try simp only [Act.put, List.setIfInBounds_toArray, List.set_cons_zero, List.set_cons_succ]
            refine wpAnyH_ready (rs := [10]) (by kernel_rfl) (by simp) ?_
            refine (AllReadyH.cons (o := ?bo11n10) ?bh11n10 (fun K hK => ?br11n10) AllReadyH.nil)
            case bh11n10 => (simp only [List.getElem?_toArray, List.getElem?_cons_zero, List.getElem?_cons_succ]; rfl)
            case br11n10 =>
              go_simp
              refine hK.out _ _ (trivial) (fun hHeld => ?_)
              clear hK
              refine wpAnyH_done (by kernel_rfl) ?_ _
              clear hr c0 c0a hP hPa
              go_wp2
              go_meet
              exact ⟨rfl, hide ⟨g, cap, unhide HST⟩⟩
    case br5n5 =>
      rw [if_pos (by rfl)]
      refine wpo_loadO 44 _ rfl pb 0 rfl [.int .i64 t.id, .int .i64 t.stamp, .int .i64 t.first, .slice sa t.spans.length sk] (Held.inB (by assumption)) rowITrail ?_
      refine hK.out _ _ (trivial) (fun hHeld => ?_)
      clear hK
      refine wpAnyH_ready (rs := [4, 6]) (by kernel_rfl) (by simp) ?_
      refine (AllReadyH.cons (o := ?bo12n4) ?bh12n4 (fun K hK => ?br12n4) (AllReadyH.cons (o := ?bo12n6) ?bh12n6 (fun K hK => ?br12n6) AllReadyH.nil))
      case bh12n4 => (simp only [List.getElem?_toArray, List.getElem?_cons_zero, List.getElem?_cons_succ]; rfl)
      case bh12n6 => (simp only [List.getElem?_toArray, List.getElem?_cons_zero, List.getElem?_cons_succ]; rfl)
      case br12n4 =>
        go_simp
        refine hK.out _ _ (trivial) (fun hHeld => ?_)
        clear hK
        refine wpAnyH_ready (rs := [6]) (by kernel_rfl) (by simp) ?_
        refine (AllReadyH.cons (o := ?bo13n6) ?bh13n6 (fun K hK => ?br13n6) AllReadyH.nil)
        case bh13n6 => (simp only [List.getElem?_toArray, List.getElem?_cons_zero, List.getElem?_cons_succ]; rfl)
        case br13n6 =>
          go_simp
          refine hK.out _ _ (trivial) (fun hHeld => ?_)
          clear hK
          refine wpAnyH_ready (rs := [7]) (by kernel_rfl) (by simp) ?_
          refine (AllReadyH.cons (o := ?bo14n7) ?bh14n7 (fun K hK => ?br14n7) AllReadyH.nil)
          case bh14n7 => (simp only [List.getElem?_toArray, List.getElem?_cons_zero, List.getElem?_cons_succ]; rfl)
          case br14n7 =>
            rw [if_pos (by rfl)]
            refine wpo_appendO (s := .tmp 10) (x := .tmp 12) (t := 28) (by rfl) (by rfl) (by rfl) hr ?_
            refine hK.out _ _ (trivial) (fun hHeld => ?_)
            clear hK
            refine wpAnyH_take (i := 8) (oi := ?oo15) (v := ?vv15) ?hi15 (by kernel_rfl) (by kernel_rfl) (by kernel_rfl) ?hQ15 ?hy15 (by assumption) ?rest15
            case hi15 => (simp only [List.getElem?_toArray, List.getElem?_cons_zero, List.getElem?_cons_succ]; rfl)
            case hQ15 => exact fun _ _ _ h => h
            case hy15 => exact Or.inl ⟨by rfl, by intro wS hSw; (try dsimp only at hSw); go_simp; try first | (with_reducible rfl) | (simp only [*]; done) | omega⟩
            try simp only [Act.put, List.setIfInBounds_toArray, List.set_cons_zero, List.set_cons_succ]
            refine wpAnyH_take (i := 9) (oi := ?oo16) (v := ?vv16) ?hi16 (by kernel_rfl) (by kernel_rfl) (by kernel_rfl) ?hQ16 ?hy16 (by assumption) ?rest16
            case hi16 => (simp only [List.getElem?_toArray, List.getElem?_cons_zero, List.getElem?_cons_succ]; rfl)
            case hQ16 => exact fun _ _ _ h => h
            case hy16 => exact Or.inl ⟨by rfl, by intro wS hSw; (try dsimp only at hSw); go_simp; try first | (with_reducible rfl) | (simp only [*]; done) | omega⟩
            try simp only [Act.put, List.setIfInBounds_toArray, List.set_cons_zero, List.set_cons_succ]
            refine wpAnyH_ready (rs := [10]) (by kernel_rfl) (by simp) ?_
            refine (AllReadyH.cons (o := ?bo17n10) ?bh17n10 (fun K hK => ?br17n10) AllReadyH.nil)
            case bh17n10 => (simp only [List.getElem?_toArray, List.getElem?_cons_zero, List.getElem?_cons_succ]; rfl)
            case br17n10 =>
              go_simp
              refine hK.out _ _ (trivial) (fun hHeld => ?_)
              clear hK
              refine wpAnyH_done (by kernel_rfl) ?_ _
              clear hr c0 c0a hP hPa
              go_wp2
              go_meet
              exact ⟨rfl, hide ⟨g, cap, unhide HST⟩⟩
      case br12n6 =>
        go_simp
        refine hK.out _ _ (trivial) (fun hHeld => ?_)
        clear hK
        refine wpAnyH_ready (rs := [4]) (by kernel_rfl) (by simp) ?_
        refine (AllReadyH.cons (o := ?bo18n4) ?bh18n4 (fun K hK => ?br18n4) AllReadyH.nil)
        case bh18n4 => (simp only [List.getElem?_toArray, List.getElem?_cons_zero, List.getElem?_cons_succ]; rfl)
        case br18n4 =>
          go_simp
          refine hK.out _ _ (trivial) (fun hHeld => ?_)
          clear hK
          refine wpAnyH_ready (rs := [7]) (by kernel_rfl) (by simp) ?_
          refine (AllReadyH.cons (o := ?bo19n7) ?bh19n7 (fun K hK => ?br19n7) AllReadyH.nil)
          case bh19n7 => (simp only [List.getElem?_toArray, List.getElem?_cons_zero, List.getElem?_cons_succ]; rfl)
          case br19n7 =>
            rw [if_pos (by rfl)]
            refine wpo_appendO (s := .tmp 10) (x := .tmp 12) (t := 28) (by rfl) (by rfl) (by rfl) hr ?_
            refine hK.out _ _ (trivial) (fun hHeld => ?_)
            clear hK
            refine wpAnyH_take (i := 8) (oi := ?oo20) (v := ?vv20) ?hi20 (by kernel_rfl) (by kernel_rfl) (by kernel_rfl) ?hQ20 ?hy20 (by assumption) ?rest20
            case hi20 => (simp only [List.getElem?_toArray, List.getElem?_cons_zero, List.getElem?_cons_succ]; rfl)
            case hQ20 => exact fun _ _ _ h => h
            case hy20 => exact Or.inl ⟨by rfl, by intro wS hSw; (try dsimp only at hSw); go_simp; try first | (with_reducible rfl) | (simp only [*]; done) | omega⟩
            try simp only [Act.put, List.setIfInBounds_toArray, List.set_cons_zero, List.set_cons_succ]
            refine wpAnyH_take (i := 9) (oi := ?oo21) (v := ?vv21) ?hi21 (by kernel_rfl) (by kernel_rfl) (by kernel_rfl) ?hQ21 ?hy21 (by assumption) ?rest21
            case hi21 => (simp only [List.getElem?_toArray, List.getElem?_cons_zero, List.getElem?_cons_succ]; rfl)
            case hQ21 => exact fun _ _ _ h => h
            case hy21 => exact Or.inl ⟨by rfl, by intro wS hSw; (try dsimp only at hSw); go_simp; try first | (with_reducible rfl) | (simp only [*]; done) | omega⟩
            try simp only [Act.put, List.setIfInBounds_toArray, List.set_cons_zero, List.set_cons_succ]
            refine wpAnyH_ready (rs := [10]) (by kernel_rfl) (by simp) ?_
            refine (AllReadyH.cons (o := ?bo22n10) ?bh22n10 (fun K hK => ?br22n10) AllReadyH.nil)
            case bh22n10 => (simp only [List.getElem?_toArray, List.getElem?_cons_zero, List.getElem?_cons_succ]; rfl)
            case br22n10 =>
              go_simp
              refine hK.out _ _ (trivial) (fun hHeld => ?_)
              clear hK
              refine wpAnyH_done (by kernel_rfl) ?_ _
              clear hr c0 c0a hP hPa
              go_wp2
              go_meet
              exact ⟨rfl, hide ⟨g, cap, unhide HST⟩⟩
  case rest =>
  obtain ⟨rfl, hst⟩ := hcut
  obtain ⟨g, cap, hst⟩ := unhide hst
  have mixed : Try.prog.follows .mixedOrders = true := by kernel_rfl
  have hpl := (unhide HRT).1
  clear hroot hlo hB hrow hkn P0 b1 hs1 hdr hP hB1 hrow1 hbd hb1 hbs
  have cz := hst.1.cell
  have HST := hide hst
  clear hst
  go_wp2
  go_loopw [4] (fun i wk => ∃ (k : Nat) (qs : List (TrailD × Value)), i = .int .i64 k ∧ k ≤ ts.length ∧ Hid (StO bp w0.heap.size ts.length g cap S0 w0 wk ps (t, .slice sa t.spans.length sk) qs k)) (fun i _ => (intOf i).toNat)
  case atStart => exact ⟨ps.length, _, by rw [hpl], by omega, HST⟩
  case round =>
    obtain ⟨k, qs, rfl, hkn, hst⟩ := hrel
    clear HST cz
    have cz := (unhide hst).1.cell
    by_cases hk0 : k = 0
    · have hkz : ¬ (0 : Int) < (k : Int) := by omega
      have HF : Hid (AgeM bp w0.heap.size S0 w0 wr (snocO ts t) ∧ Below w0.heap.size w0 wr) := hide ⟨(unhide hst).fin rfl (unhide HRT).1 (unhide HRT).2.1 (unhide HRT).2.2 (.inl hk0), (unhide hst).2.2.1⟩
      clear hst
      go_wp2
      go_end0
      exact ⟨rfl, unhide HF⟩
    · have hkz : (0 : Int) < (k : Int) := by omega
      obtain ⟨a, zh⟩ : ∃ a : Nat, ((k : Int) - 1) / 2 = (a : Int) := ⟨(k - 1) / 2, by omega⟩
      have hak : a < k := by omega
      have ZH := hide zh
      have hst2 := unhide hst
      obtain ⟨hBx, hrw, hbl, hkw, hgo⟩ := hst2
      have hqs : qs.length = ts.length + 1 := by rw [hgo.1, hpl]
      obtain ⟨qa, hqa⟩ : ∃ qa, qs[a]? = some qa := ⟨qs[a], List.getElem?_eq_getElem (by omega)⟩
      have hik := owns_in hrw hgo.2.2.1
      have hia := owns_in hrw hqa
      have hlt := owns_lt hrw
      have hra := fun (wx : World) (hb : Below w0.heap.size w0 wx) => hkw.rd hqa hb
      have hrt := fun (wx : World) (hb : Below w0.heap.size w0 wx) => hkw.rd hgo.2.2.1 hb
      obtain ⟨x, sx⟩ := qa
      obtain ⟨ax, kx, hsx⟩ := (hkw (x, sx) (List.mem_of_getElem? hqa)).1.form
      simp only at hsx
      subst hsx
      have honea : One [.int .i64 x.id, .int .i64 x.stamp, .int .i64 x.first, .slice ax x.spans.length kx] := trailR_one (hra _ hbl).1
      simp only [tc] at hik hia hra hrt
      have CO := hide (fun wx (hb : Below wr.heap.size wr wx) => implOlder t x S0 [.int .i64 t.id, .int .i64 t.stamp, .int .i64 t.first, .slice sa t.spans.length sk] S0 [.int .i64 x.id, .int .i64 x.stamp, .int .i64 x.first, .slice ax x.spans.length kx] wx (hrt _ (hbl.trans (hb.mono hbl.size))).1 (hrt _ (hbl.trans (hb.mono hbl.size))).2 (hra _ (hbl.trans (hb.mono hbl.size))).1 (hra _ (hbl.trans (hb.mono hbl.size))).2)
      have HQA := hide hqa
      have HIK := hide hik
      have HIA := hide hia
      have hgl := hlt.2.1
      have m1 : (k : Int) < (ts.length : Int) + 1 := by omega
      have m2 : (a : Int) < (ts.length : Int) + 1 := by omega
      have m3 : (0 : Int) ≤ (a : Int) := by omega
      clear hBx hrw hkw hgo hqa hik hia hra hrt hbl hqs hlt
      go_upto_region 5 with fail
      cases ho : olderB t x with
      | false =>
        have HF : Hid (AgeM bp w0.heap.size S0 w0 wr (snocO ts t) ∧ Below w0.heap.size w0 wr) := hide ⟨(unhide hst).fin rfl (unhide HRT).1 (unhide HRT).2.1 (unhide HRT).2.2 (.inr ⟨a, _, hak, unhide HQA, ho⟩), (unhide hst).2.2.1⟩
        rw [ho] at CO
        clear hst ho
        refine wq_region (by assumption) (by kernel_rfl) ?_
        refine q_take (by kernel_rfl) (fun K hK => ?_)
        go_simp
        refine hK _ ?_
        clear hK K
        refine q_take (by kernel_rfl) (fun K hK => ?_)
        go_simp
        refine hK _ ?_
        clear hK K
        refine q_take (by kernel_rfl) (fun K hK => ?_)
        go_simp
        refine hK _ ?_
        clear hK K
        refine q_cell (by kernel_rfl) 28 _ rfl bp 0 rfl (.slice (some ⟨g, 0, none⟩) (ts.length + 1) cap) cz plainTrailsO (fun K hK => ?_)
        simp only [Act.put, List.setIfInBounds_toArray, List.set_cons_zero, List.set_cons_succ]
        refine hK _ ?_
        clear hK K
        refine q_take (by kernel_rfl) (fun K hK => ?_)
        go_simp
        refine hK _ ?_
        clear hK K
        refine q_take (by kernel_rfl) (fun K hK => ?_)
        go_simp
        refine hK _ ?_
        clear hK K
        refine q_load (by kernel_rfl) 44 _ rfl g (k * 4) rfl [.int .i64 t.id, .int .i64 t.stamp, .int .i64 t.first, .slice sa t.spans.length sk] hgl (unhide HIK) rowITrail (fun K hK => ?_)
        simp only [Act.put, List.setIfInBounds_toArray, List.set_cons_zero, List.set_cons_succ]
        refine hK _ ?_
        clear hK K
        refine q_take (by kernel_rfl) (fun K hK => ?_)
        go_simp
        refine hK _ ?_
        clear hK K
        refine q_take (by kernel_rfl) (fun K hK => ?_)
        go_simp
        refine hK _ ?_
        clear hK K
        refine q_take (by kernel_rfl) (fun K hK => ?_)
        go_simp
        refine hK _ ?_
        clear hK K
        refine q_cell (by kernel_rfl) 28 _ rfl bp 0 rfl (.slice (some ⟨g, 0, none⟩) (ts.length + 1) cap) cz plainTrailsO (fun K hK => ?_)
        simp only [Act.put, List.setIfInBounds_toArray, List.set_cons_zero, List.set_cons_succ]
        refine hK _ ?_
        clear hK K
        refine q_take (by kernel_rfl) (fun K hK => ?_)
        go_simp
        refine hK _ ?_
        clear hK K
        refine q_take (by kernel_rfl) (fun K hK => ?_)
        go_simp
        refine hK _ ?_
        clear hK K
        refine q_load (by kernel_rfl) 44 _ rfl g (a * 4) rfl [.int .i64 x.id, .int .i64 x.stamp, .int .i64 x.first, .slice ax x.spans.length kx] hgl (unhide HIA) rowITrail (fun K hK => ?_)
        simp only [Act.put, List.setIfInBounds_toArray, List.set_cons_zero, List.set_cons_succ]
        refine hK _ ?_
        clear hK K
        refine q_take (by kernel_rfl) (fun K hK => ?_)
        go_simp
        apply Exists.intro
        refine ⟨fun _ => ?_, hK _ ?_⟩
        exact Calls.regrown_of (unhide CO _ (below_regrown _ _ _))
        clear hK K
        refine q_take (by kernel_rfl) (fun K hK => ?_)
        go_simp
        refine hK _ ?_
        clear hK K
        refine wq_nil ?_
        intro _ hw9
        obtain ⟨⟨dq, osq⟩, hw9'⟩ := hw9
        subst hw9'
        have hHeld := below_regrown wr dq osq
        generalize Go.Sort.grow (redrawn wr dq) osq = wq at *
        clear mixed CO
        go_wp2
        try simp only [Exit.inBlock, Exit.then]
        refine bodyPost_ret (results_none rfl _ _ _) rfl ?_
        exact ⟨rfl, (unhide HF).1.keep hHeld, (unhide HF).2.trans (hHeld.mono (unhide HF).2.size)⟩
      | true =>
        have HO := hide ho
        rw [ho] at CO
        clear ho
        refine wq_region (by assumption) (by kernel_rfl) ?_
        refine q_take (by kernel_rfl) (fun K hK => ?_)
        go_simp
        refine hK _ ?_
        clear hK K
        refine q_take (by kernel_rfl) (fun K hK => ?_)
        go_simp
        refine hK _ ?_
        clear hK K
        refine q_take (by kernel_rfl) (fun K hK => ?_)
        go_simp
        refine hK _ ?_
        clear hK K
        refine q_cell (by kernel_rfl) 28 _ rfl bp 0 rfl (.slice (some ⟨g, 0, none⟩) (ts.length + 1) cap) cz plainTrailsO (fun K hK => ?_)
        simp only [Act.put, List.setIfInBounds_toArray, List.set_cons_zero, List.set_cons_succ]
        refine hK _ ?_
        clear hK K
        refine q_take (by kernel_rfl) (fun K hK => ?_)
        go_simp
        refine hK _ ?_
        clear hK K
        refine q_take (by kernel_rfl) (fun K hK => ?_)
        go_simp
        refine hK _ ?_
        clear hK K
        refine q_load (by kernel_rfl) 44 _ rfl g (k * 4) rfl [.int .i64 t.id, .int .i64 t.stamp, .int .i64 t.first, .slice sa t.spans.length sk] hgl (unhide HIK) rowITrail (fun K hK => ?_)
        simp only [Act.put, List.setIfInBounds_toArray, List.set_cons_zero, List.set_cons_succ]
        refine hK _ ?_
        clear hK K
        refine q_take (by kernel_rfl) (fun K hK => ?_)
        go_simp
        refine hK _ ?_
        clear hK K
        refine q_take (by kernel_rfl) (fun K hK => ?_)
        go_simp
        refine hK _ ?_
        clear hK K
        refine q_take (by kernel_rfl) (fun K hK => ?_)
        go_simp
        refine hK _ ?_
        clear hK K
        refine q_cell (by kernel_rfl) 28 _ rfl bp 0 rfl (.slice (some ⟨g, 0, none⟩) (ts.length + 1) cap) cz plainTrailsO (fun K hK => ?_)
        simp only [Act.put, List.setIfInBounds_toArray, List.set_cons_zero, List.set_cons_succ]
        refine hK _ ?_
        clear hK K
        refine q_take (by kernel_rfl) (fun K hK => ?_)
        go_simp
        refine hK _ ?_
        clear hK K
        refine q_take (by kernel_rfl) (fun K hK => ?_)
        go_simp
        refine hK _ ?_
        clear hK K
        refine q_load (by kernel_rfl) 44 _ rfl g (a * 4) rfl [.int .i64 x.id, .int .i64 x.stamp, .int .i64 x.first, .slice ax x.spans.length kx] hgl (unhide HIA) rowITrail (fun K hK => ?_)
        simp only [Act.put, List.setIfInBounds_toArray, List.set_cons_zero, List.set_cons_succ]
        refine hK _ ?_
        clear hK K
        refine q_take (by kernel_rfl) (fun K hK => ?_)
        go_simp
        apply Exists.intro
        refine ⟨fun _ => ?_, hK _ ?_⟩
        exact Calls.regrown_of (unhide CO _ (below_regrown _ _ _))
        clear hK K
        refine q_take (by kernel_rfl) (fun K hK => ?_)
        go_simp
        refine hK _ ?_
        clear hK K
        refine wq_nil ?_
        intro _ hw9
        obtain ⟨⟨dq, osq⟩, hw9'⟩ := hw9
        subst hw9'
        have hHeld := below_regrown wr dq osq
        generalize Go.Sort.grow (redrawn wr dq) osq = wq at *
        clear mixed CO
        go_upto_region 6 with fail
        have hdq : Below wq.heap.size wq wq.drew := Below.drew (Below.refl _ _)
        have hst3 := ((unhide hst).keep hHeld).keep hdq
        have hik3 := owns_in hst3.2.1 hst3.2.2.2.2.2.2.1
        have hia3 := owns_in hst3.2.1 (unhide HQA)
        simp only [tc] at hik3 hia3
        have cz3 := hst3.1.cell
        have hw3 := owns_wr hst3.2.1 (by omega : k < ts.length + 1)
        obtain ⟨hsw, hs4, hs5, hw4⟩ := hst3.swap (Nat.le_refl _) hak (by omega) (unhide HQA) hpl (unhide HO)
        simp only [tc] at hsw hs4 hs5 hw4
        have HSW := hide hsw
        clear hsw hst3 hdq hst
        refine wp_region_held_drew (S := fun w6 => w6.cell? ⟨bp, 0, none⟩ = some (.slice (some ⟨g, 0, none⟩) (ts.length + 1) cap)) (by kernel_rfl) cz3 (fun hHeld => ?_)
        generalize wq.drew = wz at *
        refine wpAnyH_take (i := 0) (oi := ?oo23) (v := ?vv23) ?hi23 (by kernel_rfl) (by kernel_rfl) (by kernel_rfl) ?hQ23 ?hy23 (by assumption) ?rest23
        case hi23 => (simp only [List.getElem?_toArray, List.getElem?_cons_zero]; rfl)
        case hQ23 => exact fun _ _ _ h => h
        case hy23 => exact Or.inl ⟨by rfl, by intro wS hSw; (try dsimp only at hSw); go_simp; try first | (with_reducible rfl) | (simp only [*]; done) | omega⟩
        try simp only [Act.put, List.setIfInBounds_toArray, List.set_cons_zero, List.set_cons_succ]
        refine wpAnyH_take (i := 1) (oi := ?oo24) (v := ?vv24) ?hi24 (by kernel_rfl) (by kernel_rfl) (by kernel_rfl) ?hQ24 ?hy24 (by assumption) ?rest24
        case hi24 => (simp only [List.getElem?_toArray, List.getElem?_cons_zero, List.getElem?_cons_succ]; rfl)
        case hQ24 => exact fun _ _ _ h => h
        case hy24 => exact Or.inl ⟨by rfl, by intro wS hSw; (try dsimp only at hSw); go_simp; try first | (with_reducible rfl) | (simp only [*]; done) | omega⟩
        try simp only [Act.put, List.setIfInBounds_toArray, List.set_cons_zero, List.set_cons_succ]
        refine wpAnyH_take (i := 2) (oi := ?oo25) (v := ?vv25) ?hi25 (by kernel_rfl) (by kernel_rfl) (by kernel_rfl) ?hQ25 ?hy25 (by assumption) ?rest25
        case hi25 => (simp only [List.getElem?_toArray, List.getElem?_cons_zero, List.getElem?_cons_succ]; rfl)
        case hQ25 => exact fun _ _ _ h => h
        case hy25 => exact Or.inl ⟨by rfl, by intro wS hSw; (try dsimp only at hSw); go_simp; try first | (with_reducible rfl) | (simp only [*]; done) | omega⟩
        try simp only [Act.put, List.setIfInBounds_toArray, List.set_cons_zero, List.set_cons_succ]
        refine wpAnyH_take (i := 3) (oi := ?oo26) (v := .slice (some ⟨g, 0, none⟩) (ts.length + 1) cap) ?hi26 (by kernel_rfl) (by kernel_rfl) (by kernel_rfl) ?hQ26 ?hy26 (by assumption) ?rest26
        case hi26 => (simp only [List.getElem?_toArray, List.getElem?_cons_zero, List.getElem?_cons_succ]; rfl)
        case hQ26 => exact fun _ _ _ h => h
        case hy26 => exact yld_cell (by rfl) 28 _ rfl bp 0 rfl (.slice (some ⟨g, 0, none⟩) (ts.length + 1) cap) (fun w' hS => hS) plainTrailsO
        try simp only [Act.put, List.setIfInBounds_toArray, List.set_cons_zero, List.set_cons_succ]
        refine wpAnyH_take (i := 4) (oi := ?oo27) (v := ?vv27) ?hi27 (by kernel_rfl) (by kernel_rfl) (by kernel_rfl) ?hQ27 ?hy27 (by assumption) ?rest27
        case hi27 => (simp only [List.getElem?_toArray, List.getElem?_cons_zero, List.getElem?_cons_succ]; rfl)
        case hQ27 => exact fun _ _ _ h => h
        case hy27 => exact Or.inl ⟨by rfl, by intro wS hSw; (try dsimp only at hSw); go_simp; try first | (with_reducible rfl) | (simp only [*]; done) | omega⟩
        try simp only [Act.put, List.setIfInBounds_toArray, List.set_cons_zero, List.set_cons_succ]
        refine wpAnyH_take (i := 5) (oi := ?oo28) (v := ?vv28) ?hi28 (by kernel_rfl) (by kernel_rfl) (by kernel_rfl) ?hQ28 ?hy28 (by assumption) ?rest28
        case hi28 => (simp only [List.getElem?_toArray, List.getElem?_cons_zero, List.getElem?_cons_succ]; rfl)
        case hQ28 => exact fun _ _ _ h => h
        case hy28 => exact Or.inl ⟨by rfl, by intro wS hSw; (try dsimp only at hSw); go_simp; try first | (with_reducible rfl) | (simp only [*]; done) | omega⟩
        try simp only [Act.put, List.setIfInBounds_toArray, List.set_cons_zero, List.set_cons_succ]
        refine wpAnyH_take (i := 6) (oi := ?oo29) (v := ?vv29) ?hi29 (by kernel_rfl) (by kernel_rfl) (by kernel_rfl) ?hQ29 ?hy29 (by assumption) ?rest29
        case hi29 => (simp only [List.getElem?_toArray, List.getElem?_cons_zero, List.getElem?_cons_succ]; rfl)
        case hQ29 => exact fun _ _ _ h => h
        case hy29 => exact Or.inl ⟨by rfl, by intro wS hSw; (try dsimp only at hSw); go_simp; try first | (with_reducible rfl) | (simp only [*]; done) | omega⟩
        try simp only [Act.put, List.setIfInBounds_toArray, List.set_cons_zero, List.set_cons_succ]
        refine wpAnyH_take (i := 7) (oi := ?oo30) (v := ?vv30) ?hi30 (by kernel_rfl) (by kernel_rfl) (by kernel_rfl) ?hQ30 ?hy30 (by assumption) ?rest30
        case hi30 => (simp only [List.getElem?_toArray, List.getElem?_cons_zero, List.getElem?_cons_succ]; rfl)
        case hQ30 => exact fun _ _ _ h => h
        case hy30 => exact Or.inl ⟨by rfl, by intro wS hSw; (try dsimp only at hSw); go_simp; try first | (with_reducible rfl) | (simp only [*]; done) | omega⟩
        try simp only [Act.put, List.setIfInBounds_toArray, List.set_cons_zero, List.set_cons_succ]
        refine wpAnyH_take (i := 8) (oi := ?oo31) (v := .slice (some ⟨g, 0, none⟩) (ts.length + 1) cap) ?hi31 (by kernel_rfl) (by kernel_rfl) (by kernel_rfl) ?hQ31 ?hy31 (by assumption) ?rest31
        case hi31 => (simp only [List.getElem?_toArray, List.getElem?_cons_zero, List.getElem?_cons_succ]; rfl)
        case hQ31 => exact fun _ _ _ h => h
        case hy31 => exact yld_cell (by rfl) 28 _ rfl bp 0 rfl (.slice (some ⟨g, 0, none⟩) (ts.length + 1) cap) (fun w' hS => hS) plainTrailsO
        try simp only [Act.put, List.setIfInBounds_toArray, List.set_cons_zero, List.set_cons_succ]
        refine wpAnyH_take (i := 9) (oi := ?oo32) (v := ?vv32) ?hi32 (by kernel_rfl) (by kernel_rfl) (by kernel_rfl) ?hQ32 ?hy32 (by assumption) ?rest32
        case hi32 => (simp only [List.getElem?_toArray, List.getElem?_cons_zero, List.getElem?_cons_succ]; rfl)
        case hQ32 => exact fun _ _ _ h => h
        case hy32 => exact Or.inl ⟨by rfl, by intro wS hSw; (try dsimp only at hSw); go_simp; try first | (with_reducible rfl) | (simp only [*]; done) | omega⟩
        try simp only [Act.put, List.setIfInBounds_toArray, List.set_cons_zero, List.set_cons_succ]
        refine wpAnyH_take (i := 10) (oi := ?oo33) (v := ?vv33) ?hi33 (by kernel_rfl) (by kernel_rfl) (by kernel_rfl) ?hQ33 ?hy33 (by assumption) ?rest33
        case hi33 => (simp only [List.getElem?_toArray, List.getElem?_cons_zero, List.getElem?_cons_succ]; rfl)
        case hQ33 => exact fun _ _ _ h => h
        case hy33 => exact Or.inl ⟨by rfl, by intro wS hSw; (try dsimp only at hSw); go_simp; try first | (with_reducible rfl) | (simp only [*]; done) | omega⟩
        try simp only [Act.put, List.setIfInBounds_toArray, List.set_cons_zero, List.set_cons_succ]
        refine wpAnyH_take (i := 11) (oi := ?oo34) (v := ?vv34) ?hi34 (by kernel_rfl) (by kernel_rfl) (by kernel_rfl) ?hQ34 ?hy34 (by assumption) ?rest34
        case hi34 => (simp only [List.getElem?_toArray, List.getElem?_cons_zero, List.getElem?_cons_succ]; rfl)
        case hQ34 => exact fun _ _ _ h => h
        case hy34 => exact Or.inl ⟨by rfl, by intro wS hSw; (try dsimp only at hSw); go_simp; try first | (with_reducible rfl) | (simp only [*]; done) | omega⟩
        try simp only [Act.put, List.setIfInBounds_toArray, List.set_cons_zero, List.set_cons_succ]
        refine wpAnyH_take (i := 12) (oi := ?oo35) (v := ?vv35) ?hi35 (by kernel_rfl) (by kernel_rfl) (by kernel_rfl) ?hQ35 ?hy35 (by assumption) ?rest35
        case hi35 => (simp only [List.getElem?_toArray, List.getElem?_cons_zero, List.getElem?_cons_succ]; rfl)
        case hQ35 => exact fun _ _ _ h => h
        case hy35 => exact Or.inl ⟨by rfl, by intro wS hSw; (try dsimp only at hSw); go_simp; try first | (with_reducible rfl) | (simp only [*]; done) | omega⟩
        try simp only [Act.put, List.setIfInBounds_toArray, List.set_cons_zero, List.set_cons_succ]
        refine wpAnyH_take (i := 13) (oi := ?oo36) (v := .slice (some ⟨g, 0, none⟩) (ts.length + 1) cap) ?hi36 (by kernel_rfl) (by kernel_rfl) (by kernel_rfl) ?hQ36 ?hy36 (by assumption) ?rest36
        case hi36 => (simp only [List.getElem?_toArray, List.getElem?_cons_zero, List.getElem?_cons_succ]; rfl)
        case hQ36 => exact fun _ _ _ h => h
        case hy36 => exact yld_cell (by rfl) 28 _ rfl bp 0 rfl (.slice (some ⟨g, 0, none⟩) (ts.length + 1) cap) (fun w' hS => hS) plainTrailsO
        try simp only [Act.put, List.setIfInBounds_toArray, List.set_cons_zero, List.set_cons_succ]
        refine wpAnyH_take (i := 14) (oi := ?oo37) (v := ?vv37) ?hi37 (by kernel_rfl) (by kernel_rfl) (by kernel_rfl) ?hQ37 ?hy37 (by assumption) ?rest37
        case hi37 => (simp only [List.getElem?_toArray, List.getElem?_cons_zero, List.getElem?_cons_succ]; rfl)
        case hQ37 => exact fun _ _ _ h => h
        case hy37 => exact Or.inl ⟨by rfl, by intro wS hSw; (try dsimp only at hSw); go_simp; try first | (with_reducible rfl) | (simp only [*]; done) | omega⟩
        try simp only [Act.put, List.setIfInBounds_toArray, List.set_cons_zero, List.set_cons_succ]
        refine wpAnyH_take (i := 15) (oi := ?oo38) (v := ?vv38) ?hi38 (by kernel_rfl) (by kernel_rfl) (by kernel_rfl) ?hQ38 ?hy38 (by assumption) ?rest38
        case hi38 => (simp only [List.getElem?_toArray, List.getElem?_cons_zero, List.getElem?_cons_succ]; rfl)
        case hQ38 => exact fun _ _ _ h => h
        case hy38 => exact Or.inl ⟨by rfl, by intro wS hSw; (try dsimp only at hSw); go_simp; try first | (with_reducible rfl) | (simp only [*]; done) | omega⟩
        try simp only [Act.put, List.setIfInBounds_toArray, List.set_cons_zero, List.set_cons_succ]
        refine wpAnyH_take (i := 17) (oi := ?oo39) (v := ?vv39) ?hi39 (by kernel_rfl) (by kernel_rfl) (by kernel_rfl) ?hQ39 ?hy39 (by assumption) ?rest39
        case hi39 => (simp only [List.getElem?_toArray, List.getElem?_cons_zero, List.getElem?_cons_succ]; rfl)
        case hQ39 => exact fun _ _ _ h => h
        case hy39 => exact Or.inl ⟨by rfl, by intro wS hSw; (try dsimp only at hSw); go_simp; try first | (with_reducible rfl) | (simp only [*]; done) | omega⟩
        try simp only [Act.put, List.setIfInBounds_toArray, List.set_cons_zero, List.set_cons_succ]
        refine wpAnyH_take (i := 18) (oi := ?oo40) (v := ?vv40) ?hi40 (by kernel_rfl) (by kernel_rfl) (by kernel_rfl) ?hQ40 ?hy40 (by assumption) ?rest40
        case hi40 => (simp only [List.getElem?_toArray, List.getElem?_cons_zero, List.getElem?_cons_succ]; rfl)
        case hQ40 => exact fun _ _ _ h => h
        case hy40 => exact Or.inl ⟨by rfl, by intro wS hSw; (try dsimp only at hSw); go_simp; try first | (with_reducible rfl) | (simp only [*]; done) | omega⟩
        try simp only [Act.put, List.setIfInBounds_toArray, List.set_cons_zero, List.set_cons_succ]
        refine wpAnyH_take (i := 19) (oi := ?oo41) (v := ?vv41) ?hi41 (by kernel_rfl) (by kernel_rfl) (by kernel_rfl) ?hQ41 ?hy41 (by assumption) ?rest41
        case hi41 => (simp only [List.getElem?_toArray, List.getElem?_cons_zero, List.getElem?_cons_succ]; rfl)
        case hQ41 => exact fun _ _ _ h => h
        case hy41 => exact Or.inl ⟨by rfl, by intro wS hSw; (try dsimp only at hSw); go_simp; try first | (with_reducible rfl) | (simp only [*]; done) | omega⟩
        try simp only [Act.put, List.setIfInBounds_toArray, List.set_cons_zero, List.set_cons_succ]
        refine wpAnyH_take (i := 20) (oi := ?oo42) (v := .slice (some ⟨g, 0, none⟩) (ts.length + 1) cap) ?hi42 (by kernel_rfl) (by kernel_rfl) (by kernel_rfl) ?hQ42 ?hy42 (by assumption) ?rest42
        case hi42 => (simp only [List.getElem?_toArray, List.getElem?_cons_zero, List.getElem?_cons_succ]; rfl)
        case hQ42 => exact fun _ _ _ h => h
        case hy42 => exact yld_cell (by rfl) 28 _ rfl bp 0 rfl (.slice (some ⟨g, 0, none⟩) (ts.length + 1) cap) (fun w' hS => hS) plainTrailsO
        try simp only [Act.put, List.setIfInBounds_toArray, List.set_cons_zero, List.set_cons_succ]
        refine wpAnyH_take (i := 21) (oi := ?oo43) (v := ?vv43) ?hi43 (by kernel_rfl) (by kernel_rfl) (by kernel_rfl) ?hQ43 ?hy43 (by assumption) ?rest43
        case hi43 => (simp only [List.getElem?_toArray, List.getElem?_cons_zero, List.getElem?_cons_succ]; rfl)
        case hQ43 => exact fun _ _ _ h => h
        case hy43 => exact Or.inl ⟨by rfl, by intro wS hSw; (try dsimp only at hSw); go_simp; try first | (with_reducible rfl) | (simp only [*]; done) | omega⟩
        try simp only [Act.put, List.setIfInBounds_toArray, List.set_cons_zero, List.set_cons_succ]
        refine wpAnyH_take (i := 22) (oi := ?oo44) (v := ?vv44) ?hi44 (by kernel_rfl) (by kernel_rfl) (by kernel_rfl) ?hQ44 ?hy44 (by assumption) ?rest44
        case hi44 => (simp only [List.getElem?_toArray, List.getElem?_cons_zero, List.getElem?_cons_succ]; rfl)
        case hQ44 => exact fun _ _ _ h => h
        case hy44 => exact Or.inl ⟨by rfl, by intro wS hSw; (try dsimp only at hSw); go_simp; try first | (with_reducible rfl) | (simp only [*]; done) | omega⟩
        try simp only [Act.put, List.setIfInBounds_toArray, List.set_cons_zero, List.set_cons_succ]
        refine wpAnyH_ready (rs := [16, 23]) (by kernel_rfl) (by simp) ?_
        refine (AllReadyH.cons (o := ?bo45n16) ?bh45n16 (fun K hK => ?br45n16) (AllReadyH.cons (o := ?bo45n23) ?bh45n23 (fun K hK => ?br45n23) AllReadyH.nil))
        case bh45n16 => (simp only [List.getElem?_toArray, List.getElem?_cons_zero, List.getElem?_cons_succ]; rfl)
        case bh45n23 => (simp only [List.getElem?_toArray, List.getElem?_cons_zero, List.getElem?_cons_succ]; rfl)
        case br45n16 =>
          rw [if_pos (by rfl)]
          refine wpo_loadO 44 _ rfl g (a * 4) rfl [.int .i64 x.id, .int .i64 x.stamp, .int .i64 x.first, .slice ax x.spans.length kx] ?_ rowITrail ?_
          · exact hia3
          refine hK.out _ _ (hHeld) (fun hHeld => ?_)
          clear hK
          refine wpAnyH_ready (rs := [23]) (by kernel_rfl) (by simp) ?_
          refine (AllReadyH.cons (o := ?bo46n23) ?bh46n23 (fun K hK => ?br46n23) AllReadyH.nil)
          case bh46n23 => (simp only [List.getElem?_toArray, List.getElem?_cons_zero, List.getElem?_cons_succ]; rfl)
          case br46n23 =>
            rw [if_pos (by rfl)]
            refine wpo_loadO 44 _ rfl g (k * 4) rfl [.int .i64 t.id, .int .i64 t.stamp, .int .i64 t.first, .slice sa t.spans.length sk] ?_ rowITrail ?_
            · exact hik3
            refine hK.out _ _ (hHeld) (fun hHeld => ?_)
            clear hK
            refine wpAnyH_take (i := 24) (oi := ?oo47) (v := ?vv47) ?hi47 (by kernel_rfl) (by kernel_rfl) (by kernel_rfl) ?hQ47 ?hy47 (by assumption) ?rest47
            case hi47 => (simp only [List.getElem?_toArray, List.getElem?_cons_zero, List.getElem?_cons_succ]; rfl)
            case hQ47 => exact fun _ _ _ h => h
            case hy47 => exact Or.inl ⟨by rfl, by intro wS hSw; (try dsimp only at hSw); go_simp; try first | (with_reducible rfl) | (simp only [*]; done) | omega⟩
            try simp only [Act.put, List.setIfInBounds_toArray, List.set_cons_zero, List.set_cons_succ]
            refine wpAnyH_ready (rs := [25]) (by kernel_rfl) (by simp) ?_
            refine (AllReadyH.cons (o := ?bo48n25) ?bh48n25 (fun K hK => ?br48n25) AllReadyH.nil)
            case bh48n25 => (simp only [List.getElem?_toArray, List.getElem?_cons_zero, List.getElem?_cons_succ]; rfl)
            case br48n25 =>
              rw [if_pos (by rfl)]
              refine wpo_storeO 44 _ _ rfl g (k * 4) [.int .i64 x.id, .int .i64 x.stamp, .int .i64 x.first, .slice ax x.spans.length kx] rfl rfl ?_ honea rowITrail ?_
              · exact hw3
              dsimp only [Act.put]
              refine hK.out _ _ (hs4) (fun hHeld => ?_)
              clear hK
              refine wpAnyH_take (i := 26) (oi := ?oo49) (v := ?vv49) ?hi49 (by kernel_rfl) (by kernel_rfl) (by kernel_rfl) ?hQ49 ?hy49 (by assumption) ?rest49
              case hi49 => (simp only [List.getElem?_toArray, List.getElem?_cons_zero, List.getElem?_cons_succ]; rfl)
              case hQ49 => exact fun _ _ _ h => h
              case hy49 => exact Or.inl ⟨by rfl, by intro wS hSw; (try dsimp only at hSw); go_simp; try first | (with_reducible rfl) | (simp only [*]; done) | omega⟩
              try simp only [Act.put, List.setIfInBounds_toArray, List.set_cons_zero, List.set_cons_succ]
              refine wpAnyH_ready (rs := [27]) (by kernel_rfl) (by simp) ?_
              refine (AllReadyH.cons (o := ?bo50n27) ?bh50n27 (fun K hK => ?br50n27) AllReadyH.nil)
              case bh50n27 => (simp only [List.getElem?_toArray, List.getElem?_cons_zero, List.getElem?_cons_succ]; rfl)
              case br50n27 =>
                rw [if_pos (by rfl)]
                refine wpo_storeO 44 _ _ rfl g (a * 4) [.int .i64 t.id, .int .i64 t.stamp, .int .i64 t.first, .slice sa t.spans.length sk] rfl rfl ?_ hone rowITrail ?_
                · exact hw4
                dsimp only [Act.put]
                refine hK.out _ _ (hs5) (fun hHeld => ?_)
                clear hK
                refine wpAnyH_done (by kernel_rfl) ?_ _
                clear hik3 hia3 hw3 hs4 hs5 hw4 cz3
                go_wp2
                go_roundw
                case rel => exact ⟨a, _, rfl, by omega, HSW⟩
                case measure => simp [intOf]; omega
        case br45n23 =>
          rw [if_pos (by rfl)]
          refine wpo_loadO 44 _ rfl g (k * 4) rfl [.int .i64 t.id, .int .i64 t.stamp, .int .i64 t.first, .slice sa t.spans.length sk] ?_ rowITrail ?_
          · exact hik3
          refine hK.out _ _ (hHeld) (fun hHeld => ?_)
          clear hK
          refine wpAnyH_ready (rs := [16]) (by kernel_rfl) (by simp) ?_
          refine (AllReadyH.cons (o := ?bo51n16) ?bh51n16 (fun K hK => ?br51n16) AllReadyH.nil)
          case bh51n16 => (simp only [List.getElem?_toArray, List.getElem?_cons_zero, List.getElem?_cons_succ]; rfl)
          case br51n16 =>
            rw [if_pos (by rfl)]
            refine wpo_loadO 44 _ rfl g (a * 4) rfl [.int .i64 x.id, .int .i64 x.stamp, .int .i64 x.first, .slice ax x.spans.length kx] ?_ rowITrail ?_
            · exact hia3
            refine hK.out _ _ (hHeld) (fun hHeld => ?_)
            clear hK
            refine wpAnyH_take (i := 24) (oi := ?oo52) (v := ?vv52) ?hi52 (by kernel_rfl) (by kernel_rfl) (by kernel_rfl) ?hQ52 ?hy52 (by assumption) ?rest52
            case hi52 => (simp only [List.getElem?_toArray, List.getElem?_cons_zero, List.getElem?_cons_succ]; rfl)
            case hQ52 => exact fun _ _ _ h => h
            case hy52 => exact Or.inl ⟨by rfl, by intro wS hSw; (try dsimp only at hSw); go_simp; try first | (with_reducible rfl) | (simp only [*]; done) | omega⟩
            try simp only [Act.put, List.setIfInBounds_toArray, List.set_cons_zero, List.set_cons_succ]
            refine wpAnyH_ready (rs := [25]) (by kernel_rfl) (by simp) ?_
            refine (AllReadyH.cons (o := ?bo53n25) ?bh53n25 (fun K hK => ?br53n25) AllReadyH.nil)
            case bh53n25 => (simp only [List.getElem?_toArray, List.getElem?_cons_zero, List.getElem?_cons_succ]; rfl)
            case br53n25 =>
              rw [if_pos (by rfl)]
              refine wpo_storeO 44 _ _ rfl g (k * 4) [.int .i64 x.id, .int .i64 x.stamp, .int .i64 x.first, .slice ax x.spans.length kx] rfl rfl ?_ honea rowITrail ?_
              · exact hw3
              dsimp only [Act.put]
              refine hK.out _ _ (hs4) (fun hHeld => ?_)
              clear hK
              refine wpAnyH_take (i := 26) (oi := ?oo54) (v := ?vv54) ?hi54 (by kernel_rfl) (by kernel_rfl) (by kernel_rfl) ?hQ54 ?hy54 (by assumption) ?rest54
              case hi54 => (simp only [List.getElem?_toArray, List.getElem?_cons_zero, List.getElem?_cons_succ]; rfl)
              case hQ54 => exact fun _ _ _ h => h
              case hy54 => exact Or.inl ⟨by rfl, by intro wS hSw; (try dsimp only at hSw); go_simp; try first | (with_reducible rfl) | (simp only [*]; done) | omega⟩
              try simp only [Act.put, List.setIfInBounds_toArray, List.set_cons_zero, List.set_cons_succ]
              refine wpAnyH_ready (rs := [27]) (by kernel_rfl) (by simp) ?_
              refine (AllReadyH.cons (o := ?bo55n27) ?bh55n27 (fun K hK => ?br55n27) AllReadyH.nil)
              case bh55n27 => (simp only [List.getElem?_toArray, List.getElem?_cons_zero, List.getElem?_cons_succ]; rfl)
              case br55n27 =>
                rw [if_pos (by rfl)]
                refine wpo_storeO 44 _ _ rfl g (a * 4) [.int .i64 t.id, .int .i64 t.stamp, .int .i64 t.first, .slice sa t.spans.length sk] rfl rfl ?_ hone rowITrail ?_
                · exact hw4
                dsimp only [Act.put]
                refine hK.out _ _ (hs5) (fun hHeld => ?_)
                clear hK
                refine wpAnyH_done (by kernel_rfl) ?_ _
                clear hik3 hia3 hw3 hs4 hs5 hw4 cz3
                go_wp2
                go_roundw
                case rel => exact ⟨a, _, rfl, by omega, HSW⟩
                case measure => simp [intOf]; omega
end Go.Proofs.Ytjhlammjnggghaa
namespace Go.Proofs.Ytjhlammjnggghaa
open Go.ChangeShapes Go.WideShapes Go.ChangeAt Go.RowKit
set_option linter.unusedVariables false
set_option maxRecDepth 100000

theorem flat_snoc {α β σ : Type} {f : α → List β} {g : σ → β → σ} {s : σ} {l : List α} {k : Nat} (h : k < l.length) : ((l.take (k + 1)).flatMap f).foldl g s = (f l[k]).foldl g (((l.take k).flatMap f).foldl g s) := by
  rw [List.take_succ_eq_append_getElem h, List.flatMap_append, List.foldl_append]
  simp
theorem fold_snoc {β σ : Type} {g : σ → β → σ} {s : σ} {l : List β} {k : Nat} (h : k < l.length) : (l.take (k + 1)).foldl g s = g ((l.take k).foldl g s) l[k] := by
  rw [List.take_succ_eq_append_getElem h, List.foldl_append]
  simp
def addB (s : Int) (t : TrailD) : Int := IntKind.i64.wrap (s + totS t.spans)
def heldSum (l : List StripeD) : Int := (l.flatMap StripeD.l).foldl addB 0
def AtCell (bp lo : Nat) (w : World) (s : Int) : Prop := lo ≤ bp ∧ bp < w.heap.size ∧ w.cell? ⟨bp, 0, none⟩ = some (.int .i64 s) ∧ w.frozen? ⟨bp, 0, none⟩ = false
theorem AtCell.keep {bp lo : Nat} {w w' : World} {s : Int} (h : AtCell bp lo w s) (hb : Below w.heap.size w w') : AtCell bp lo w' s :=
  ⟨h.1, Nat.lt_of_lt_of_le h.2.1 hb.size, by rw [hb.cell h.2.1]; exact h.2.2.1, by rw [hb.frozen h.2.1]; exact h.2.2.2⟩
theorem AtCell.set {bp lo : Nat} {w : World} {s : Int} (h : AtCell bp lo w s) (t : Int) : AtCell bp lo (w.setCell ⟨bp, 0, none⟩ (.int .i64 t)) t :=
  ⟨h.1, by simpa using h.2.1, World.cell?_setCell_same' _ _ _ (by rw [h.2.2.1]; rfl), by simpa using h.2.2.2⟩
end Go.Proofs.Ytjhlammjnggghaa
namespace Go.Proofs.Ytjhlammjnggghaa
open Go.ChangeShapes Go.WideShapes Go.ChangeAt Go.RowKit
set_option linter.unusedVariables false
set_option maxRecDepth 100000

theorem sizeAttr2 : (Try.prog.info? 180).map (·.size) = some 4 := by kernel_rfl
set_option maxHeartbeats 2000000 in
theorem implLaidAttr (l : List AttrD) (S : Nat → Prop) (v : Value) (b0 : Nat) (w : World) (h0 : LAt 4 attrR w S v l) (hc : w.cell? ⟨b0, 0, none⟩ = some v) (hb0 : b0 < w.heap.size) (hlen : l.length ≤ 1048576) :
    Calls Try.prog 198 #[.slice (some ⟨b0, 0, none⟩) 1 1] w fun e w' => ∃ v', e = .returned v' ∧ LOw 4 attrO w' (Within w.heap.size w'.heap.size) v' l ∧ Below w.heap.size w w' := by
  have HQ := hide (attrs_ok h0)
  obtain ⟨a, cap, rfl⟩ := h0.form
  have hsr := attrs_src h0
  obtain ⟨w0, hmk, hrow, hbm⟩ := mMakeAttr l.length hlen w
  have hc0 : w0.cell? ⟨b0, 0, none⟩ = some (.slice a l.length cap) := by rw [hbm.cell (p := ⟨b0, 0, none⟩) hb0]; exact hc
  have hmid : ∃ w4 : World, (Builtin.copy_ #[31, 31] 3 #[.slice (some ⟨w.heap.size, 0, none⟩) l.length l.length, .slice a l.length cap]).run Try.prog w0 = .ok (.int .i64 l.length) w4 ∧ LOw 4 attrO w4 (Within w.heap.size w4.heap.size) (.slice (some ⟨w.heap.size, 0, none⟩) l.length l.length) l ∧ Below w.heap.size w w4 := by
    rcases hsr with rfl | ⟨b, o, rfl, hbk, hsrc⟩
    · exact ⟨w0, run_copy0 w0 _ _ _ 180 4 _ _ _ _ _ Try.underlying31 sizeAttr2, LOw.nil _ _ _ _ _ _, hbm⟩
    · have hsrc' : ∀ j u, (l.flatMap attrC)[j]? = some u → w0.cell? ((⟨b, o, none⟩ : Addr).add j) = some u := fun j u hu => by
        have e : (⟨b, o, none⟩ : Addr).add j = ⟨b, o + j, none⟩ := by unfold Addr.add; split <;> simp_all
        have := hsrc j u hu
        rw [e] at this ⊢
        rw [hbm.cell (p := ⟨b, o + j, none⟩) hbk]; exact this
      have hfl := flatMap_len l attrC attrC_len
      have hmin : Nat.min l.length l.length = l.length := Nat.min_self _
      have hr := run_copyN (P := Try.prog) w0 31 31 3 180 4 w.heap.size 0 l.length l.length ⟨b, o, none⟩ l.length cap (l.flatMap attrC) Try.underlying31 sizeAttr2 (by rw [hfl, hmin]) hsrc' (by rw [hfl]; exact hrow) (attrs_one l)
      rw [hmin] at hr
      refine ⟨_, hr, ?_, hbm.trans ((putL_turn _ _ _ _ _).belowFrom hbm.size (fun k hk => by omega))⟩
      have hin := putL_at (b := w.heap.size) (o := 0) (l.flatMap attrC) 0 hrow (by omega) (by rw [hfl]; omega)
      have hwr := putL_wr (b := w.heap.size) (o := 0) (l.flatMap attrC) 0 hrow
      refine ⟨_, _, rfl, by omega, .inr ⟨w.heap.size, 0, fun _ _ => False, rfl, ⟨Nat.le_refl _, hwr.1⟩, hwr, fun _ _ e => e.elim, fun _ _ _ e => e.elim, fun i x hx => ⟨attrC x, ⟨rfl, unhide HQ x (List.mem_of_getElem? hx)⟩, fun j u hu => ?_⟩⟩⟩
      have hj : j < 4 := by rw [← attrC_len x]; exact (List.getElem?_eq_some_iff.1 hu).1
      have := hin (i * 4 + j) u (by rw [List.flatMap_def, flat_at (N := 4) _ i j (fun cs hcs => by obtain ⟨y, _, rfl⟩ := List.mem_map.1 hcs; rfl) hj, List.getElem?_map, hx]; exact hu)
      rw [show 0 + i * 4 + j = 0 + 0 + (i * 4 + j) by omega]
      exact this
  obtain ⟨w4, hrun, y, hb4⟩ := hmid
  have HY0 := hide (And.intro y hb4)
  have hl4 : w4.heap.size = w4.heap.size := rfl
  have hc4 : w4.cell? ⟨b0, 0, none⟩ = some (.slice a l.length cap) := by rw [hb4.cell (p := ⟨b0, 0, none⟩) hb0]; exact hc
  clear y hb4 hrow hsr h0 hl4
  go_enter Try.func198, Try.ntmps198
  go_wp2
  go_loopw [3, 12] (fun s i wk => ∃ k : Nat, k ≤ 1 ∧ i = .int .i64 k ∧ s = .int .i64 (k * l.length : Nat) ∧ wk = w) (fun _ i _ => 1 - (intOf i).toNat)
  case atStart => exact ⟨0, by omega, rfl, by simp, rfl⟩
  case round =>
    obtain ⟨k, hk, rfl, rfl, rfl⟩ := hrel
    by_cases hlt : k = 0
    · subst hlt
      go_wp2
      go_roundw
      case rel => exact ⟨1, by omega, by go_num, by go_num, trivial⟩
      case measure => simp [intOf]
    · obtain rfl : k = 1 := by omega
      simp only [Nat.one_mul]
      go_wp2
      go_loopw [7, 25] (fun s i wk => (s = .int .i64 0 ∧ i = .int .i64 0 ∧ wk = w0) ∨ (s = .int .i64 l.length ∧ i = .int .i64 1 ∧ wk = w4)) (fun _ i _ => 1 - (intOf i).toNat)
      case atStart => exact .inl ⟨rfl, rfl, rfl⟩
      case round =>
        rcases hrel with ⟨rfl, rfl, rfl⟩ | ⟨rfl, rfl, rfl⟩
        · go_wp2_with (first | (at_builtin; refine wpl_copy _ rfl (.tmp 32) (.tmp 33) 31 31 rfl _ _ rfl rfl hrun ?_))
          go_roundw
          case rel => exact .inr ⟨by go_num, by go_num, trivial⟩
          case measure => simp [intOf]
        · go_wp2
          go_ret
          obtain ⟨y, hb4⟩ := unhide HY0
          exact ⟨_, rfl, y, hb4⟩
end Go.Proofs.Ytjhlammjnggghaa
namespace Go.Proofs.Ytjhlammjnggghaa
open Go.ChangeShapes Go.WideShapes Go.ChangeAt Go.RowKit
set_option linter.unusedVariables false
set_option maxRecDepth 100000

set_option maxHeartbeats 2000000 in
theorem implCopySpan (x : SpanD) (S : Nat → Prop) (c0 : List Value) (w : World) (h0 : spanR w S c0 x) (b0 : spanBulk x ≤ 1048576) :
    Calls Try.prog 137 #[.agg c0.toArray] w fun e w' => ∃ cs', e = .returned (.agg cs'.toArray) ∧ spanO w' (Within w.heap.size w'.heap.size) cs' x ∧ Below w.heap.size w w' := by
  obtain ⟨s0, rfl, g0⟩ := h0
  obtain ⟨a0, k0, rfl⟩ := g0.form
  unfold spanBulk at b0
  have hlen : x.2.2.2.2.2.length ≤ 1048576 := by have := bulkL_len attrBulk x.2.2.2.2.2; omega
  go_enter Try.func137, Try.ntmps137
  go_upto_region 1 with fail
  generalize hW : World.alloc (World.alloc w _) _ = w1
  have B1 : Below w.heap.size w w1 := by rw [← hW]; exact bthen (bnew _ _) (bnew _ _)
  have P1 : Held w1 w.heap.size [.int .i64 x.1, .int .i64 x.2.1, .int .i64 x.2.2.1, .int .i64 x.2.2.2.1, .bool x.2.2.2.2.1, .slice a0 x.2.2.2.2.2.length k0] := by rw [← hW]; exact (Held.new w [.int .i64 x.1, .int .i64 x.2.1, .int .i64 x.2.2.1, .int .i64 x.2.2.2.1, .bool x.2.2.2.2.1, .slice a0 x.2.2.2.2.2.length k0] 33).keep (bnew _ _)
  have V1 : WrAt w1 w.heap.size 0 6 := by rw [← hW]; exact (WrAt.new w #[.int .i64 x.1, .int .i64 x.2.1, .int .i64 x.2.2.1, .int .i64 x.2.2.2.1, .bool x.2.2.2.2.1, .slice a0 x.2.2.2.2.2.length k0] 33 6 rfl).keep (bnew _ _)
  have R1 : WrAt w1 (w.heap.size + 1) 0 6 := by rw [← hW]; have := WrAt.new (w.alloc (.cells #[.int .i64 x.1, .int .i64 x.2.1, .int .i64 x.2.2.1, .int .i64 x.2.2.2.1, .bool x.2.2.2.2.1, .slice a0 x.2.2.2.2.2.length k0] 33)) #[.int .i64 0, .int .i64 0, .int .i64 0, .int .i64 0, .bool false, .slice none 0 0] 33 6 rfl; simpa using this
  have hs1 : w1.heap.size = w.heap.size + 2 := by rw [← hW]; simp
  clear hW
  have p5 := P1.2 5 _ rfl
  have g1 := g0.keep attrR_keeps B1
  clear g0
  have HP := hide (And.intro hs1 (And.intro B1 (And.intro P1 (And.intro V1 R1))))
  clear P1 V1 R1 hs1
  have hb0 := bnew w1 (.cells #[.slice a0 x.2.2.2.2.2.length k0] 31)
  have h0c := hide ((Held.new w1 [.slice a0 x.2.2.2.2.2.length k0] 31).2 0 _ rfl)
  go_wp2_with fail
  refine (implLaidAttr x.2.2.2.2.2 S _ w1.heap.size _ (g1.keep attrR_keeps hb0) (unhide h0c) (by simp) hlen).mono ?_
  rintro e w4 ⟨v4, rfl, y, hb4⟩
  have y := y.widens (T := Within w1.heap.size w4.heap.size) (fun k hk => ⟨by have := hk.1; simp at this; omega, hk.2⟩)
  have hb4 := bthen hb0 hb4
  clear hb0 h0c g1 p5
  obtain ⟨hs1, B1, P1, V1, R1⟩ := unhide HP
  obtain ⟨a4, k4, rfl⟩ := y.form
  have P4 := P1.keep hb4
  have V4 := V1.keep hb4
  have R4 := R1.keep hb4
  have q5 := P4.2 5 _ rfl
  have f5 := V4.free 5 (by omega)
  rw [Nat.zero_add] at f5
  have B4 := bthen B1 hb4
  have HY := hide (And.intro y (And.intro P4 (And.intro R4 B4)))
  have hlt : w.heap.size < w4.heap.size := by have := hb4.size; omega
  have HS1 := hide hs1
  clear hs1 y hb4 P1 V1 R1 P4 V4 R4 B4 B1 HP
  go_upto_region 2 with fail
  obtain ⟨y, P4, R4, B4⟩ := unhide HY
  have hs1 := unhide HS1
  generalize hW : World.setCell w4 _ _ = w5
  have P5 : Held w5 w.heap.size [.int .i64 x.1, .int .i64 x.2.1, .int .i64 x.2.2.1, .int .i64 x.2.2.2.1, .bool x.2.2.2.2.1, .slice a4 x.2.2.2.2.2.length k4] := by rw [← hW]; exact P4.set 5 (.slice a4 x.2.2.2.2.2.length k4) (by simp)
  have R5 : WrAt w5 (w.heap.size + 1) 0 6 := by rw [← hW]; exact R4.set _ _
  have t5 : Turn (fun k => k = w.heap.size) w4 w5 := by rw [← hW]; exact Turn.set w4 ⟨w.heap.size, 5, none⟩ _
  clear hW q5 f5 HY
  have t6 := putL_turn (w.heap.size + 1) 0 [.int .i64 x.1, .int .i64 x.2.1, .int .i64 x.2.2.1, .int .i64 x.2.2.2.1, .bool x.2.2.2.2.1, .slice a4 x.2.2.2.2.2.length k4] 0 w5
  have i6 := putL_at (b := w.heap.size + 1) (o := 0) [.int .i64 x.1, .int .i64 x.2.1, .int .i64 x.2.2.1, .int .i64 x.2.2.2.1, .bool x.2.2.2.2.1, .slice a4 x.2.2.2.2.2.length k4] 0 R5 (by omega) (by simp)
  have tt : Turn (fun k => k = w.heap.size ∨ k = w.heap.size + 1) w4 (putL (w.heap.size + 1) 0 [.int .i64 x.1, .int .i64 x.2.1, .int .i64 x.2.2.1, .int .i64 x.2.2.2.1, .bool x.2.2.2.2.1, .slice a4 x.2.2.2.2.2.length k4] 0 w5) := (t5.mono (fun k h => .inl h)).trans (t6.mono (fun k h => .inr h))
  have y6 := y.turn attrO_keeps tt (fun k hk e => by have := hk.1; omega)
  have B6 := B4.trans (tt.belowFrom B4.size (fun k hk => by omega))
  have hz := tt.size
  have HF := hide (And.intro i6 (And.intro y6 B6))
  have c1 := P5.inB
  clear t5 t6 i6 tt y y6 B6 P4 R4 P5 hs1
  go_wp2_with (first | (refine wpl_load rfl 33 _ rfl _ 0 rfl [.int .i64 x.1, .int .i64 x.2.1, .int .i64 x.2.2.1, .int .i64 x.2.2.2.1, .bool x.2.2.2.2.1, .slice a4 x.2.2.2.2.2.length k4] c1 rowISpan ?_) | (refine wpl_store_at rfl 33 _ _ rfl _ 0 [.int .i64 x.1, .int .i64 x.2.1, .int .i64 x.2.2.1, .int .i64 x.2.2.2.1, .bool x.2.2.2.2.1, .slice a4 x.2.2.2.2.2.length k4] rfl rfl R5 (by intro v hv; simp only [List.mem_cons, List.not_mem_nil, or_false] at hv; rcases hv with rfl | rfl | rfl | rfl | rfl | rfl <;> rfl) rowISpan ?_))
  obtain ⟨i6, y6, B6⟩ := unhide HF
  have hs1 := unhide HS1
  refine bodyPost_ret (v := .agg #[.int .i64 x.1, .int .i64 x.2.1, .int .i64 x.2.2.1, .int .i64 x.2.2.2.1, .bool x.2.2.2.2.1, .slice a4 x.2.2.2.2.2.length k4]) (res_row (t := 2) (cs := [.int .i64 x.1, .int .i64 x.2.1, .int .i64 x.2.2.1, .int .i64 x.2.2.2.1, .bool x.2.2.2.2.1, .slice a4 x.2.2.2.2.2.length k4]) rfl rfl i6 rowISpan) rfl ⟨[.int .i64 x.1, .int .i64 x.2.1, .int .i64 x.2.2.1, .int .i64 x.2.2.2.1, .bool x.2.2.2.2.1, .slice a4 x.2.2.2.2.2.length k4], rfl, ⟨_, rfl, y6.widens (fun k hk => ⟨by have := hk.1; omega, by have := hk.2; omega⟩)⟩, B6⟩
end Go.Proofs.Ytjhlammjnggghaa
namespace Go.Proofs.Ytjhlammjnggghaa
open Go.ChangeShapes Go.WideShapes Go.ChangeAt Go.RowKit
set_option linter.unusedVariables false
set_option maxRecDepth 100000

set_option maxHeartbeats 4000000 in
theorem implEachSpan (l : List SpanD) (S : Nat → Prop) (v : Value) (w : World) (h0 : LAt 6 spanR w S v l) (b0 : bulkL spanBulk l ≤ 1048576) :
    Calls Try.prog 185 #[v, .func (.func 137) #[] #[]] w fun e w' => ∃ v', e = .returned v' ∧ LOw 6 spanO w' (Within w.heap.size w'.heap.size) v' l ∧ Below w.heap.size w w' := by
  obtain ⟨a, cap, rfl⟩ := h0.form
  have hl := bulkL_len spanBulk l
  have HA := hide h0
  clear h0
  obtain ⟨w0, hmk, hrow, hb0⟩ := mMakeSpan l.length (by omega) w
  go_enter Try.func185, Try.ntmps185
  go_wp2
  go_loopw [13] (fun i wk => ∃ k : Nat, k ≤ l.length ∧ i = .int .i64 k ∧ Below w.heap.size w wk ∧ Hid (Filled 6 spanO w wk l k)) (fun i _ => l.length - (intOf i).toNat)
  case atStart => exact ⟨0, Nat.zero_le _, rfl, hb0, hide (Filled.start _ _ _ _ _ hrow)⟩
  case round =>
    obtain ⟨k, hk, rfl, hbl, hfl⟩ := hrel
    have hbs := hbl.size
    by_cases hlt : k < l.length
    · have hki : (k : Int) < (l.length : Int) := by omega
      obtain ⟨b, o, cs, rfl, hbk, hSb, hcs, hin⟩ := (unhide HA).at k hlt
      have hcs := spanR_keeps _ _ S None1 cs _ (Below.turn hbl) none_off hcs
      have hin := hin.turn hbk (Below.turn hbl) (fun e => e)
      have hXb : spanBulk l[k] ≤ 1048576 := by have := bulkL_mem spanBulk (List.getElem_mem hlt); omega
      have hrw : RowT Try.prog 33 cs.length := by rw [spanR_len hcs]; exact rowISpan
      have HL1 := hide (spanR_len hcs)
      have on1 := spanR_one hcs
      generalize hX : l[k] = X at *
      have HX := hide hX
      have hA1 := Held.new wr cs 33
      have hbA := bnew wr (.cells cs.toArray 33)
      have hcs := spanR_keeps _ _ S None1 cs _ (Below.turn hbA) none_off hcs
      have HBA := hide hbA
      clear hX hmk hrow hbA
      go_upto_region 5 with (first | (refine wpl_load rfl 33 _ rfl _ _ rfl cs hin hrw ?_) | (refine wpl_store_new rfl _ _ _ rfl _ cs rfl rfl ?_ on1 hrw ?_; (rw [unhide HL1]; rfl)))
      generalize hWa : World.alloc wr _ = wa at *
      have hI := hA1.inB
      clear hWa hin on1 hA1
      go_wp2_with (first | (refine wpl_load rfl 33 _ rfl _ 0 rfl cs hI hrw ?_))
      refine (implCopySpan X S cs wa hcs hXb).mono ?_
      rintro e w2 ⟨cs2, rfl, yy, hb2'⟩
      have hb2 := bthen (unhide HBA) hb2'
      have hln := spanO_len yy
      have on2 := spanR_one (spanO_read _ _ _ _ yy)
      have hri : RowT Try.prog 33 cs2.length := by rw [hln]; exact rowISpan
      have hwr : WrAt w2 w.heap.size (k * 6) cs2.length := by
        have h := ((unhide hfl).1.keep hb2).part (k * 6) 6 (by omega)
        rw [hln]; rwa [Nat.zero_add] at h
      have yy := spanO_widens _ _ (Within wr.heap.size w2.heap.size) _ _ (fun k hk => ⟨Nat.le_trans (unhide HBA).size hk.1, hk.2⟩) yy
      have HB := hide (And.intro yy (And.intro hb2 hln))
      clear yy hb2 hln hb2' HBA hI hcs
      go_wp2_with (first | (refine wpl_store_at rfl 33 _ _ rfl _ _ cs2 rfl rfl hwr on2 hri ?_))
      go_roundw
      case rel =>
        obtain ⟨yy, hb2, hln⟩ := unhide HB
        have st := Filled.step (cs := cs2) spanO_keeps (unhide hfl) hlt hb2 (by rw [unhide HX]; exact yy) hln
        exact ⟨k + 1, by omega, by go_num, (bthen hbl hb2).trans ((putL_turn _ _ _ _ _).belowFrom (bthen hbl hb2).size (fun k hk => by omega)), hide st⟩
      case measure => simp [intOf]; omega
    · have hki : ¬ (k : Int) < (l.length : Int) := by omega
      obtain rfl : k = l.length := by omega
      go_wp2
      go_ret
      exact ⟨_, rfl, (unhide hfl).done (by omega), hbl⟩
set_option maxHeartbeats 2000000 in
theorem implCopyTrail (x : TrailD) (S : Nat → Prop) (c0 : List Value) (w : World) (h0 : trailR w S c0 x) (b0 : trailBulk x ≤ 1048576) :
    Calls Try.prog 115 #[.agg c0.toArray] w fun e w' => ∃ cs', e = .returned (.agg cs'.toArray) ∧ trailO w' (Within w.heap.size w'.heap.size) cs' x ∧ Below w.heap.size w w' := by
  obtain ⟨s0, rfl, g0⟩ := h0
  obtain ⟨a0, k0, rfl⟩ := g0.form
  unfold trailBulk at b0
  have hlen : x.spans.length ≤ 1048576 := by have := bulkL_len spanBulk x.spans; omega
  go_enter Try.func115, Try.ntmps115
  go_upto_region 1 with fail
  generalize hW : World.alloc (World.alloc w _) _ = w1
  have B1 : Below w.heap.size w w1 := by rw [← hW]; exact bthen (bnew _ _) (bnew _ _)
  have P1 : Held w1 w.heap.size [.int .i64 x.id, .int .i64 x.stamp, .int .i64 x.first, .slice a0 x.spans.length k0] := by rw [← hW]; exact (Held.new w [.int .i64 x.id, .int .i64 x.stamp, .int .i64 x.first, .slice a0 x.spans.length k0] 44).keep (bnew _ _)
  have V1 : WrAt w1 w.heap.size 0 4 := by rw [← hW]; exact (WrAt.new w #[.int .i64 x.id, .int .i64 x.stamp, .int .i64 x.first, .slice a0 x.spans.length k0] 44 4 rfl).keep (bnew _ _)
  have R1 : WrAt w1 (w.heap.size + 1) 0 4 := by rw [← hW]; have := WrAt.new (w.alloc (.cells #[.int .i64 x.id, .int .i64 x.stamp, .int .i64 x.first, .slice a0 x.spans.length k0] 44)) #[.int .i64 0, .int .i64 0, .int .i64 0, .slice none 0 0] 44 4 rfl; simpa using this
  have hs1 : w1.heap.size = w.heap.size + 2 := by rw [← hW]; simp
  clear hW
  have p5 := P1.2 3 _ rfl
  have g1 := g0.keep spanR_keeps B1
  clear g0
  have HP := hide (And.intro hs1 (And.intro B1 (And.intro P1 (And.intro V1 R1))))
  clear P1 V1 R1 hs1
  go_wp2_with fail
  refine (implEachSpan x.spans S _ w1 g1 b0).mono ?_
  rintro e w4 ⟨v4, rfl, y, hb4⟩
  clear g1 p5
  obtain ⟨hs1, B1, P1, V1, R1⟩ := unhide HP
  obtain ⟨a4, k4, rfl⟩ := y.form
  have P4 := P1.keep hb4
  have V4 := V1.keep hb4
  have R4 := R1.keep hb4
  have q5 := P4.2 3 _ rfl
  have f5 := V4.free 3 (by omega)
  rw [Nat.zero_add] at f5
  have B4 := bthen B1 hb4
  have HY := hide (And.intro y (And.intro P4 (And.intro R4 B4)))
  have hlt : w.heap.size < w4.heap.size := by have := hb4.size; omega
  have HS1 := hide hs1
  clear hs1 y hb4 P1 V1 R1 P4 V4 R4 B4 B1 HP
  go_upto_region 2 with fail
  obtain ⟨y, P4, R4, B4⟩ := unhide HY
  have hs1 := unhide HS1
  generalize hW : World.setCell w4 _ _ = w5
  have P5 : Held w5 w.heap.size [.int .i64 x.id, .int .i64 x.stamp, .int .i64 x.first, .slice a4 x.spans.length k4] := by rw [← hW]; exact P4.set 3 (.slice a4 x.spans.length k4) (by simp)
  have R5 : WrAt w5 (w.heap.size + 1) 0 4 := by rw [← hW]; exact R4.set _ _
  have t5 : Turn (fun k => k = w.heap.size) w4 w5 := by rw [← hW]; exact Turn.set w4 ⟨w.heap.size, 3, none⟩ _
  clear hW q5 f5 HY
  have t6 := putL_turn (w.heap.size + 1) 0 [.int .i64 x.id, .int .i64 x.stamp, .int .i64 x.first, .slice a4 x.spans.length k4] 0 w5
  have i6 := putL_at (b := w.heap.size + 1) (o := 0) [.int .i64 x.id, .int .i64 x.stamp, .int .i64 x.first, .slice a4 x.spans.length k4] 0 R5 (by omega) (by simp)
  have tt : Turn (fun k => k = w.heap.size ∨ k = w.heap.size + 1) w4 (putL (w.heap.size + 1) 0 [.int .i64 x.id, .int .i64 x.stamp, .int .i64 x.first, .slice a4 x.spans.length k4] 0 w5) := (t5.mono (fun k h => .inl h)).trans (t6.mono (fun k h => .inr h))
  have y6 := y.turn spanO_keeps tt (fun k hk e => by have := hk.1; omega)
  have B6 := B4.trans (tt.belowFrom B4.size (fun k hk => by omega))
  have hz := tt.size
  have HF := hide (And.intro i6 (And.intro y6 B6))
  have c1 := P5.inB
  clear t5 t6 i6 tt y y6 B6 P4 R4 P5 hs1
  go_wp2_with (first | (refine wpl_load rfl 44 _ rfl _ 0 rfl [.int .i64 x.id, .int .i64 x.stamp, .int .i64 x.first, .slice a4 x.spans.length k4] c1 rowITrail ?_) | (refine wpl_store_at rfl 44 _ _ rfl _ 0 [.int .i64 x.id, .int .i64 x.stamp, .int .i64 x.first, .slice a4 x.spans.length k4] rfl rfl R5 (by intro v hv; simp only [List.mem_cons, List.not_mem_nil, or_false] at hv; rcases hv with rfl | rfl | rfl | rfl <;> rfl) rowITrail ?_))
  obtain ⟨i6, y6, B6⟩ := unhide HF
  have hs1 := unhide HS1
  refine bodyPost_ret (v := .agg #[.int .i64 x.id, .int .i64 x.stamp, .int .i64 x.first, .slice a4 x.spans.length k4]) (res_row (t := 2) (cs := [.int .i64 x.id, .int .i64 x.stamp, .int .i64 x.first, .slice a4 x.spans.length k4]) rfl rfl i6 rowITrail) rfl ⟨[.int .i64 x.id, .int .i64 x.stamp, .int .i64 x.first, .slice a4 x.spans.length k4], rfl, ⟨_, rfl, y6.widens (fun k hk => ⟨by have := hk.1; omega, by have := hk.2; omega⟩)⟩, B6⟩
end Go.Proofs.Ytjhlammjnggghaa
namespace Go.Proofs.Ytjhlammjnggghaa
open Go.ChangeShapes Go.WideShapes Go.ChangeAt Go.RowKit Go.Sort
set_option linter.unusedVariables false
set_option maxRecDepth 100000

theorem res_row2O {P : Program} {fn : Func} {tmps : Array Value} {w : World} {t u : Tmp} {ty : TypeId} {b o : Nat} {cs : List Value} {v : Value} (hr : fn.results = #[.cell t ty, .tmp u]) (ht : tmps.getD t undef = .pointer (some ⟨b, o, none⟩)) (hu : tmps.getD u undef = v) (h : InB w b o cs) (hrow : RowT P ty cs.length) :
    (results fn tmps).run P w = .ok (.tuple #[.agg cs.toArray, v]) w := by
  obtain ⟨d, hu', hd, hi⟩ := hrow
  have hl := run_loadVar_mid (P := P) w b o ty cs d h hu' hd hi
  unfold results
  rw [hr]
  have ht' : tmps[t]?.getD undef = .pointer (some ⟨b, o, none⟩) := by simpa using ht
  have hu2 : tmps[u]?.getD undef = v := by simpa using hu
  simp [ht', hu2, asAddr, hl]
theorem foldl_snocO (l s : List TrailD) : l.foldl snocO s = s ++ l := by
  induction l generalizing s with
  | nil => simp
  | cons x r ih => rw [List.foldl_cons, ih]; simp [snocO]
theorem flat_sumO (l : List StripeD) : (l.flatMap StripeD.l).length ≤ (l.map stripeBulk).sum := by
  induction l with
  | nil => simp
  | cons x r ih =>
    rw [List.flatMap_cons, List.length_append, List.map_cons, List.sum_cons]
    have : x.l.length ≤ stripeBulk x := by unfold stripeBulk; exact bulkL_len trailBulk x.l
    omega
theorem flat_leO {l : List StripeD} {k N : Nat} (h : k < l.length) (b : bulkL stripeBulk l ≤ N) : ((l.take k).flatMap StripeD.l).length + l[k].l.length ≤ N := by
  have h1 : (l.flatMap StripeD.l).length ≤ N := by
    have := flat_sumO l
    unfold bulkL at b
    omega
  have e : l = l.take k ++ l[k] :: l.drop (k + 1) := by rw [List.getElem_cons_drop, List.take_append_drop]
  rw [e, List.flatMap_append, List.length_append, List.flatMap_cons, List.length_append] at h1
  have e2 : (l.take k ++ l[k] :: l.drop (k + 1)).take k = l.take k := by rw [← e]
  omega
def oldO (l : List StripeD) : Option TrailD := bestL (l.flatMap StripeD.l)
def oldT (l : List StripeD) : TrailD := (oldO l).getD ⟨0, 0, 0, []⟩
def oldB (l : List StripeD) : Bool := (oldO l).isSome
theorem no_trailO (w : World) (S : Nat → Prop) : trailR w S [.int .i64 0, .int .i64 0, .int .i64 0, .slice none 0 0] ⟨0, 0, 0, []⟩ := ⟨_, rfl, none, 0, rfl, by simp, .inl rfl⟩
theorem implAgesAddR (t : TrailD) (ds : List Value) (S0 : Nat → Prop) (bp : Nat) (w0 w : World) (ts : List TrailD) (h0 : trailR w0 S0 ds t) (b0 : trailBulk t ≤ 1048576) (hi : AgeM bp w0.heap.size S0 w0 w ts) (hb : Below w0.heap.size w0 w) (hlen : ts.length + 1 ≤ 1048577) :
    Calls Try.prog 113 #[.pointer (some ⟨bp, 0, none⟩), .agg ds.toArray] w fun e w' => e = .returned (.tuple #[]) ∧ AgeM bp w0.heap.size S0 w0 w' (snocO ts t) ∧ Below w0.heap.size w0 w' := by
  obtain ⟨s, rfl, g⟩ := h0
  exact implAgesAdd t s S0 bp w0 w ts g b0 hi hb hlen
set_option maxHeartbeats 4000000 in
theorem implEachAge (l : List StripeD) (S0 : Nat → Prop) (v0 : Value) (w0 w : World) (h0 : LAt 2 stripeR w0 S0 v0 l) (b0 : bulkL stripeBulk l ≤ 1048576) (hb0 : Below w0.heap.size w0 w) (bp : Nat) (s0 : List TrailD) (hs0 : Hid (s0 = [])) (hi : AgeM bp w0.heap.size S0 w0 w s0) :
    Calls Try.prog 112 #[v0, .func (.func 113) #[.pointer (some ⟨bp, 0, none⟩)] #[]] w fun e w' => e = .returned (.tuple #[]) ∧ AgeM bp w0.heap.size S0 w0 w' ((l.flatMap StripeD.l).foldl (snocO) s0) ∧ Below w0.heap.size w0 w' := by
  obtain ⟨a, cap, rfl⟩ := h0.form
  have hl := h0.len
  have HA := hide h0
  have HI := hide hi
  clear h0 hi
  go_enter Try.func112, Try.ntmps112
  go_wp2
  go_loopw [10] (fun i wk => ∃ k : Nat, k ≤ l.length ∧ i = .int .i64 k ∧ Hid (AgeM bp w0.heap.size S0 w0 wk (((l.take k).flatMap StripeD.l).foldl (snocO) s0)) ∧ Below w0.heap.size w0 wk) (fun i _ => l.length - (intOf i).toNat)
  case atStart => exact ⟨0, Nat.zero_le _, rfl, HI, hb0⟩
  case round =>
    obtain ⟨k, hk, rfl, hiv, hbl⟩ := hrel
    clear HI
    by_cases hlt : k < l.length
    · have hki : (k : Int) < (l.length : Int) := by omega
      obtain ⟨b, o, cs, rfl, hbk, hSb, hcs, hin⟩ := (unhide HA).at k hlt
      have hin := hin.turn hbk (Below.turn hbl) (fun e => e)
      have hXb : stripeBulk l[k] ≤ 1048576 := by have := bulkL_mem stripeBulk (List.getElem_mem hlt); omega
      have hrw : RowT Try.prog 140 cs.length := by rw [stripeR_len hcs]; exact rowIStripe
      have HSN := hide (flat_snoc (f := StripeD.l) (g := snocO) (s := s0) hlt)
      have HBD : Hid (((l.take k).flatMap StripeD.l).length + l[k].l.length ≤ 1048576) := hide (flat_leO hlt b0)
      generalize hX : l[k] = X at *
      clear hX
      have HL1 := hide (stripeR_len hcs)
      have on1 := stripeR_one hcs
      obtain ⟨a1, k1, z1, g1⟩ := stripeR_c1 hcs
      have HZ1 := hide z1
      have hl1 := g1.len
      have hA1 := Held.new wr cs 140
      have hbA := bnew wr (.cells cs.toArray 140)
      have HI := hide (AgeM.keep (unhide hiv) hbA)
      have HG := hide g1
      have hbl := Below.trans hbl (hbA.mono hbl.size)
      clear z1 g1 hiv
      go_upto_region 3 with (first | (refine wpl_load rfl 140 _ rfl _ _ rfl cs hin hrw ?_) | (refine wpl_store_new rfl _ _ _ rfl _ cs rfl rfl ?_ on1 hrw ?_; (rw [unhide HL1]; rfl)))
      generalize hWa : World.alloc wr _ = wa at *
      clear hWa hin hrw on1
      have i1 := hA1.2 1 _ (unhide HZ1)
      go_wp2
      go_loopw [17] (fun i wk => ∃ j : Nat, j ≤ X.l.length ∧ i = .int .i64 j ∧ Hid (AgeM bp w0.heap.size S0 w0 wk ((X.l.take j).foldl (snocO) (((l.take k).flatMap StripeD.l).foldl (snocO) s0))) ∧ Below w0.heap.size w0 wk) (fun i _ => X.l.length - (intOf i).toNat)
      case atStart => exact ⟨0, Nat.zero_le _, rfl, HI, hbl⟩
      case round =>
        obtain ⟨j, hj, rfl, hiv, hbl2⟩ := hrel
        by_cases hlt2 : j < X.l.length
        · have hji : (j : Int) < (X.l.length : Int) := by omega
          obtain ⟨c, q, ds, rfl, hck, hSc, hds0, hjn0⟩ := (unhide HG).at j hlt2
          have hjn := hjn0.turn hck (Below.turn hbl2) (fun e => e)
          clear hjn0
          have hYb : trailBulk X.l[j] ≤ 1048576 := by have := bulkL_mem trailBulk (List.getElem_mem hlt2); unfold stripeBulk at hXb; omega
          have hrw : RowT Try.prog 44 ds.length := by rw [trailR_len hds0]; exact rowITrail
          have HTS := hide (fold_snoc (g := snocO) (s := ((l.take k).flatMap StripeD.l).foldl (snocO) s0) hlt2)
          generalize hY : X.l[j] = Y at *
          clear hY
          have HL2 := hide (trailR_len hds0)
          have on2 := trailR_one hds0
          have hB1 := Held.new wr ds 44
          have hbB := bnew wr (.cells ds.toArray 44)
          have hiw := AgeM.keep (unhide hiv) hbB
          have HD0 := hide hds0
          clear hds0
          have hbl2 := Below.trans hbl2 (hbB.mono hbl2.size)
          clear hiv i1 hA1
          go_upto_region 6 with (first | (refine wpl_load rfl 44 _ rfl _ _ rfl ds hjn hrw ?_) | (refine wpl_store_new rfl _ _ _ rfl _ ds rfl rfl ?_ on2 hrw ?_; (rw [unhide HL2]; rfl)))
          generalize hWb : World.alloc wr _ = wb at *
          clear hWb hjn on2
          have HIW := hide hiw
          clear hiw
          go_wp2_with (first | (refine wpl_load rfl 44 _ rfl _ 0 rfl ds hB1.inB hrw ?_))
          refine (implAgesAddR Y ds S0 bp w0 _ _ (unhide HD0) hYb (unhide HIW) hbl2 (by rw [unhide hs0, foldl_snocO, foldl_snocO, List.nil_append, List.length_append, List.length_take]; have := unhide HBD; omega)).mono ?_
          rintro e w2 ⟨rfl, hiz, hb2⟩
          have HIZ := hide hiz
          clear hiz HIW
          go_wp2
          go_roundw
          case rel =>
            exact ⟨j + 1, by omega, by go_num, hide (by rw [unhide HTS]; exact unhide HIZ), hb2⟩
          case measure => simp [intOf]; omega
        · have hji : ¬ (j : Int) < (X.l.length : Int) := by omega
          obtain rfl : j = X.l.length := by omega
          have hfin : AgeM bp w0.heap.size S0 w0 wr (((l.take (k + 1)).flatMap StripeD.l).foldl (snocO) s0) := by rw [unhide HSN]; have h := unhide hiv; rw [List.take_length] at h; exact h
          have HFIN := hide hfin
          clear hfin hiv
          go_wp2
          go_roundw
          case rel => exact ⟨k + 1, by omega, by go_num, HFIN, hbl2⟩
          case measure => simp [intOf]; omega
    · have hki : ¬ (k : Int) < (l.length : Int) := by omega
      obtain rfl : k = l.length := by omega
      have hfin := unhide hiv
      rw [List.take_length] at hfin
      have HFIN := hide hfin
      clear hfin hiv
      go_wp2
      go_end0
      exact ⟨rfl, unhide HFIN, hbl⟩
set_option maxHeartbeats 2000000 in
theorem implOldest (S0 : Nat → Prop) (bp : Nat) (w0 w : World) (ts : List TrailD) (hi : AgeM bp w0.heap.size S0 w0 w ts) (hb : Below w0.heap.size w0 w) (hlen : ts.length ≤ 1048577) :
    Calls Try.prog 114 #[.pointer (some ⟨bp, 0, none⟩)] w fun e w' => ∃ cs, e = .returned (.tuple #[.agg cs.toArray, .bool (bestL ts).isSome]) ∧ trailR w0 S0 cs ((bestL ts).getD ⟨0, 0, 0, []⟩) ∧ trailBulk ((bestL ts).getD ⟨0, 0, 0, []⟩) ≤ 1048576 ∧ Below w.heap.size w w' := by
  have B1 := bnew w (.cells #[.int .i64 0, .int .i64 0, .int .i64 0, .slice none 0 0] 44)
  have R1 := WrAt.new w #[.int .i64 0, .int .i64 0, .int .i64 0, .slice none 0 0] 44 4 rfl
  have hs1 : w.heap.size < (w.alloc (.cells #[.int .i64 0, .int .i64 0, .int .i64 0, .slice none 0 0] 44)).heap.size := by simp
  have hi1 := hi.keep B1
  clear hi
  go_enter Try.func114, Try.ntmps114
  go_upto_region 1 with fail
  generalize World.alloc w _ = w1 at *
  obtain ⟨hlo, v, ps, hB, hrow, hpl, hkn, hroot⟩ := hi1
  obtain ⟨av, kv, rfl⟩ := owns_formO hrow
  have c0 := hB.cell
  rcases hroot with ⟨rfl, hr⟩ | ⟨r, hr0, hr, _⟩
  · obtain rfl : ts = [] := List.eq_nil_of_length_eq_zero hpl.symm
    have HR := hide hr
    clear hB hrow hkn hr hpl
    go_wp2_with (first | (refine wpl_store_at rfl 44 _ _ rfl _ 0 [.int .i64 0, .int .i64 0, .int .i64 0, .slice none 0 0] rfl rfl R1 (by intro v hv; simp only [List.mem_cons, List.not_mem_nil, or_false] at hv; rcases hv with rfl | rfl | rfl | rfl <;> rfl) rowITrail ?_))
    refine bodyPost_ret (v := .tuple #[.agg #[.int .i64 0, .int .i64 0, .int .i64 0, .slice none 0 0], .bool false]) (res_row2O (t := 2) (u := 3) (cs := [.int .i64 0, .int .i64 0, .int .i64 0, .slice none 0 0]) rfl rfl rfl (putL_at (b := w.heap.size) (o := 0) [.int .i64 0, .int .i64 0, .int .i64 0, .slice none 0 0] 0 R1 (by omega) (by simp)) rowITrail) rfl ⟨[.int .i64 0, .int .i64 0, .int .i64 0, .slice none 0 0], by rw [unhide HR]; rfl, by rw [unhide HR]; exact no_trailO _ _, by rw [unhide HR]; simp [trailBulk, bulkL], ?_⟩
    exact B1.trans ((putL_turn _ _ _ _ _).belowFrom B1.size (fun k hk => by have e : k = w.heap.size := hk; omega))
  · have HR := hide hr
    have hpos : 0 < ps.length := by
      rcases Nat.eq_zero_or_pos ps.length with e | e
      · rw [List.getElem?_eq_none (by omega)] at hr0; cases hr0
      · exact e
    have hts : 0 < ts.length := by omega
    rcases hrow.2 with ⟨_, h0⟩ | ⟨g, cap, cur, hv, hgb, _⟩
    · omega
    injection hv with hv1 hv2 hv3
    subst hv1
    subst hv3
    have hin := owns_in hrow hr0
    have hkr := hkn.rd hr0 (Below.refl _ _)
    rw [Nat.zero_mul] at hin
    have q1 : ((ts.length : Int) == 0) = false := beq_eq_false_iff_ne.2 (by omega)
    have q2 : (0 : Int) < (ts.length : Int) := by omega
    obtain ⟨x, sx⟩ := r
    have hon : One (tc (x, sx)) := trailR_one hkr.1
    have HK := hide hkr
    have R2 : WrAt w1 w.heap.size 0 (tc (x, sx)).length := R1
    have tt := putL_turn w.heap.size 0 (tc (x, sx)) 0 w1
    have B2 := B1.trans (tt.belowFrom B1.size (fun k hk => by have e : k = w.heap.size := hk; omega))
    have i6 := putL_at (b := w.heap.size) (o := 0) (tc (x, sx)) 0 R2 (by omega) (by omega)
    have HF := hide (And.intro B2 i6)
    clear hB hrow hkn hr hpl hkr hr0 tt B2 i6 R1
    go_wp2_with (first | (refine wpl_load rfl 44 _ rfl g 0 rfl (tc (x, sx)) hin rowITrail ?_) | (refine wpl_store_at rfl 44 _ _ rfl _ 0 (tc (x, sx)) rfl rfl R2 hon rowITrail ?_))
    exact bodyPost_ret (v := .tuple #[.agg (tc (x, sx)).toArray, .bool true]) (res_row2O (t := 2) (u := 3) (cs := tc (x, sx)) rfl rfl rfl (unhide HF).2 rowITrail) rfl ⟨tc (x, sx), by rw [unhide HR]; rfl, by rw [unhide HR]; exact (unhide HK).1, by rw [unhide HR]; exact (unhide HK).2, (unhide HF).1⟩
set_option maxHeartbeats 2000000 in
theorem implOldestOf (l : List StripeD) (S : Nat → Prop) (v : Value) (w : World) (h0 : LAt 2 stripeR w S v l) (b0 : bulkL stripeBulk l ≤ 1048576) :
    Calls Try.prog 25 #[v] w fun e w' => ∃ cs', e = .returned (.tuple #[.agg cs'.toArray, .bool (oldB l)]) ∧ trailO w' (Within w.heap.size w'.heap.size) cs' (oldT l) ∧ Below w.heap.size w w' := by
  obtain ⟨a, cap, rfl⟩ := h0.form
  have B1 := bnew w (.cells #[.int .i64 0, .int .i64 0, .int .i64 0, .slice none 0 0] 44)
  have R1 := WrAt.new w #[.int .i64 0, .int .i64 0, .int .i64 0, .slice none 0 0] 44 4 rfl
  have hs1 : (w.alloc (.cells #[.int .i64 0, .int .i64 0, .int .i64 0, .slice none 0 0] 44)).heap.size = w.heap.size + 1 := by simp
  have HA := hide (h0.keep stripeR_keeps B1)
  clear h0
  go_enter Try.func25, Try.ntmps25
  go_upto_region 1 with fail
  generalize World.alloc w _ = w1 at *
  have b2 := bnew w1 (.cells #[.slice none 0 0] 145)
  have hx : Boxed (w1.alloc (.cells #[.slice none 0 0] 145)) w1.heap.size 145 (.slice none 0 0) := Boxed.new _ _ _
  have hag : AgeM w1.heap.size w1.heap.size S w1 (w1.alloc (.cells #[.slice none 0 0] 145)) [] :=
    ⟨by omega, _, [], hx, World.ownsRow_nil _ _ _ _, rfl, (fun p hp => by simp at hp), .inl ⟨rfl, rfl⟩⟩
  have HAG := hide hag
  clear hx hag
  go_upto_region 2 with fail
  generalize World.alloc w1 _ = w2 at *
  obtain ⟨bp, hbp⟩ : ∃ bp, bp = w.heap.size + 1 := ⟨_, rfl⟩
  have HAG2 : Hid (AgeM bp w1.heap.size S w1 w2 []) := hide (by rw [show bp = w1.heap.size by omega]; exact unhide HAG)
  rw [← hbp]
  clear HAG hbp hs1
  go_wp2_with fail
  refine (implEachAge l S _ w1 w2 (unhide HA) b0 b2 bp [] (hide rfl) (unhide HAG2)).mono ?_
  rintro e w3 ⟨rfl, hag, hb3⟩
  rw [foldl_snocO, List.nil_append] at hag
  have HLN : Hid ((l.flatMap StripeD.l).length ≤ 1048577) := hide (by have := flat_sumO l; have e : bulkL stripeBulk l = l.length + (l.map stripeBulk).sum := rfl; omega)
  have HAG := hide hag
  have HB3 := hide hb3
  have R3 := R1.keep hb3
  have B3 := bthen B1 hb3
  clear hag HAG2 b2 R1 B1 HA hb3
  go_wp2_with fail
  refine (implOldest S bp w1 w3 _ (unhide HAG) (unhide HB3) (unhide HLN)).mono ?_
  rintro e w4 ⟨cs, rfl, hcs, hcb, hb4⟩
  rw [show bestL (l.flatMap StripeD.l) = oldO l from rfl] at hcs hcb ⊢
  have hc4 := trailR_keeps _ _ S None1 cs _ (Below.turn ((unhide HB3).trans (hb4.mono (unhide HB3).size))) none_off hcs
  have R4 := R3.keep hb4
  have B4 := bthen B3 hb4
  clear HAG HB3 HLN R3 B3 hb4 hcs
  have hone := trailR_one hc4
  obtain ⟨sv, rfl, g4⟩ := hc4
  obtain ⟨p4, k4, rfl⟩ := g4.form
  generalize hX : (oldO l).getD ⟨0, 0, 0, []⟩ = X at *
  have HX := hide hX
  clear hX
  have b5 := bnew w4 (.cells ([.int .i64 X.id, .int .i64 X.stamp, .int .i64 X.first, .slice p4 X.spans.length k4]).toArray 44)
  have P5 := Held.new w4 ([.int .i64 X.id, .int .i64 X.stamp, .int .i64 X.first, .slice p4 X.spans.length k4]) 44
  have g5 := g4.keep spanR_keeps b5
  have R5 := R4.keep b5
  have B5 := bthen B4 b5
  clear g4 R4 B4 b5
  go_upto_region 4 with (first | (refine wpl_store_new rfl _ _ _ rfl _ ([.int .i64 X.id, .int .i64 X.stamp, .int .i64 X.first, .slice p4 X.spans.length k4]) rfl rfl ?_ hone rowITrail ?_; rfl))
  generalize w4.heap.size = s5 at *
  generalize World.alloc w4 _ = w5 at *
  have HG := hide g5
  clear g5
  go_wp2_with (first | (refine wpl_load rfl 44 _ rfl _ 0 rfl ([.int .i64 X.id, .int .i64 X.stamp, .int .i64 X.first, .slice p4 X.spans.length k4]) P5.inB rowITrail ?_))
  refine (implCopyTrail X S ([.int .i64 X.id, .int .i64 X.stamp, .int .i64 X.first, .slice p4 X.spans.length k4]) w5 ⟨_, rfl, unhide HG⟩ hcb).mono ?_
  rintro e w6 ⟨cs4, rfl, yy, hb6⟩
  have R6 := R5.keep hb6
  have B6 := bthen B5 hb6
  have hs5 := B5.size
  have hlt5 := R5.1
  clear P5 HG R5 B5 hb6
  have hln := trailO_len yy
  have on4 := trailR_one (trailO_read _ _ _ _ yy)
  have hri : RowT Try.prog 44 cs4.length := by rw [hln]; exact rowITrail
  have R7 : WrAt w6 w.heap.size 0 cs4.length := by rw [hln]; exact R6
  have tt := putL_turn w.heap.size 0 cs4 0 w6
  have y6 := trailO_keeps _ _ _ _ _ _ tt (fun k hk e => by have := hk.1; have e2 : k = w.heap.size := e; omega) yy
  have i6 := putL_at (b := w.heap.size) (o := 0) cs4 0 R7 (by omega) (by omega)
  have B7 := B6.trans (tt.belowFrom B6.size (fun k hk => by have e2 : k = w.heap.size := hk; omega))
  have hz6 := tt.size
  have HF := hide (And.intro y6 (And.intro i6 B7))
  have hs6 := hide hs5
  clear yy tt y6 i6 B7 hln R6
  go_wp2_with (first | (refine wpl_store_at rfl 44 _ _ rfl _ 0 cs4 rfl rfl R7 on4 hri ?_))
  obtain ⟨y6, i6, B7⟩ := unhide HF
  refine bodyPost_ret (v := .tuple #[.agg cs4.toArray, .bool (oldO l).isSome]) (res_row2O (t := 2) (u := 3) (cs := cs4) rfl rfl rfl i6 hri) rfl ⟨cs4, rfl, ?_, B7⟩
  rw [show oldT l = X from unhide HX]
  exact trailO_widens _ _ _ _ _ (fun k hk => ⟨by have := hk.1; omega, by have := hk.2; omega⟩) y6
end Go.Proofs.Ytjhlammjnggghaa
namespace Go.Proofs.Ytjhlammjnggghaa
open Go.ChangeShapes Go.WideShapes Go.ChangeAt Go.RowKit
set_option linter.unusedVariables false
set_option maxRecDepth 100000

theorem infoSpan3 : (Try.prog.info? 33).map (fun i => (i.zero, i.size, i.bytes)) = some (some (.agg #[.int .i64 0, .int .i64 0, .int .i64 0, .int .i64 0, .bool false, .slice none 0 0]), 6, 64) := by kernel_rfl
set_option maxHeartbeats 4000000 in
theorem specL3All (l : List SpanD) (S : Nat → Prop) (v : Value) (w : World) (h0 : LAt 6 spanR w S v l) (b0 : bulkL spanBulk l ≤ 1048576) :
    Calls Try.prog 183 #[v] w fun e w' => ∃ v', e = .returned v' ∧ LOw 6 spanO w' (Within w.heap.size w'.heap.size) v' l ∧ Below w.heap.size w w' := by
  obtain ⟨a, cap, rfl⟩ := h0.form
  have hl := bulkL_len spanBulk l
  have HA := hide h0
  clear h0
  have hst := hide (GrowL.start (α := SpanD) (N := 6) (C := spanO) (t := 33) (Nat.le_refl w.heap.size))
  have hb0 := hide (bnew w (.cells #[] 33))
  have hml : (1048577 : Nat) ≤ maxLen := by unfold maxLen; omega
  go_enter Try.func183, Try.ntmps183
  go_wp2
  go_loopw [3, 4] (fun o i wk => ∃ k : Nat, k ≤ l.length ∧ i = .int .i64 k ∧ Hid (GrowL 6 spanO 33 w.heap.size wk o (l.take k)) ∧ Below w.heap.size w wk) (fun _ i _ => l.length - (intOf i).toNat)
  case atStart => exact ⟨0, Nat.zero_le _, rfl, hst, unhide hb0⟩
  case round =>
    obtain ⟨k, hk, rfl, hgr, hbl⟩ := hrel
    have hpre : (l.take k).length ≤ k := by rw [List.length_take]; omega
    have hbs := hbl.size
    clear hst hb0
    by_cases hlt : k < l.length
    · have hki : (k : Int) < (l.length : Int) := by omega
      obtain ⟨b, o, cs, rfl, hbk, hSb, hcs, hin⟩ := (unhide HA).at k hlt
      have hcs := spanR_keeps _ _ S None1 cs _ (Below.turn hbl) none_off hcs
      have hin := hin.turn hbk (Below.turn hbl) (fun e => e)
      have hXb : spanBulk l[k] ≤ 1048576 := by have := bulkL_mem spanBulk (List.getElem_mem hlt); omega
      have HS := hide (List.take_succ_eq_append_getElem hlt)
      have hrw : RowT Try.prog 33 cs.length := by rw [spanR_len hcs]; exact rowISpan
      generalize l[k] = X at *
      go_wp2_with (first | (refine wpl_load rfl 33 _ rfl _ _ rfl cs hin hrw ?_))
      refine (specL3Copy X S cs wr hcs hXb).mono ?_
      rintro e w2 ⟨cs2, rfl, yy, hb2⟩
      obtain ⟨css, T, gx⟩ := unhide hgr
      generalize hTK : l.take k = TK at *
      clear hTK hin hcs hgr
      have HY := hide yy
      obtain ⟨s2, rfl, y2⟩ := yy
      obtain ⟨a2, k2, rfl⟩ := y2.form
      clear y2
      have hb3 := bthen hb2 (bnew w2 (.cells #[.int .i64 X.1, .int .i64 X.2.1, .int .i64 X.2.2.1, .int .i64 X.2.2.2.1, .bool X.2.2.2.2.1, .slice a2 X.2.2.2.2.2.length k2] 33))
      have hI3 := (Held.new w2 [.int .i64 X.1, .int .i64 X.2.1, .int .i64 X.2.2.1, .int .i64 X.2.2.2.1, .bool X.2.2.2.2.1, .slice a2 X.2.2.2.2.2.length k2] 33).inB
      have HB2 := hide (And.intro hb2 hb3)
      clear hb2 hb3
      go_upto_region 6 with (first | (refine wpl_store_new rfl _ _ _ rfl _ [.int .i64 X.1, .int .i64 X.2.1, .int .i64 X.2.2.1, .int .i64 X.2.2.2.1, .bool X.2.2.2.2.1, .slice a2 X.2.2.2.2.2.length k2] rfl rfl ?_ (by intro v hv; simp only [List.mem_cons, List.not_mem_nil, or_false] at hv; rcases hv with rfl | rfl | rfl | rfl | rfl | rfl <;> rfl) rowISpan ?_; rfl))
      obtain ⟨hb2, hb3⟩ := unhide HB2
      have hz3 : (World.alloc w2 (.cells #[.int .i64 X.1, .int .i64 X.2.1, .int .i64 X.2.2.1, .int .i64 X.2.2.2.1, .bool X.2.2.2.2.1, .slice a2 X.2.2.2.2.2.length k2] 33)).heap.size = w2.heap.size + 1 := by simp
      have yy3 := spanO_keeps _ _ _ None1 _ _ (Below.turn (bnew w2 (.cells #[.int .i64 X.1, .int .i64 X.2.1, .int .i64 X.2.2.1, .int .i64 X.2.2.2.1, .bool X.2.2.2.2.1, .slice a2 X.2.2.2.2.2.length k2] 33))) none_off (unhide HY)
      generalize hW3 : World.alloc w2 _ = w3 at *
      have hb4 := bthen hb3 (bnew w3 (.cells #[.int .i64 X.1, .int .i64 X.2.1, .int .i64 X.2.2.1, .int .i64 X.2.2.2.1, .bool X.2.2.2.2.1, .slice a2 X.2.2.2.2.2.length k2] 33))
      have hrow := (gx.keep spanO_keeps hb4).row
      have hns := hb2.size
      have hs4 : w.heap.size ≤ (w3.alloc (.cells #[.int .i64 X.1, .int .i64 X.2.1, .int .i64 X.2.2.1, .int .i64 X.2.2.2.1, .bool X.2.2.2.2.1, .slice a2 X.2.2.2.2.2.length k2] 33)).heap.size := by have := hb4.size; omega
      have HB3 := hide (And.intro hb2 (And.intro hb4 (And.intro yy3 hz3)))
      clear hb2 hb3 hb4 yy3 hW3 HB2 HY hz3
      go_wp2_with (first | (refine wpl_load rfl 33 _ rfl _ 0 rfl [.int .i64 X.1, .int .i64 X.2.1, .int .i64 X.2.2.1, .int .i64 X.2.2.2.1, .bool X.2.2.2.2.1, .slice a2 X.2.2.2.2.2.length k2] hI3 rowISpan ?_) | (at_builtin; refine wpl_append2 rfl (.tmp 18) (.tmp 20) 42 rfl w.heap.size 33 _ 6 64 Try.underlying42 infoSpan3 rfl (by decide) _ _ _ rfl hrow ⟨_, 0, none⟩ 1 1 [.int .i64 X.1, .int .i64 X.2.1, .int .i64 X.2.2.1, .int .i64 X.2.2.2.1, .bool X.2.2.2.2.1, .slice a2 X.2.2.2.2.2.length k2] rfl rfl (lit_cells2 w3 [.int .i64 X.1, .int .i64 X.2.1, .int .i64 X.2.2.1, .int .i64 X.2.2.2.1, .bool X.2.2.2.2.1, .slice a2 X.2.2.2.2.2.length k2] 33) (by intro v hv; simp only [List.mem_cons, List.not_mem_nil, or_false] at hv; rcases hv with rfl | rfl | rfl | rfl | rfl | rfl <;> rfl) (by omega) (by omega) hs4 ?_))
      intro v' w' how hg hv
      obtain ⟨hb2, hb4, yy3, hz3⟩ := unhide HB3
      have st1 := GrowX.step spanO_keeps gx hbs hb4 (spanO_keeps _ _ _ None1 _ _ (Below.turn (bnew w3 (.cells #[.int .i64 X.1, .int .i64 X.2.1, .int .i64 X.2.2.1, .int .i64 X.2.2.2.1, .bool X.2.2.2.2.1, .slice a2 X.2.2.2.2.2.length k2] 33))) none_off yy3) (fun k hk => ⟨hk.1, by have := hk.2; simp; omega⟩) rfl how hg (by rcases hv with h | h; exact .inl h; exact .inr (by rw [h]; simp))
      have bl1 := grown_below (bthen hbl hb4) hg (fun k hk => (gx.row.lt k hk).1) hs4
      have HST := hide (And.intro st1 bl1)
      clear how hg hv st1 bl1 hrow gx hb2 hb4 HB3 yy3 hz3
      go_wp2
      go_roundw
      case rel => exact ⟨k + 1, by omega, by go_num, hide (by rw [unhide HS]; exact (unhide HST).1), (unhide HST).2⟩
      case measure => simp [intOf]; omega
    · have hki : ¬ (k : Int) < (l.length : Int) := by omega
      obtain rfl : k = l.length := by omega
      go_wp2
      go_ret
      have h := unhide hgr
      rw [List.take_length] at h
      exact ⟨_, rfl, h.done (by omega), hbl⟩
set_option maxHeartbeats 2000000 in
theorem specL10Copy (x : TrailD) (S : Nat → Prop) (c0 : List Value) (w : World) (h0 : trailR w S c0 x) (b0 : trailBulk x ≤ 1048576) :
    Calls Try.prog 110 #[.agg c0.toArray] w fun e w' => ∃ cs', e = .returned (.agg cs'.toArray) ∧ trailO w' (Within w.heap.size w'.heap.size) cs' x ∧ Below w.heap.size w w' := by
  obtain ⟨s0, rfl, g0⟩ := h0
  obtain ⟨a0, k0, rfl⟩ := g0.form
  unfold trailBulk at b0
  have hlen : x.spans.length ≤ 1048576 := by have := bulkL_len spanBulk x.spans; omega
  go_enter Try.func110, Try.ntmps110
  go_upto_region 1 with fail
  generalize hW : World.alloc (World.alloc w _) _ = w1
  have B1 : Below w.heap.size w w1 := by rw [← hW]; exact bthen (bnew _ _) (bnew _ _)
  have P1 : Held w1 w.heap.size [.int .i64 x.id, .int .i64 x.stamp, .int .i64 x.first, .slice a0 x.spans.length k0] := by rw [← hW]; exact (Held.new w [.int .i64 x.id, .int .i64 x.stamp, .int .i64 x.first, .slice a0 x.spans.length k0] 44).keep (bnew _ _)
  have V1 : WrAt w1 w.heap.size 0 4 := by rw [← hW]; exact (WrAt.new w #[.int .i64 x.id, .int .i64 x.stamp, .int .i64 x.first, .slice a0 x.spans.length k0] 44 4 rfl).keep (bnew _ _)
  have R1 : WrAt w1 (w.heap.size + 1) 0 4 := by rw [← hW]; have := WrAt.new (w.alloc (.cells #[.int .i64 x.id, .int .i64 x.stamp, .int .i64 x.first, .slice a0 x.spans.length k0] 44)) #[.int .i64 0, .int .i64 0, .int .i64 0, .slice none 0 0] 44 4 rfl; simpa using this
  have hs1 : w1.heap.size = w.heap.size + 2 := by rw [← hW]; simp
  clear hW
  have p5 := P1.2 3 _ rfl
  have g1 := g0.keep spanR_keeps B1
  clear g0
  have HP := hide (And.intro hs1 (And.intro B1 (And.intro P1 (And.intro V1 R1))))
  clear P1 V1 R1 hs1
  go_wp2_with fail
  refine (specL3All x.spans S _ w1 g1 b0).mono ?_
  rintro e w4 ⟨v4, rfl, y, hb4⟩
  clear g1 p5
  obtain ⟨hs1, B1, P1, V1, R1⟩ := unhide HP
  obtain ⟨a4, k4, rfl⟩ := y.form
  have P4 := P1.keep hb4
  have V4 := V1.keep hb4
  have R4 := R1.keep hb4
  have q5 := P4.2 3 _ rfl
  have f5 := V4.free 3 (by omega)
  rw [Nat.zero_add] at f5
  have B4 := bthen B1 hb4
  have HY := hide (And.intro y (And.intro P4 (And.intro R4 B4)))
  have hlt : w.heap.size < w4.heap.size := by have := hb4.size; omega
  have HS1 := hide hs1
  clear hs1 y hb4 P1 V1 R1 P4 V4 R4 B4 B1 HP
  go_upto_region 2 with fail
  obtain ⟨y, P4, R4, B4⟩ := unhide HY
  have hs1 := unhide HS1
  generalize hW : World.setCell w4 _ _ = w5
  have P5 : Held w5 w.heap.size [.int .i64 x.id, .int .i64 x.stamp, .int .i64 x.first, .slice a4 x.spans.length k4] := by rw [← hW]; exact P4.set 3 (.slice a4 x.spans.length k4) (by simp)
  have R5 : WrAt w5 (w.heap.size + 1) 0 4 := by rw [← hW]; exact R4.set _ _
  have t5 : Turn (fun k => k = w.heap.size) w4 w5 := by rw [← hW]; exact Turn.set w4 ⟨w.heap.size, 3, none⟩ _
  clear hW q5 f5 HY
  have t6 := putL_turn (w.heap.size + 1) 0 [.int .i64 x.id, .int .i64 x.stamp, .int .i64 x.first, .slice a4 x.spans.length k4] 0 w5
  have i6 := putL_at (b := w.heap.size + 1) (o := 0) [.int .i64 x.id, .int .i64 x.stamp, .int .i64 x.first, .slice a4 x.spans.length k4] 0 R5 (by omega) (by simp)
  have tt : Turn (fun k => k = w.heap.size ∨ k = w.heap.size + 1) w4 (putL (w.heap.size + 1) 0 [.int .i64 x.id, .int .i64 x.stamp, .int .i64 x.first, .slice a4 x.spans.length k4] 0 w5) := (t5.mono (fun k h => .inl h)).trans (t6.mono (fun k h => .inr h))
  have y6 := y.turn spanO_keeps tt (fun k hk e => by have := hk.1; omega)
  have B6 := B4.trans (tt.belowFrom B4.size (fun k hk => by omega))
  have hz := tt.size
  have HF := hide (And.intro i6 (And.intro y6 B6))
  have c1 := P5.inB
  clear t5 t6 i6 tt y y6 B6 P4 R4 P5 hs1
  go_wp2_with (first | (refine wpl_load rfl 44 _ rfl _ 0 rfl [.int .i64 x.id, .int .i64 x.stamp, .int .i64 x.first, .slice a4 x.spans.length k4] c1 rowITrail ?_) | (refine wpl_store_at rfl 44 _ _ rfl _ 0 [.int .i64 x.id, .int .i64 x.stamp, .int .i64 x.first, .slice a4 x.spans.length k4] rfl rfl R5 (by intro v hv; simp only [List.mem_cons, List.not_mem_nil, or_false] at hv; rcases hv with rfl | rfl | rfl | rfl <;> rfl) rowITrail ?_))
  obtain ⟨i6, y6, B6⟩ := unhide HF
  have hs1 := unhide HS1
  refine bodyPost_ret (v := .agg #[.int .i64 x.id, .int .i64 x.stamp, .int .i64 x.first, .slice a4 x.spans.length k4]) (res_row (t := 2) (cs := [.int .i64 x.id, .int .i64 x.stamp, .int .i64 x.first, .slice a4 x.spans.length k4]) rfl rfl i6 rowITrail) rfl ⟨[.int .i64 x.id, .int .i64 x.stamp, .int .i64 x.first, .slice a4 x.spans.length k4], rfl, ⟨_, rfl, y6.widens (fun k hk => ⟨by have := hk.1; omega, by have := hk.2; omega⟩)⟩, B6⟩
end Go.Proofs.Ytjhlammjnggghaa
namespace Go.Proofs.Ytjhlammjnggghaa
open Go.ChangeShapes Go.WideShapes Go.ChangeAt Go.RowKit Go.Sort
set_option linter.unusedVariables false
set_option maxRecDepth 100000

def noO : TrailD := ⟨0, 0, 0, []⟩
def BestAt (S : Nat → Prop) (w0 wk : World) (bb : Nat) (b : Option TrailD) : Prop := ∃ cs, Held wk bb cs ∧ WrAt wk bb 0 4 ∧ cs.length = 4 ∧ One cs ∧ trailR w0 S cs (b.getD noO) ∧ trailBulk (b.getD noO) ≤ 1048576
theorem BestAt.keep {S : Nat → Prop} {w0 wk w' : World} {bb : Nat} {b : Option TrailD} (h : BestAt S w0 wk bb b) (hb : Below wk.heap.size wk w') : BestAt S w0 w' bb b := by
  obtain ⟨cs, h1, h2, h3⟩ := h
  exact ⟨cs, h1.keep hb, h2.keep hb, h3⟩
theorem foldb_snoc {s : Option TrailD} {l : List TrailD} {k : Nat} (h : k < l.length) : (l.take (k + 1)).foldl bstep s = bstep ((l.take k).foldl bstep s) l[k] := by
  rw [List.take_succ_eq_append_getElem h, List.foldl_append]
  simp
theorem flatb_snoc {l : List StripeD} {k : Nat} (h : k < l.length) : ((l.take (k + 1)).flatMap StripeD.l).foldl bstep none = (l[k].l).foldl bstep (((l.take k).flatMap StripeD.l).foldl bstep none) := by
  rw [List.take_succ_eq_append_getElem h, List.flatMap_append, List.foldl_append]
  simp
/-- A trail is put into the box. -/
theorem BestAt.put {S : Nat → Prop} {w0 wk : World} {bb : Nat} {b b' : Option TrailD} (h : BestAt S w0 wk bb b) {ds : List Value} (h4 : ds.length = 4) (h1 : One ds) (hr : trailR w0 S ds (b'.getD noO)) (hb : trailBulk (b'.getD noO) ≤ 1048576) : BestAt S w0 (putL bb 0 ds 0 wk) bb b' := by
  obtain ⟨cs, hh, hw, _⟩ := h
  refine ⟨ds, ⟨Nat.lt_of_lt_of_le hh.1 (putL_turn bb 0 ds 0 wk).size, fun i v hv => ?_⟩, putL_wr _ _ hw, h4, h1, hr, hb⟩
  have := putL_at (b := bb) (o := 0) ds 0 hw (by omega) (by omega) i v hv
  simp only [Nat.zero_add] at this
  exact this
set_option maxHeartbeats 8000000 in
theorem specOldestOf (l : List StripeD) (S : Nat → Prop) (v : Value) (w : World) (h0 : LAt 2 stripeR w S v l) (b0 : bulkL stripeBulk l ≤ 1048576) :
    Calls Try.prog 23 #[v] w fun e w' => ∃ cs', e = .returned (.tuple #[.agg cs'.toArray, .bool (oldB l)]) ∧ trailO w' (Within w.heap.size w'.heap.size) cs' (oldT l) ∧ Below w.heap.size w w' := by
  obtain ⟨a, cap, rfl⟩ := h0.form
  have hl := h0.len
  have B1 := bnew w (.cells #[.int .i64 0, .int .i64 0, .int .i64 0, .slice none 0 0] 44)
  have R1 := WrAt.new w #[.int .i64 0, .int .i64 0, .int .i64 0, .slice none 0 0] 44 4 rfl
  have hs1 : (w.alloc (.cells #[.int .i64 0, .int .i64 0, .int .i64 0, .slice none 0 0] 44)).heap.size = w.heap.size + 1 := by simp
  have HA := hide (h0.keep stripeR_keeps B1)
  clear h0
  go_enter Try.func23, Try.ntmps23
  go_upto_region 1 with fail
  generalize World.alloc w _ = w1 at *
  have b2 := bnew w1 (.cells #[.int .i64 0, .int .i64 0, .int .i64 0, .slice none 0 0] 44)
  have P2 := Held.new w1 [.int .i64 0, .int .i64 0, .int .i64 0, .slice none 0 0] 44
  have hbt : BestAt S w1 (w1.alloc (.cells #[.int .i64 0, .int .i64 0, .int .i64 0, .slice none 0 0] 44)) w1.heap.size none := ⟨[.int .i64 0, .int .i64 0, .int .i64 0, .slice none 0 0], P2, WrAt.new w1 #[.int .i64 0, .int .i64 0, .int .i64 0, .slice none 0 0] 44 4 rfl, rfl, (by intro v hv; simp only [List.mem_cons, List.not_mem_nil, or_false] at hv; rcases hv with rfl | rfl | rfl | rfl <;> rfl), no_trailO _ _, by simp [noO, trailBulk, bulkL]⟩
  have HBT := hide hbt
  clear P2 hbt
  go_upto_region 2 with (first | (refine wpl_store_new rfl _ _ _ rfl _ [.int .i64 0, .int .i64 0, .int .i64 0, .slice none 0 0] rfl rfl ?_ (by intro v hv; simp only [List.mem_cons, List.not_mem_nil, or_false] at hv; rcases hv with rfl | rfl | rfl | rfl <;> rfl) rowITrail ?_; rfl))
  generalize World.alloc w1 _ = w2 at *
  obtain ⟨bb, hbb⟩ : ∃ bb, bb = w.heap.size + 1 := ⟨_, rfl⟩
  have HBT2 : Hid (BestAt S w1 w2 bb none) := hide (by rw [show bb = w1.heap.size by omega]; exact unhide HBT)
  have HBB : Hid (w1.heap.size ≤ bb) := hide (by omega)
  rw [← hbb]
  clear HBT hbb hs1
  go_wp2
  go_loopw [5, 6] (fun f i wk => ∃ k : Nat, k ≤ l.length ∧ i = .int .i64 k ∧ f = .bool (((l.take k).flatMap StripeD.l).foldl bstep none).isSome ∧ Hid (BestAt S w1 wk bb (((l.take k).flatMap StripeD.l).foldl bstep none)) ∧ Below w1.heap.size w1 wk) (fun _ i _ => l.length - (intOf i).toNat)
  case atStart => exact ⟨0, Nat.zero_le _, rfl, rfl, HBT2, b2⟩
  case round =>
    obtain ⟨k, hk, rfl, rfl, hbt, hbl⟩ := hrel
    clear HBT2 b2
    by_cases hlt : k < l.length
    · have hki : (k : Int) < (l.length : Int) := by omega
      obtain ⟨b, q, cs, rfl, hbk, hSb, hcs, hin⟩ := (unhide HA).at k hlt
      have hXb : stripeBulk l[k] ≤ 1048576 := by have := bulkL_mem stripeBulk (List.getElem_mem hlt); omega
      have HSN := hide (flatb_snoc hlt)
      generalize l[k] = X at *
      obtain ⟨a1, k1, z1, g1⟩ := stripeR_c1 hcs
      have HC := hide (And.intro hbk (hin 1 _ z1))
      have HG := hide g1
      have hl1 := g1.len
      clear hcs hin z1 g1
      generalize hB0 : ((l.take k).flatMap StripeD.l).foldl bstep none = B0 at *
      clear hB0
      go_wp2
      go_loopw [5, 7] (fun f i wk => ∃ j : Nat, j ≤ X.l.length ∧ i = .int .i64 j ∧ f = .bool ((X.l.take j).foldl bstep B0).isSome ∧ Hid (BestAt S w1 wk bb ((X.l.take j).foldl bstep B0)) ∧ Below w1.heap.size w1 wk) (fun _ i _ => X.l.length - (intOf i).toNat)
      case atStart => exact ⟨0, Nat.zero_le _, rfl, rfl, hbt, hbl⟩
      case round =>
        obtain ⟨j, hj, rfl, rfl, hbt2, hbl2⟩ := hrel
        clear hbt hbl
        have cc : wr.cell? ⟨b, q + k * 2 + 1, none⟩ = some (.slice a1 X.l.length k1) := by rw [hbl2.cell (unhide HC).1]; exact (unhide HC).2
        have hbw : b < wr.heap.size := Nat.lt_of_lt_of_le (unhide HC).1 hbl2.size
        by_cases hlt2 : j < X.l.length
        · have hji : (j : Int) < (X.l.length : Int) := by omega
          obtain ⟨c, r, ds, rfl, hck, hSc, hds0, hjn0⟩ := (unhide HG).at j hlt2
          have hjn := hjn0.turn hck (Below.turn hbl2) (fun e => e)
          have hcw : c < wr.heap.size := Nat.lt_of_lt_of_le hck hbl2.size
          have hYb : trailBulk X.l[j] ≤ 1048576 := by have := bulkL_mem trailBulk (List.getElem_mem hlt2); unfold stripeBulk at hXb; omega
          have hrw : RowT Try.prog 44 ds.length := by rw [trailR_len hds0]; exact rowITrail
          have HTS := hide (foldb_snoc (s := B0) hlt2)
          generalize X.l[j] = Y at *
          have on2 := trailR_one hds0
          have HL2 := hide (trailR_len hds0)
          have HD := hide hds0
          clear hjn0 hds0
          generalize hC0 : (X.l.take j).foldl bstep B0 = C0 at *
          clear hC0
          have mixed : Try.prog.follows .mixedOrders = true := by kernel_rfl
          obtain ⟨cs9, P9, W9, l9, on9, r9, bk9⟩ := unhide hbt2
          have hrw9 : RowT Try.prog 44 cs9.length := by rw [l9]; exact rowITrail
          have P9b := P9.inB
          have hP9 := P9.1
          cases C0 with
          | none =>
            have HT1 : Hid (bstep none Y = some Y) := hide rfl
            simp only [Option.isSome_none]
            clear P9 r9 bk9 on9 l9 W9
            go_upto_region 9 with fail
            refine wq_region (by assumption) (by kernel_rfl) ?_
            refine q_take (by kernel_rfl) (fun K hK => ?_)
            go_simp
            refine hK _ ?_
            clear hK K
            refine q_take (by kernel_rfl) (fun K hK => ?_)
            go_simp
            refine hK _ ?_
            clear hK K
            refine q_take (by kernel_rfl) (fun K hK => ?_)
            go_simp
            refine hK _ ?_
            clear hK K
            refine q_skipK (by kernel_rfl) (fun K hK => ?_)
            simp only [Act.put, List.setIfInBounds_toArray, List.set_cons_zero, List.set_cons_succ]
            refine hK _ ?_
            clear hK K
            refine q_skipK (by kernel_rfl) (fun K hK => ?_)
            simp only [Act.put, List.setIfInBounds_toArray, List.set_cons_zero, List.set_cons_succ]
            refine hK _ ?_
            clear hK K
            refine q_skipK (by kernel_rfl) (fun K hK => ?_)
            simp only [Act.put, List.setIfInBounds_toArray, List.set_cons_zero, List.set_cons_succ]
            refine hK _ ?_
            clear hK K
            refine q_skipK (by kernel_rfl) (fun K hK => ?_)
            simp only [Act.put, List.setIfInBounds_toArray, List.set_cons_zero, List.set_cons_succ]
            refine hK _ ?_
            clear hK K
            refine q_skipK (by kernel_rfl) (fun K hK => ?_)
            simp only [Act.put, List.setIfInBounds_toArray, List.set_cons_zero, List.set_cons_succ]
            refine hK _ ?_
            clear hK K
            refine q_skipK (by kernel_rfl) (fun K hK => ?_)
            simp only [Act.put, List.setIfInBounds_toArray, List.set_cons_zero, List.set_cons_succ]
            refine hK _ ?_
            clear hK K
            refine q_skipK (by kernel_rfl) (fun K hK => ?_)
            simp only [Act.put, List.setIfInBounds_toArray, List.set_cons_zero, List.set_cons_succ]
            refine hK _ ?_
            clear hK K
            refine q_skipK (by kernel_rfl) (fun K hK => ?_)
            simp only [Act.put, List.setIfInBounds_toArray, List.set_cons_zero, List.set_cons_succ]
            refine hK _ ?_
            clear hK K
            refine q_skipK (by kernel_rfl) (fun K hK => ?_)
            simp only [Act.put, List.setIfInBounds_toArray, List.set_cons_zero, List.set_cons_succ]
            refine hK _ ?_
            clear hK K
            refine q_skipK (by kernel_rfl) (fun K hK => ?_)
            simp only [Act.put, List.setIfInBounds_toArray, List.set_cons_zero, List.set_cons_succ]
            refine hK _ ?_
            clear hK K
            refine q_take (by kernel_rfl) (fun K hK => ?_)
            go_simp
            refine hK _ ?_
            clear hK K
            refine wq_nil ?_
            intro _ hw9
            obtain ⟨⟨dq, osq⟩, hw9'⟩ := hw9
            subst hw9'
            have hHeld := below_regrown wr dq osq
            generalize Go.Sort.grow (redrawn wr dq) osq = wq at *
            clear mixed hrw9 P9b
            have hbt3 := (unhide hbt2).keep hHeld
            have hbl3 := hbl2.trans (hHeld.mono hbl2.size)
            have hjn3 := hjn.turn hcw (Below.turn hHeld) (fun e => e)
            have cc3 : wq.cell? ⟨b, q + k * 2 + 1, none⟩ = some (.slice (some ⟨c, r, none⟩) X.l.length k1) := by rw [hHeld.cell hbw]; exact cc
            have hput := hbt3.put (b' := some Y) (unhide HL2) on2 (unhide HD) hYb
            have hw9 : WrAt wq bb 0 ds.length := by rw [unhide HL2]; obtain ⟨_, _, hw, _⟩ := hbt3; exact hw
            have hbp := hbl3.trans ((putL_turn bb 0 ds 0 wq).belowFrom hbl3.size (fun k hk => by have e2 : k = bb := hk; have := unhide HBB; omega))
            have HP := hide (And.intro hput hbp)
            clear hput hbp hbt3 hjn cc hHeld hbt2
            go_wp2_with (first | (refine wpl_load rfl 44 _ rfl _ _ rfl ds hjn3 hrw ?_) | (refine wpl_store_at rfl 44 _ _ rfl bb 0 ds rfl rfl hw9 on2 hrw ?_))
            go_roundw
            case rel => exact ⟨j + 1, by omega, by go_num, by rw [unhide HTS, unhide HT1]; rfl, by rw [unhide HTS, unhide HT1]; exact hide (unhide HP).1, (unhide HP).2⟩
            case measure => simp [intOf]; omega
          | some x =>
            simp only [Option.isSome_some]
            have CO := hide (fun wx (hb : Below wr.heap.size wr wx) => specOlder Y x S ds S cs9 wx (trailR_keeps _ _ S None1 ds _ (Below.turn (hbl2.trans (hb.mono hbl2.size))) none_off (unhide HD)) hYb (trailR_keeps _ _ S None1 cs9 _ (Below.turn (hbl2.trans (hb.mono hbl2.size))) none_off r9) bk9)
            clear P9 r9 bk9 on9 l9 W9
            go_upto_region 9 with fail
            cases ho : olderB Y x with
            | false =>
              have HT1 : Hid (bstep (some x) Y = some x) := hide (by simp [bstep, ho])
              rw [ho] at CO
              clear ho
              refine wq_region (by assumption) (by kernel_rfl) ?_
              refine q_take (by kernel_rfl) (fun K hK => ?_)
              go_simp
              refine hK _ ?_
              clear hK K
              refine q_take (by kernel_rfl) (fun K hK => ?_)
              go_simp
              refine hK _ ?_
              clear hK K
              refine q_take (by kernel_rfl) (fun K hK => ?_)
              go_simp
              refine hK _ ?_
              clear hK K
              refine q_take (by kernel_rfl) (fun K hK => ?_)
              go_simp
              refine hK _ ?_
              clear hK K
              refine q_take (by kernel_rfl) (fun K hK => ?_)
              go_simp
              refine hK _ ?_
              clear hK K
              refine q_take (by kernel_rfl) (fun K hK => ?_)
              go_simp
              refine hK _ ?_
              clear hK K
              refine q_take (by kernel_rfl) (fun K hK => ?_)
              go_simp
              refine hK _ ?_
              clear hK K
              refine q_cell (by kernel_rfl) 28 _ rfl b (q + k * 2 + 1) rfl (.slice (some ⟨c, r, none⟩) X.l.length k1) cc plainTrailsO (fun K hK => ?_)
              simp only [Act.put, List.setIfInBounds_toArray, List.set_cons_zero, List.set_cons_succ]
              refine hK _ ?_
              clear hK K
              refine q_take (by kernel_rfl) (fun K hK => ?_)
              go_simp
              refine hK _ ?_
              clear hK K
              refine q_take (by kernel_rfl) (fun K hK => ?_)
              go_simp
              refine hK _ ?_
              clear hK K
              refine q_load (by kernel_rfl) 44 _ rfl c (r + j * 4) rfl ds hcw hjn hrw (fun K hK => ?_)
              simp only [Act.put, List.setIfInBounds_toArray, List.set_cons_zero, List.set_cons_succ]
              refine hK _ ?_
              clear hK K
              refine q_load (by kernel_rfl) 44 _ rfl bb 0 rfl cs9 hP9 P9b hrw9 (fun K hK => ?_)
              simp only [Act.put, List.setIfInBounds_toArray, List.set_cons_zero, List.set_cons_succ]
              refine hK _ ?_
              clear hK K
              refine q_take (by kernel_rfl) (fun K hK => ?_)
              go_simp
              apply Exists.intro
              refine ⟨fun _ => ?_, hK _ ?_⟩
              exact Calls.regrown_of (unhide CO _ (below_regrown _ _ _))
              clear hK K
              refine q_take (by kernel_rfl) (fun K hK => ?_)
              go_simp
              refine hK _ ?_
              clear hK K
              refine wq_nil ?_
              intro _ hw9
              obtain ⟨⟨dq, osq⟩, hw9'⟩ := hw9
              subst hw9'
              have hHeld := below_regrown wr dq osq
              generalize Go.Sort.grow (redrawn wr dq) osq = wq at *
              clear mixed hrw9 P9b
              have hbt3 := (unhide hbt2).keep hHeld
              have hbl3 := hbl2.trans (hHeld.mono hbl2.size)
              clear hjn cc hHeld hbt2
              go_wp2
              go_roundw
              case rel => exact ⟨j + 1, by omega, by go_num, by rw [unhide HTS, unhide HT1]; rfl, by rw [unhide HTS, unhide HT1]; exact hide hbt3, hbl3⟩
              case measure => simp [intOf]; omega
            | true =>
              have HT1 : Hid (bstep (some x) Y = some Y) := hide (by simp [bstep, ho])
              rw [ho] at CO
              clear ho
              refine wq_region (by assumption) (by kernel_rfl) ?_
              refine q_take (by kernel_rfl) (fun K hK => ?_)
              go_simp
              refine hK _ ?_
              clear hK K
              refine q_take (by kernel_rfl) (fun K hK => ?_)
              go_simp
              refine hK _ ?_
              clear hK K
              refine q_take (by kernel_rfl) (fun K hK => ?_)
              go_simp
              refine hK _ ?_
              clear hK K
              refine q_take (by kernel_rfl) (fun K hK => ?_)
              go_simp
              refine hK _ ?_
              clear hK K
              refine q_take (by kernel_rfl) (fun K hK => ?_)
              go_simp
              refine hK _ ?_
              clear hK K
              refine q_take (by kernel_rfl) (fun K hK => ?_)
              go_simp
              refine hK _ ?_
              clear hK K
              refine q_take (by kernel_rfl) (fun K hK => ?_)
              go_simp
              refine hK _ ?_
              clear hK K
              refine q_cell (by kernel_rfl) 28 _ rfl b (q + k * 2 + 1) rfl (.slice (some ⟨c, r, none⟩) X.l.length k1) cc plainTrailsO (fun K hK => ?_)
              simp only [Act.put, List.setIfInBounds_toArray, List.set_cons_zero, List.set_cons_succ]
              refine hK _ ?_
              clear hK K
              refine q_take (by kernel_rfl) (fun K hK => ?_)
              go_simp
              refine hK _ ?_
              clear hK K
              refine q_take (by kernel_rfl) (fun K hK => ?_)
              go_simp
              refine hK _ ?_
              clear hK K
              refine q_load (by kernel_rfl) 44 _ rfl c (r + j * 4) rfl ds hcw hjn hrw (fun K hK => ?_)
              simp only [Act.put, List.setIfInBounds_toArray, List.set_cons_zero, List.set_cons_succ]
              refine hK _ ?_
              clear hK K
              refine q_load (by kernel_rfl) 44 _ rfl bb 0 rfl cs9 hP9 P9b hrw9 (fun K hK => ?_)
              simp only [Act.put, List.setIfInBounds_toArray, List.set_cons_zero, List.set_cons_succ]
              refine hK _ ?_
              clear hK K
              refine q_take (by kernel_rfl) (fun K hK => ?_)
              go_simp
              apply Exists.intro
              refine ⟨fun _ => ?_, hK _ ?_⟩
              exact Calls.regrown_of (unhide CO _ (below_regrown _ _ _))
              clear hK K
              refine q_take (by kernel_rfl) (fun K hK => ?_)
              go_simp
              refine hK _ ?_
              clear hK K
              refine wq_nil ?_
              intro _ hw9
              obtain ⟨⟨dq, osq⟩, hw9'⟩ := hw9
              subst hw9'
              have hHeld := below_regrown wr dq osq
              generalize Go.Sort.grow (redrawn wr dq) osq = wq at *
              clear mixed hrw9 P9b
              have hbt3 := (unhide hbt2).keep hHeld
              have hbl3 := hbl2.trans (hHeld.mono hbl2.size)
              have hjn3 := hjn.turn hcw (Below.turn hHeld) (fun e => e)
              have cc3 : wq.cell? ⟨b, q + k * 2 + 1, none⟩ = some (.slice (some ⟨c, r, none⟩) X.l.length k1) := by rw [hHeld.cell hbw]; exact cc
              have hput := hbt3.put (b' := some Y) (unhide HL2) on2 (unhide HD) hYb
              have hw9 : WrAt wq bb 0 ds.length := by rw [unhide HL2]; obtain ⟨_, _, hw, _⟩ := hbt3; exact hw
              have hbp := hbl3.trans ((putL_turn bb 0 ds 0 wq).belowFrom hbl3.size (fun k hk => by have e2 : k = bb := hk; have := unhide HBB; omega))
              have HP := hide (And.intro hput hbp)
              clear hput hbp hbt3 hjn cc hHeld hbt2
              go_wp2_with (first | (refine wpl_load rfl 44 _ rfl _ _ rfl ds hjn3 hrw ?_) | (refine wpl_store_at rfl 44 _ _ rfl bb 0 ds rfl rfl hw9 on2 hrw ?_))
              go_roundw
              case rel => exact ⟨j + 1, by omega, by go_num, by rw [unhide HTS, unhide HT1]; rfl, by rw [unhide HTS, unhide HT1]; exact hide (unhide HP).1, (unhide HP).2⟩
              case measure => simp [intOf]; omega
        · have hji : ¬ (j : Int) < (X.l.length : Int) := by omega
          obtain rfl : j = X.l.length := by omega
          rw [List.take_length] at hbt2 ⊢
          rw [← unhide HSN] at hbt2 ⊢
          clear HSN
          go_wp2
          go_roundw
          case rel => exact ⟨k + 1, by omega, by go_num, rfl, hbt2, hbl2⟩
          case measure => simp [intOf]; omega
    · have hki : ¬ (k : Int) < (l.length : Int) := by omega
      obtain rfl : k = l.length := by omega
      rw [List.take_length] at hbt ⊢
      rw [show (l.flatMap StripeD.l).foldl bstep none = oldO l from rfl] at hbt ⊢
      obtain ⟨cs9, P9, W9, l9, on9, r9, bk9⟩ := unhide hbt
      have hrw9 : RowT Try.prog 44 cs9.length := by rw [l9]; exact rowITrail
      have P9b := P9.inB
      have rc := trailR_keeps _ _ S None1 cs9 _ (Below.turn hbl) none_off r9
      have R3 := R1.keep hbl
      have B3 := bthen B1 hbl
      clear hbt P9 W9 l9 on9 r9 hbl
      have HRC := hide rc
      clear rc
      go_wp2_with (first | (refine wpl_load rfl 44 _ rfl _ 0 rfl cs9 P9b hrw9 ?_))
      refine (specL10Copy ((oldO l).getD noO) S cs9 wr (unhide HRC) bk9).mono ?_
      rintro e w6 ⟨cs4, rfl, yy, hb6⟩
      have R6 := R3.keep hb6
      have B6 := bthen B3 hb6
      have hs5 := B3.size
      have hlt5 := R3.1
      clear P9b HRC R3 B3 hb6
      have hln := trailO_len yy
      have on4 := trailR_one (trailO_read _ _ _ _ yy)
      have hri : RowT Try.prog 44 cs4.length := by rw [hln]; exact rowITrail
      have R7 : WrAt w6 w.heap.size 0 cs4.length := by rw [hln]; exact R6
      have tt := putL_turn w.heap.size 0 cs4 0 w6
      have y6 := trailO_keeps _ _ _ _ _ _ tt (fun k hk e => by have := hk.1; have e2 : k = w.heap.size := e; omega) yy
      have i6 := putL_at (b := w.heap.size) (o := 0) cs4 0 R7 (by omega) (by omega)
      have B7 := B6.trans (tt.belowFrom B6.size (fun k hk => by have e2 : k = w.heap.size := hk; omega))
      have hz6 := tt.size
      have HF := hide (And.intro y6 (And.intro i6 B7))
      have hs6 := hide hs5
      clear yy tt y6 i6 B7 hln R6
      go_wp2_with (first | (refine wpl_store_at rfl 44 _ _ rfl _ 0 cs4 rfl rfl R7 on4 hri ?_))
      obtain ⟨y6, i6, B7⟩ := unhide HF
      refine bodyPost_ret (v := .tuple #[.agg cs4.toArray, .bool (oldO l).isSome]) (res_row2O (t := 2) (u := 3) (cs := cs4) rfl rfl rfl i6 hri) rfl ⟨cs4, rfl, ?_, B7⟩
      exact trailO_widens _ _ _ _ _ (fun k hk => ⟨by have := hk.1; omega, by have := hk.2; omega⟩) y6
end Go.Proofs.Ytjhlammjnggghaa
namespace Go.Proofs.Ytjhlammjnggghaa
open Go.ChangeShapes Go.WideShapes Go.ChangeAt Go.RowKit
set_option linter.unusedVariables false
set_option maxRecDepth 100000

theorem best_mem (P : TrailD → Prop) : ∀ (ts : List TrailD) (s : Option TrailD), (∀ x, s = some x → P x) → (∀ x ∈ ts, P x) → ∀ x, ts.foldl bstep s = some x → P x
  | [], s, hs, _, x, hx => hs x hx
  | t :: r, s, hs, ht, x, hx => by
    refine best_mem P r (bstep s t) (fun y hy => ?_) (fun y hy => ht y (List.mem_cons_of_mem _ hy)) x hx
    cases s with
    | none =>
      have e : t = y := by simpa [bstep] using hy
      subst e
      exact ht _ (List.mem_cons_self ..)
    | some z =>
      by_cases ho : olderB t z = true
      · have e : t = y := by simpa [bstep, ho] using hy
        subst e
        exact ht _ (List.mem_cons_self ..)
      · have e : z = y := by simpa [bstep, ho] using hy
        subst e
        exact hs _ rfl
theorem old_bulk (l : List StripeD) (h : bulkL stripeBulk l ≤ 1048576) : trailBulk (oldT l) ≤ 1048576 := by
  unfold oldT
  cases ho : oldO l with
  | none => simp [trailBulk, bulkL]
  | some x =>
    refine best_mem (fun x => trailBulk x ≤ 1048576) (l.flatMap StripeD.l) none (fun x hx => by cases hx) (fun y hy => ?_) x ho
    obtain ⟨s, hs, hys⟩ := List.mem_flatMap.1 hy
    have h1 := bulkL_mem stripeBulk hs
    have h2 := bulkL_mem trailBulk hys
    have e : stripeBulk s = bulkL trailBulk s.l := rfl
    omega
theorem old_cnt (l : List StripeD) (h : bulkL stripeBulk l ≤ 1048576) : cntL spanCnt (oldT l).spans ≤ 16777216 := by
  have hb := old_bulk l h
  have := spanS_cnt2 (oldT l).spans
  have e : trailBulk (oldT l) = bulkL spanBulk (oldT l).spans := rfl
  omega
end Go.Proofs.Ytjhlammjnggghaa
