/-
  What a walk through drawing functions wants: worlds, boxes, what is grown.
-/
import Derived.Test.YtjhlammjnggghaaGrowT
import Derived.Test.YtjhlammjnggghaaCopy0
namespace Go.Proofs.Ytjhlammjnggghaa
open Go.ChangeShapes Go.WideShapes Go.ChangeAt Go.RowKit
set_option linter.unusedVariables false
set_option maxRecDepth 100000
variable {B : Nat}

theorem Turns.new {b : Nat} {x y z : World} (h : Turns b x y) {S : Nat → Prop} (k : Turn S y z) (hS : ∀ q, S q → x.heap.size ≤ q) : Turns b x z :=
  ⟨k.1.trans h.os, k.2.1.trans h.tape, k.2.2.1.trans h.output, Nat.le_trans h.size k.size, fun i hi hb => (k.2.2.2.2 i (Nat.lt_of_lt_of_le hi h.size) (fun e => by have := hS i e; omega)).trans (h.block i hi hb)⟩
theorem Cur.new {w w' : World} {b : Nat} (hc : Cur B w b) {S : Nat → Prop} (k : Turn S w w') (hS : ∀ q, S q → B ≤ q) : Cur B w' b := hc.keepB (k.belowFrom hc.high hS)
theorem Turns.allocs {b : Nat} {w : World} (o : Obj) : Turns b w (w.alloc o) := (Turns.refl _ _).alloc o
/-- One more element behind what was grown: the world behind the call, the literal's block, the append. -/
theorem GrowL.app1 {α : Type} {N : Nat} {C : World → (Nat → Prop) → List Value → α → Prop} (hC : Keeps C) {t tl ty : TypeId} {i0 : TypeInfo} {z : Value} {bytes base : Nat} (hu : Try.prog.underlying tl = some (.slice t)) (hi : Try.prog.info? t = some i0) (hz0 : i0.zero = some z) (hz1 : i0.size = N) (hz2 : i0.bytes = bytes) (hzc : z.cells.size = N) (hN : 0 < N)
    {w : World} {v : Value} {l : List α} (h : GrowL N C t base w v l) (hbase : base ≤ w.heap.size) {w2 : World} {U : Nat → Prop} (hb : Turn U w w2) (hU : ∀ k, U k → k < base) {S : Nat → Prop} {cs : List Value} {x : α} (hx : C w2 S cs x) (hS : ∀ k, S k → w.heap.size ≤ k ∧ k < w2.heap.size) (hn : cs.length = N) (h1 : One cs)
    (hll : (l.length + 1) * bytes ≤ 140737488355328) (hlm : l.length + 1 ≤ maxLen) :
    ∃ v' w', (Builtin.append_ #[tl, tl] ty #[v, .slice (some ⟨w2.heap.size, 0, none⟩) 1 1]).run Try.prog (w2.alloc (.cells cs.toArray t)) = .ok v' w' ∧ GrowL N C t base w' v' (l ++ [x]) ∧ (w2.alloc (.cells cs.toArray t)).grownBy w' v.ownBlock ∧ (∀ k, v.ownBlock = some k → base ≤ k ∧ k < w.heap.size) ∧ (v'.ownBlock = v.ownBlock ∨ v'.ownBlock = some (w2.heap.size + 1)) ∧ ∃ a c, v' = .slice a (l.length + 1) c := by
  obtain ⟨css, T, gx⟩ := h
  have hz := hb.size
  have hk : Turn U w (w2.alloc (.cells cs.toArray t)) := hb.trans ((Below.turn (bnew _ _)).mono (fun q h => False.elim h))
  have hrow := (gx.keepT hC hk hU).row
  obtain ⟨v', w', hr, how, hg, hv⟩ := run_append2 (P := Try.prog) (w2.alloc (.cells cs.toArray t)) base tl ty t i0 z N bytes hu hi hz0 hz1 hz2 hzc hN v l.length _ hrow ⟨w2.heap.size, 0, none⟩ 1 1 cs (by omega) (by
    intro j u hj
    have e : (⟨w2.heap.size, 0, none⟩ : Addr).add j = ⟨w2.heap.size, j, none⟩ := by unfold Addr.add; split <;> simp_all
    rw [e, World.cell?_alloc_at _ _ _ _ rfl]
    simpa using hj) h1 hlm hll (by simp; omega)
  have hx2 := hC _ _ _ None1 _ _ (Below.turn (bnew w2 (.cells cs.toArray t))) none_off hx
  have hsz : (w2.alloc (.cells cs.toArray t)).heap.size = w2.heap.size + 1 := by simp
  refine ⟨v', w', hr, gx.stepT hC hbase hk hU hx2 (fun k hk => ⟨(hS k hk).1, by have := (hS k hk).2; omega⟩) hn how hg (by rcases hv with h | h; exact .inl h; exact .inr h), hg, fun k e => gx.row.lt k e, by rw [hsz] at hv; exact hv, ?_⟩
  rcases how.2 with ⟨rfl, h0⟩ | ⟨g, cap, cur, rfl, _⟩
  · omega
  · exact ⟨_, cap, rfl⟩
theorem wpl_app {P : Program} {w : World} {ops : Array Oper} {rest : List Oper} {o : Oper} {a : Act} {Q : Exit → Act → World → Prop} {s x : Operand} {t : TypeId} {v u v' : Value} {w' : World} (hgd : o.guard = none) (ho : o.op = .call { callee := .builtin .append, args := #[s, x], argTypes := #[t, t] })
    (hs : a.eval s = v) (hx : a.eval x = u) (hr : (Builtin.append_ #[t, t] o.type #[v, u]).run P w = .ok v' w') (h : wpList P ops Q rest (a.put o.dst v') w') : wpList P ops Q (o :: rest) a w := by
  refine wpList_plain hgd fun K hK => ?_
  unfold Oper.wp execOp
  simp only [ho, resolve, invoke, builtin, Sem.run_bind, Sem.run_pure, Result.andThen_ok, List.map_toArray, List.map_cons, List.map_nil, hs, hx, hr]
  exact hK _ _ h
end Go.Proofs.Ytjhlammjnggghaa
