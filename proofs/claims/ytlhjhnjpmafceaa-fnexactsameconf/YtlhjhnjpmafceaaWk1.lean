/-
  A walk through rules as it lies in memory; how many bits a number has; what a rule has beside those in it.
-/
import Derived.Test.YtlhjhnjpmafceaaWk0
import Derived.Test.YtlhjhnjpmafceaaGrow2
import Derived.Test.YtlhjhnjpmafceaaAbs2
import Derived.Test.YtlhjhnjpmafceaaBits
import Derived.BigRegion
namespace Go.Proofs.Ytlhjhnjpmafceaa
open Go.ChangeShapes Go.WideShapes Go.ChangeAt Go.RowKit
set_option linter.unusedVariables false
set_option maxRecDepth 100000

structure BasD where
  kind : Int
  n : Int
  key : ByteArray
  text : ByteArray
  rules : Int
def basD (x : PolD) : BasD := ⟨x.kind, x.n, x.key, x.text, x.l.length⟩
def basC (b : BasD) : List Value := [.int .i64 b.kind, .int .i64 b.n, .string b.key, .string b.text, .int .i64 b.rules]
theorem basC_one (b : BasD) : One (basC b) := by
  intro v hv
  simp only [basC, List.mem_cons, List.not_mem_nil, or_false] at hv
  rcases hv with rfl | rfl | rfl | rfl | rfl <;> rfl
theorem off_setCell (w : World) (g i : Nat) (cs : Array Value) (t : TypeId) (v : Value) (h : w.heap[g]? = some (.cells cs t (0, 0))) : (w.setCell ⟨g, i, none⟩ v).heap[g]? = some (.cells (cs.setIfInBounds i v) t (0, 0)) := by
  obtain ⟨hlt, hk⟩ := Array.getElem?_eq_some_iff.1 h
  show (w.heap.modify g _)[g]? = _
  rw [Array.getElem?_eq_getElem (by rw [Array.size_modify]; exact hlt), Array.getElem_modify_self, hk]
  rfl
/-- The walk whose struct is block B and whose row is block g. -/
structure WalkX (P : TypeId × TypeId) (w : World) (S T : Nat → Prop) (B g cap : Nat) (cur : Array Value) (us : List Value) (st : List (List PolD)) (b : BasD) : Prop where
  blk : w.heap[B]? = some (.cells (#[.slice (some ⟨g, 0, none⟩) us.length cap] ++ (basC b).toArray) P.1 (0, 0))
  row : w.heap[g]? = some (.cells cur P.2 (0, 0))
  cap1 : us.length ≤ cap
  cap2 : cap ≤ maxLen
  size : cur.size = cap
  take : cur.toList.take us.length = us.reverse
  stk : Stk w S us st
  chain : Chain st
  deep : us.length + (leftS st).length ≤ 1048578
  tB : T B
  tg : T g
  sT : ∀ k, S k → ¬ T k
  tl : ∀ k, T k → k < w.heap.size
  sl : ∀ k, S k → k < w.heap.size
def WalkS (P : TypeId × TypeId) (w : World) (S T : Nat → Prop) (B : Nat) (st : List (List PolD)) (b : BasD) : Prop := ∃ g cap cur us, WalkX P w S T B g cap cur us st b
section
variable {P : TypeId × TypeId} {w w' : World} {S T U : Nat → Prop} {B g cap : Nat} {cur : Array Value} {us : List Value} {st : List (List PolD)} {b : BasD}
theorem WalkX.keep (h : WalkX P w S T B g cap cur us st b) (ht : Turn U w w') (hT : ∀ k, T k → ¬ U k) (hS : ∀ k, S k → ¬ U k) : WalkX P w' S T B g cap cur us st b :=
  { blk := (ht.2.2.2.2 B (h.tl B h.tB) (hT B h.tB)).trans h.blk, row := (ht.2.2.2.2 g (h.tl g h.tg) (hT g h.tg)).trans h.row, cap1 := h.cap1, cap2 := h.cap2, size := h.size, take := h.take, stk := h.stk.keep ht hS, chain := h.chain, deep := h.deep, tB := h.tB, tg := h.tg, sT := h.sT, tl := fun k hk => Nat.lt_of_lt_of_le (h.tl k hk) ht.size, sl := fun k hk => Nat.lt_of_lt_of_le (h.sl k hk) ht.size }
theorem WalkS.keep (h : WalkS P w S T B st b) (ht : Turn U w w') (hT : ∀ k, T k → ¬ U k) (hS : ∀ k, S k → ¬ U k) : WalkS P w' S T B st b := by
  obtain ⟨g, cap, cur, us, h⟩ := h
  exact ⟨g, cap, cur, us, h.keep ht hT hS⟩
theorem WalkX.below (h : WalkX P w S T B g cap cur us st b) (hb : Below w.heap.size w w') : WalkX P w' S T B g cap cur us st b := h.keep (U := None1) (Below.turn hb) (fun _ _ e => e) (fun _ _ e => e)
theorem WalkX.cellB (h : WalkX P w S T B g cap cur us st b) (i : Nat) (v : Value) (hv : (Value.slice (some ⟨g, 0, none⟩) us.length cap :: basC b)[i]? = some v) : w.cell? ⟨B, i, none⟩ = some v := by
  unfold World.cell?
  simp only [h.blk]
  simpa using hv
theorem WalkX.freeB (h : WalkX P w S T B g cap cur us st b) (i : Nat) : w.frozen? ⟨B, i, none⟩ = false := by
  unfold World.frozen?
  simp [h.blk]
theorem WalkX.freeG (h : WalkX P w S T B g cap cur us st b) (i : Nat) : w.frozen? ⟨g, i, none⟩ = false := by
  unfold World.frozen?
  simp [h.row]
theorem WalkX.cellG (h : WalkX P w S T B g cap cur us st b) (i : Nat) (hi : i < us.length) : w.cell? ⟨g, i, none⟩ = some (us[us.length - 1 - i]'(by omega)) := by
  have h1 : (cur.toList.take us.length)[i]? = some (us[us.length - 1 - i]'(by omega)) := by
    rw [h.take, List.getElem?_eq_getElem (by rw [List.length_reverse]; exact hi), List.getElem_reverse]
  rw [List.getElem?_take_of_lt hi] at h1
  unfold World.cell?
  simp only [h.row]
  simpa using h1
theorem WalkX.ne (h : WalkX P w S T B g cap cur us st b) (hP : P.1 ≠ P.2) : B ≠ g := by
  intro e
  subst e
  have := h.blk.symm.trans h.row
  injection this with this
  injection this with _ e _
  exact hP e
end
theorem implBasicOf (x : PolD) (S : Nat → Prop) (cs : List Value) (w : World) (h : polR w S cs x) :
    Calls Try.prog 51 #[.agg cs.toArray] w fun e w' => e = .returned (.agg (basC (basD x)).toArray) ∧ Below w.heap.size w w' := by
  obtain ⟨s0, rfl, q0, q1, g0⟩ := polR_open.1 h
  obtain ⟨a0, k0, rfl⟩ := g0.form
  have hl := g0.len
  clear h g0
  have hb := bnew w (.cells #[.int .i64 x.kind, .int .i64 x.n, .string x.key, .string x.text, .slice a0 x.l.length k0] 29)
  go_enter Try.func51, Try.ntmps51
  go_wp2
  refine bodyPost_ret (v := .agg #[.int .i64 x.kind, .int .i64 x.n, .string x.key, .string x.text, .int .i64 x.l.length]) (by simp [results, Try.results51, go_sem, *]) rfl ⟨rfl, ?_⟩
  (repeat (first | with_reducible assumption | with_reducible exact Below.refl _ _ | with_reducible refine Below.drew ?_ | with_reducible refine bdrewN ?_ _ | (with_reducible refine Below.alloc ?_ ?side _; case side => (first | omega | (simp [go_sem]; done) | (simp [go_sem]; omega))) | (with_reducible refine Below.setCell ?_ ?side _; case side => (first | omega | (simp [go_sem]; done) | (simp [go_sem]; omega)))))
end Go.Proofs.Ytlhjhnjpmafceaa
