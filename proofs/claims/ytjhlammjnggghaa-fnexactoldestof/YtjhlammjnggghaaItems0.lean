/-
  What ItemsOf answers.
-/
import Derived.Test.YtjhlammjnggghaaGrow2
import Derived.Test.YtjhlammjnggghaaAItem
import Derived.Test.YtjhlammjnggghaaASpan
namespace Go.Proofs.Ytjhlammjnggghaa
open Go.ChangeShapes Go.WideShapes Go.ChangeAt Go.RowKit
set_option linter.unusedVariables false
set_option maxRecDepth 100000

def ofStamp (st : Int) (x : ItemD) : Bool := decide (x.stamp = st)
def itemsOf (l : List ItemD) (st : Int) : List SpanD := (l.filter (ofStamp st)).map ItemD.s
theorem itemsOf_len (l : List ItemD) (st : Int) : (itemsOf l st).length ≤ l.length := by
  unfold itemsOf
  rw [List.length_map]
  exact List.length_filter_le _ _
theorem itemsOf_pre (l : List ItemD) (st : Int) (k : Nat) : (itemsOf (l.take k) st).length ≤ k := by
  have := itemsOf_len (l.take k) st
  rw [List.length_take] at this
  omega
theorem itemsOf_step (l : List ItemD) (st : Int) (k : Nat) (h : k < l.length) : itemsOf (l.take (k + 1)) st = itemsOf (l.take k) st ++ if ofStamp st l[k] then [l[k].s] else [] := by
  unfold itemsOf
  rw [List.take_succ_eq_append_getElem h, List.filter_append, List.map_append]
  congr 1
  by_cases e : ofStamp st l[k] = true
  · simp [e]
  · simp [e]
theorem inB_sub {w : World} {b o p : Nat} {cs c : List Value} (h : InB w b o cs) (hs : (cs.drop p).take c.length = c) : InB w b (o + p) c := by
  intro i v hv
  have hi : i < c.length := (List.getElem?_eq_some_iff.1 hv).1
  rw [← hs, List.getElem?_take_of_lt hi, List.getElem?_drop] at hv
  rw [show o + p + i = o + (p + i) by omega]
  exact h (p + i) v hv
theorem lit_cells2 (w : World) (cs : List Value) (t : TypeId) : ∀ j u, cs[j]? = some u → (w.alloc (.cells cs.toArray t)).cell? ((⟨w.heap.size, 0, none⟩ : Addr).add j) = some u := by
  intro j u hu
  have e : (⟨w.heap.size, 0, none⟩ : Addr).add j = ⟨w.heap.size, j, none⟩ := by unfold Addr.add; split <;> simp_all
  rw [e, World.cell?_alloc_at _ _ _ _ rfl]
  simpa using hu
theorem infoSpan2 : (Try.prog.info? 33).map (fun i => (i.zero, i.size, i.bytes)) = some (some (.agg #[.int .i64 0, .int .i64 0, .int .i64 0, .int .i64 0, .bool false, .slice none 0 0]), 6, 64) := by kernel_rfl
end Go.Proofs.Ytjhlammjnggghaa
