/-
  Lists of things in memory; contracts of the law's own sizes, copies and comparisons of them.
-/
import Derived.Test.YtchinpgjaddnkaaSpan
namespace Go.Proofs.Ytchinpgjaddnkaa
open Go.ChangeShapes Go.WideShapes Go.ChangeAt Go.RowKit
set_option linter.unusedVariables false
set_option maxRecDepth 100000

abbrev SpanD := Int × Int × Int × Int × Bool × List AttrD
def dS : SpanD := (0, 0, 0, 0, false, [])
/-- A thing's six cells, in a block from a place on. -/
def SpanIn (w : World) (b o : Nat) (x : SpanD) : Prop :=
  ∃ sl, w.cell? ⟨b, o, none⟩ = some (.int .i64 x.1) ∧ w.cell? ⟨b, o + 1, none⟩ = some (.int .i64 x.2.1) ∧ w.cell? ⟨b, o + 2, none⟩ = some (.int .i64 x.2.2.1) ∧ w.cell? ⟨b, o + 3, none⟩ = some (.int .i64 x.2.2.2.1) ∧
    w.cell? ⟨b, o + 4, none⟩ = some (.bool x.2.2.2.2.1) ∧ w.cell? ⟨b, o + 5, none⟩ = some sl ∧ AttrsAt w sl x.2.2.2.2.2
theorem SpanIn.keep {w w' : World} {b o : Nat} {x : SpanD} (hb : b < w.heap.size) (h : Below w.heap.size w w') (ha : SpanIn w b o x) : SpanIn w' b o x := by
  obtain ⟨sl, c0, c1, c2, c3, c4, c5, ha⟩ := ha
  refine ⟨sl, ?_, ?_, ?_, ?_, ?_, ?_, ha.keep h⟩ <;> rw [h.cell hb] <;> assumption
def SpansAt (w : World) (v : Value) (l : List SpanD) : Prop :=
  ∃ a cap, v = .slice a l.length cap ∧ l.length ≤ 9223372036854775807 ∧
    (l = [] ∨ ∃ b o, a = some ⟨b, o, none⟩ ∧ b < w.heap.size ∧ ∀ i, i < l.length → SpanIn w b (o + i * 6) (l.getD i dS))
theorem SpansAt.keep {w w' : World} {v : Value} {l : List SpanD} (h : SpansAt w v l) (hb : Below w.heap.size w w') : SpansAt w' v l := by
  obtain ⟨a, cap, rfl, hl, h⟩ := h
  refine ⟨a, cap, rfl, hl, ?_⟩
  rcases h with h | ⟨b, o, h1, h2, h3⟩
  · exact .inl h
  · exact .inr ⟨b, o, h1, Nat.lt_of_lt_of_le h2 hb.size, fun i hi => (h3 i hi).keep h2 hb⟩
theorem SpansAt.form {w : World} {v : Value} {l : List SpanD} (h : SpansAt w v l) : ∃ a cap, v = .slice a l.length cap := by
  obtain ⟨a, cap, e, _⟩ := h; exact ⟨a, cap, e⟩
theorem SpansAt.len {w : World} {v : Value} {l : List SpanD} (h : SpansAt w v l) : l.length ≤ 9223372036854775807 := by
  obtain ⟨a, cap, e, hl, _⟩ := h; exact hl
theorem SpansAt.at {w : World} {a : Option Addr} {n cap : Nat} {l : List SpanD} (h : SpansAt w (.slice a n cap) l) (k : Nat) (hk : k < l.length) :
    ∃ b o, a = some ⟨b, o, none⟩ ∧ b < w.heap.size ∧ SpanIn w b (o + k * 6) (l.getD k dS) := by
  obtain ⟨a', cap', e, hl, h⟩ := h
  injection e with e1 e2 e3
  subst e1
  rcases h with h | ⟨b, o, h1, h2, h3⟩
  · subst h; simp at hk
  · exact ⟨b, o, h1, h2, h3 k hk⟩

/-- How much is in all lists together: each Attr, and its letters. -/
def bulkS (l : List SpanD) : Nat := (l.map fun x => x.2.2.2.2.2.length + bytesA x.2.2.2.2.2).sum
theorem bulkS_snoc (l : List SpanD) (k : Nat) (h : k < l.length) : bulkS (l.take (k + 1)) = bulkS (l.take k) + ((l.getD k dS).2.2.2.2.2.length + bytesA (l.getD k dS).2.2.2.2.2) := by
  unfold bulkS
  rw [List.take_succ_eq_append_getElem h, List.map_append, List.sum_append]
  simp [List.getD, h]
theorem bulkS_mem {l : List SpanD} {x : SpanD} (h : x ∈ l) : x.2.2.2.2.2.length + bytesA x.2.2.2.2.2 ≤ bulkS l := by
  unfold bulkS
  induction l with
  | nil => simp at h
  | cons y r ih =>
    simp only [List.map_cons, List.sum_cons]
    rcases List.mem_cons.1 h with rfl | h
    · omega
    · have := ih h; omega

end Go.Proofs.Ytchinpgjaddnkaa
