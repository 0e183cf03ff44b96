/-
  Drawn lists of things, as a law's draws hand them back.
-/
import Derived.Test.YtchinpgjaddnkaaDoorDrE
import Derived.Test.YtchinpgjaddnkaaDoorBridge
namespace Go.Proofs.YtchinpgjaddnkaaDoor
open Go.ChangeShapes Go.WideShapes Go.ChangeAt Go.RowKit
set_option linter.unusedVariables false
set_option maxRecDepth 100000

theorem tiny_sum : ∀ (l : List AttrD), AllT l → (l.map attrBulk).sum ≤ l.length * 80 := by
  intro l
  induction l with
  | nil => intro _; simp
  | cons x r ih =>
    intro h
    have h1 := h x (List.mem_cons_self ..)
    have h2 := ih (fun y hy => h y (List.mem_cons_of_mem _ hy))
    have h3 : attrBulk x ≤ 80 := by have := h1.1; have := h1.2; unfold attrBulk; omega
    simp only [List.map_cons, List.sum_cons, List.length_cons]
    omega
theorem tiny_span {x : SpanD} (h : TinyS x) : spanBulk x ≤ 729 := by
  have h1 := tiny_sum _ h.2
  have h2 := h.1
  unfold spanBulk bulkL
  omega
theorem tiny_spans : ∀ (l : List SpanD), AllS l → (l.map spanBulk).sum ≤ l.length * 729 := by
  intro l
  induction l with
  | nil => intro _; simp
  | cons x r ih =>
    intro h
    have h1 := tiny_span (h x (List.mem_cons_self ..))
    have h2 := ih (fun y hy => h y (List.mem_cons_of_mem _ hy))
    simp only [List.map_cons, List.sum_cons, List.length_cons]
    omega
theorem bulk_tiny {l : List SpanD} (h : AllS l) (hl : l.length ≤ 1000) : bulkS l ≤ 1048576 := by
  have h1 := tiny_spans l h
  have h2 : bulkL spanBulk l = l.length + bulkS l := bulk_spans l
  unfold bulkL at h2
  omega
theorem allS_take {l : List SpanD} (h : AllS l) (k : Nat) : AllS (l.take k) := fun x hx => h x (List.mem_of_mem_take hx)
theorem allS_drop {l : List SpanD} (h : AllS l) (k : Nat) : AllS (l.drop k) := fun x hx => h x (List.mem_of_mem_drop hx)
/-- A drawn list: where it lies, and that it may be cut. -/
def Cutty (w : World) (v : Value) (l : List SpanD) : Prop := SpansAt w v l ∧ ∃ g c, v = .slice (some ⟨g, 0, none⟩) l.length c ∧ l.length ≤ c ∧ c ≤ maxLen
theorem Cutty.keep {w w' : World} {v : Value} {l : List SpanD} (h : Cutty w v l) (hb : Below w.heap.size w w') : Cutty w' v l := ⟨h.1.keep hb, h.2⟩
theorem cutty_of {base : Nat} {w : World} {v : Value} {l : List SpanD} (h : GrowL 6 spanO 26 base w v l) (hl : l.length ≤ 1048576) (hs : ∃ g c, v = .slice (some ⟨g, 0, none⟩) l.length c) : Cutty w v l := by
  refine ⟨spans_old ((h.done (by omega)).read spanR_widens spanO_read), ?_⟩
  obtain ⟨css, T, gx⟩ := h
  obtain ⟨g, c, e⟩ := hs
  rcases gx.row.2 with ⟨h0, _⟩ | ⟨g2, c2, cur, hv, hg, hh, hc, hm, _⟩
  · rw [e] at h0; injection h0 with h0; cases h0
  · exact ⟨g2, c2, hv, hc, hm⟩
end Go.Proofs.YtchinpgjaddnkaaDoor
