/-
  What Forgets answers; Forgets of the specification.
-/
import Derived.Test.YtlhjhnjpmafceabVerd
import Derived.Test.YtlhjhnjpmafceabTInt
import Derived.Test.YtlhjhnjpmafceabGrow2
namespace Go.Proofs.Ytlhjhnjpmafceab
open Go.ChangeShapes Go.WideShapes Go.ChangeAt Go.RowKit
set_option linter.unusedVariables false
set_option maxRecDepth 100000

def goneB (m : List VerdictD) (v : VerdictD) : Bool := !verdIs m v.trace
def gone (l m : List VerdictD) : List Int := (l.filter (goneB m)).map VerdictD.trace
theorem gone_len (l m : List VerdictD) : (gone l m).length ≤ l.length := by
  unfold gone
  rw [List.length_map]
  exact List.length_filter_le _ _
theorem gone_pre (l m : List VerdictD) (k : Nat) : (gone (l.take k) m).length ≤ k := by
  have := gone_len (l.take k) m
  rw [List.length_take] at this
  omega
theorem gone_step (l m : List VerdictD) (k : Nat) (h : k < l.length) : gone (l.take (k + 1)) m = gone (l.take k) m ++ if goneB m l[k] then [l[k].trace] else [] := by
  unfold gone
  rw [List.take_succ_eq_append_getElem h, List.filter_append, List.map_append]
  congr 1
  by_cases e : goneB m l[k] = true
  · simp [e]
  · simp [e]
def cellsI2 (zs : List Int) : List Value := zs.flatMap (fun z => [.int .i64 z])
theorem cellsI2_snoc (zs : List Int) (z : Int) : cellsI2 (zs ++ [z]) = cellsI2 zs ++ [.int .i64 z] := by simp [cellsI2]
theorem ints_done {t : TypeId} {base : Nat} {w : World} {v : Value} {zs : List Int} (h : w.ownsRow base t 1 v zs.length (cellsI2 zs)) (hl : zs.length ≤ 9223372036854775807) : LOw 1 intO w (Within base w.heap.size) v zs :=
  own_flat (f := fun z => [.int .i64 z]) h (fun _ => rfl) (fun x _ => rfl) hl
theorem infoI2 : (Try.prog.info? 3).map (fun i => (i.zero, i.size, i.bytes)) = some (some (.int .i64 0), 1, 8) := by kernel_rfl
theorem lit_cells4 (w : World) (cs : List Value) (t : TypeId) : ∀ j u, cs[j]? = some u → (w.alloc (.cells cs.toArray t)).cell? ((⟨w.heap.size, 0, none⟩ : Addr).add j) = some u := by
  intro j u hu
  have e : (⟨w.heap.size, 0, none⟩ : Addr).add j = ⟨w.heap.size, j, none⟩ := by unfold Addr.add; split <;> simp_all
  rw [e, World.cell?_alloc_at _ _ _ _ rfl]
  simpa using hu
end Go.Proofs.Ytlhjhnjpmafceab
