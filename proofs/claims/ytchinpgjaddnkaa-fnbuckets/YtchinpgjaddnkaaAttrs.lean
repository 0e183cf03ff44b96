/-
  Lists of Attrs in memory; contracts of the law's own sizes, copies and comparisons of them.
-/
import Derived.Test.YtchinpgjaddnkaaAttr
namespace Go.Proofs.Ytchinpgjaddnkaa
open Go.ChangeShapes Go.WideShapes Go.ChangeAt Go.RowKit
set_option linter.unusedVariables false
set_option maxRecDepth 100000

abbrev AttrD := ByteArray × Bool × Int × ByteArray
def dA : AttrD := (⟨#[]⟩, false, 0, ⟨#[]⟩)
def AttrAt (w : World) (b o : Nat) (x : AttrD) : Prop :=
  w.cell? ⟨b, o, none⟩ = some (.string x.1) ∧ w.cell? ⟨b, o + 1, none⟩ = some (.bool x.2.1) ∧ w.cell? ⟨b, o + 2, none⟩ = some (.int .i64 x.2.2.1) ∧ w.cell? ⟨b, o + 3, none⟩ = some (.string x.2.2.2)
def AttrWf (x : AttrD) : Prop := x.1.size ≤ maxLen ∧ x.2.2.2.size ≤ maxLen
def AttrsAt (w : World) (v : Value) (l : List AttrD) : Prop :=
  ∃ a cap, v = .slice a l.length cap ∧ l.length ≤ 9223372036854775807 ∧ (∀ x ∈ l, AttrWf x) ∧
    (l = [] ∨ ∃ b o, a = some ⟨b, o, none⟩ ∧ b < w.heap.size ∧ ∀ i, i < l.length → AttrAt w b (o + i * 4) (l.getD i dA))
theorem AttrsAt.keep {w w' : World} {v : Value} {l : List AttrD} (h : AttrsAt w v l) (hb : Below w.heap.size w w') : AttrsAt w' v l := by
  obtain ⟨a, cap, rfl, hl, hw, h⟩ := h
  refine ⟨a, cap, rfl, hl, hw, ?_⟩
  rcases h with h | ⟨b, o, h1, h2, h3⟩
  · exact .inl h
  · refine .inr ⟨b, o, h1, Nat.lt_of_lt_of_le h2 hb.size, fun i hi => ?_⟩
    obtain ⟨c0, c1, c2, c3⟩ := h3 i hi
    exact ⟨by rw [hb.cell h2]; exact c0, by rw [hb.cell h2]; exact c1, by rw [hb.cell h2]; exact c2, by rw [hb.cell h2]; exact c3⟩
theorem getD_mem {α : Type} (l : List α) (d : α) (i : Nat) (h : i < l.length) : l.getD i d ∈ l := by
  rw [List.getD_eq_getElem?_getD, List.getElem?_eq_getElem h]; exact List.getElem_mem h

def bytesA (l : List AttrD) : Nat := (l.map fun x => x.1.size + x.2.2.2.size).sum
theorem szv_pos {left : Int} {k t : ByteArray} (h : 0 ≤ szv left k t) : szv left k t = left - k.size - t.size := by
  unfold szv at h ⊢
  by_cases h1 : left < k.size
  · rw [if_pos h1] at h; omega
  · rw [if_neg h1] at h ⊢
    by_cases h2 : left - k.size < t.size
    · rw [if_pos h2] at h; omega
    · rw [if_neg h2]

theorem bytesA_snoc (l : List AttrD) (k : Nat) (h : k < l.length) : bytesA (l.take (k + 1)) = bytesA (l.take k) + ((l.getD k dA).1.size + (l.getD k dA).2.2.2.size) := by
  unfold bytesA
  rw [List.take_succ_eq_append_getElem h, List.map_append, List.sum_append]
  simp [List.getD, h]

/-- A row of cells made by a call: all of its cells are there, and may be written. -/
def Row (w : World) (b n : Nat) : Prop := b < w.heap.size ∧ ∀ j, j < n → (w.cell? ⟨b, j, none⟩).isSome = true ∧ w.frozen? ⟨b, j, none⟩ = false
theorem Row.keep {w w' : World} {b n : Nat} (h : Row w b n) (hb : Below w.heap.size w w') : Row w' b n :=
  ⟨Nat.lt_of_lt_of_le h.1 hb.size, fun j hj => ⟨by rw [hb.cell (p := ⟨b, j, none⟩) h.1]; exact (h.2 j hj).1, by rw [hb.frozen (p := ⟨b, j, none⟩) h.1]; exact (h.2 j hj).2⟩⟩
theorem Row.set {w : World} {b n : Nat} (h : Row w b n) (p : Addr) (u : Value) : Row (w.setCell p u) b n := by
  refine ⟨by simpa using h.1, fun j hj => ⟨?_, by simpa using (h.2 j hj).2⟩⟩
  by_cases hp : p = ⟨b, j, none⟩
  · subst hp; rw [World.cell?_setCell_same' _ _ _ (h.2 j hj).1]; rfl
  · rw [World.cell?_setCell_other (h := hp)]; exact (h.2 j hj).1
theorem Row.new {w : World} {c : Array Value} {t : TypeId} {n : Nat} (hc : c.size = n) : Row (w.alloc (.cells c t)) w.heap.size n := by
  refine ⟨by simp, fun j hj => ⟨?_, by simp [go_sem]⟩⟩
  rw [World.cell?_alloc_at _ _ _ _ rfl, Array.getElem?_eq_getElem (by omega)]; rfl
theorem Row.cell {w : World} {b n : Nat} (h : Row w b n) (j : Nat) (hj : j < n) : ∃ u, w.cell? ⟨b, j, none⟩ = some u := Option.isSome_iff_exists.1 (h.2 j hj).1
theorem infoAttr : (Try.prog.info? 65).map (fun i => (i.zero, i.size, i.bytes)) = some (some (.agg #[.string ⟨#[]⟩, .bool false, .int .i64 0, .string ⟨#[]⟩]), 4, 48) := by kernel_rfl
theorem makeAttrs (n : Nat) (hn : n ≤ 1048576) (w : World) : ∃ w0, (Instr.makeSlice 44 (.int .i64 n) (.int .i64 n)).run Try.prog w = .ok (.slice (some ⟨w.heap.size, 0, none⟩) n n) w0 ∧ Row w0 w.heap.size (n * 4) ∧ Below w.heap.size w w0 := by
  obtain ⟨i0, hi, hz0, hz1, hz2⟩ := info_parts infoAttr
  have h := run_make (P := Try.prog) w 44 65 i0 _ Try.underlying44 hi hz0 .i64 .i64 n n (by omega) (by omega) (by rw [hz2]; omega) (by omega)
  refine ⟨_, h, ?_, bnew _ _⟩
  rw [hz1]
  exact Row.new (by rw [size_madeCells]; simp)
theorem AttrAt.keep {w w' : World} {b o : Nat} {x : AttrD} (hb : b < w.heap.size) (h : Below w.heap.size w w') (ha : AttrAt w b o x) : AttrAt w' b o x :=
  ⟨by rw [h.cell hb]; exact ha.1, by rw [h.cell hb]; exact ha.2.1, by rw [h.cell hb]; exact ha.2.2.1, by rw [h.cell hb]; exact ha.2.2.2⟩
theorem cell_off {w : World} {u : Value} {b i j : Nat} (h : i ≠ j) : (w.setCell ⟨b, i, none⟩ u).cell? ⟨b, j, none⟩ = w.cell? ⟨b, j, none⟩ :=
  World.cell?_setCell_other _ _ _ _ (fun e => h (by injection e))
theorem put4_at {w : World} {b m o : Nat} {k : ByteArray} {bb : Bool} {n : Int} {t : ByteArray} (hr : Row w b m) (ho : o + 3 < m) :
    AttrAt ((((w.setCell ⟨b, o, none⟩ (.string k)).setCell ⟨b, o + 1, none⟩ (.bool bb)).setCell ⟨b, o + 2, none⟩ (.int .i64 n)).setCell ⟨b, o + 3, none⟩ (.string t)) b o (k, bb, n, t) := by
  have e0 := (hr.2 o (by omega)).1
  have e1 := ((hr.set ⟨b, o, none⟩ (.string k)).2 (o + 1) (by omega)).1
  have e2 := (((hr.set ⟨b, o, none⟩ (.string k)).set ⟨b, o + 1, none⟩ (.bool bb)).2 (o + 2) (by omega)).1
  have e3 := ((((hr.set ⟨b, o, none⟩ (.string k)).set ⟨b, o + 1, none⟩ (.bool bb)).set ⟨b, o + 2, none⟩ (.int .i64 n)).2 (o + 3) (by omega)).1
  refine ⟨?_, ?_, ?_, ?_⟩
  · rw [cell_off (by omega), cell_off (by omega), cell_off (by omega), World.cell?_setCell_same' _ _ _ e0]
  · rw [cell_off (by omega), cell_off (by omega), World.cell?_setCell_same' _ _ _ e1]
  · rw [cell_off (by omega), World.cell?_setCell_same' _ _ _ e2]
  · rw [World.cell?_setCell_same' _ _ _ e3]
theorem put4_keep {w : World} {b o i : Nat} {k : ByteArray} {bb : Bool} {n : Int} {t : ByteArray} {x : AttrD} (ho : i + 4 ≤ o ∨ o + 4 ≤ i) (h : AttrAt w b i x) :
    AttrAt ((((w.setCell ⟨b, o, none⟩ (.string k)).setCell ⟨b, o + 1, none⟩ (.bool bb)).setCell ⟨b, o + 2, none⟩ (.int .i64 n)).setCell ⟨b, o + 3, none⟩ (.string t)) b i x := by
  obtain ⟨h0, h1, h2, h3⟩ := h
  refine ⟨?_, ?_, ?_, ?_⟩ <;>
  · rw [cell_off (by omega), cell_off (by omega), cell_off (by omega), cell_off (by omega)]
    assumption
end Go.Proofs.Ytchinpgjaddnkaa
