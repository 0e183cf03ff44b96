/-
  A row of ints that is kept in order: what is put in where it belongs; what a sort leaves.
-/
import Derived.Test.YtjhlammjnggghaaIns0
import Derived.Shelf.SlSortCmp.QuietGrown
import Derived.Sort.Row
namespace Go.Proofs.Ytjhlammjnggghaa
open Go.ChangeShapes Go.WideShapes Go.ChangeAt Go.RowKit Go.Sort
set_option linter.unusedVariables false
set_option maxRecDepth 100000

structure Srt (ids zs : List Int) : Prop where
  perm : zs.Perm ids
  asc : zs.Pairwise (· ≤ ·)
def sortZ (ids : List Int) : List Int := ids.mergeSort (fun x y => decide (x ≤ y))
theorem sortZ_srt (ids : List Int) : Srt ids (sortZ ids) := by
  refine ⟨List.mergeSort_perm _ _, ?_⟩
  have h := List.pairwise_mergeSort (le := fun (x y : Int) => decide (x ≤ y)) (fun a b c h1 h2 => by simp at *; omega) (fun a b => by simp; omega) ids
  exact h.imp (fun {x y} h => by simpa using h)
theorem Srt.is {ids zs : List Int} (h : Srt ids zs) : zs = sortZ ids :=
  List.Perm.eq_of_pairwise (fun a b _ _ h1 h2 => by omega) h.asc (sortZ_srt ids).asc (h.perm.trans (sortZ_srt ids).perm.symm)
theorem Srt.start : Srt [] [] := ⟨List.Perm.refl _, List.Pairwise.nil⟩
theorem Srt.put {ids zs : List Int} {x : Int} {j : Nat} (h : Srt ids zs) (hj : j ≤ zs.length) (hg : ∀ i (hi : i < zs.length), j ≤ i → x < zs[i]) (hl : ∀ (hi : j - 1 < zs.length), j = 0 ∨ zs[j - 1] ≤ x) : Srt (ids ++ [x]) (zs.take j ++ x :: zs.drop j) := by
  refine ⟨?_, ?_⟩
  · refine List.perm_middle.trans ?_
    rw [List.take_append_drop]
    exact (h.perm.cons x).trans (List.perm_append_singleton x _).symm
  · have hp := h.asc
    rw [← List.take_append_drop j zs, List.pairwise_append] at hp
    rw [List.pairwise_append]
    refine ⟨hp.1, List.pairwise_cons.2 ⟨fun y hy => ?_, hp.2.1⟩, fun y hy z hz => ?_⟩
    · obtain ⟨i, hi, rfl⟩ := List.mem_iff_getElem.1 hy
      rw [List.getElem_drop]
      have := hg (j + i) (by rw [List.length_drop] at hi; omega) (by omega)
      omega
    · rcases List.mem_cons.1 hz with rfl | hz
      · obtain ⟨i, hi, rfl⟩ := List.mem_iff_getElem.1 hy
        rw [List.length_take] at hi
        rw [List.getElem_take]
        rcases hl (by omega) with h0 | h0
        · omega
        · by_cases e : i = j - 1
          · subst e; exact h0
          · have := List.pairwise_iff_getElem.1 h.asc i (j - 1) (by omega) (by omega) (by omega)
            omega
      · exact hp.2.2 y hy z hz
theorem Srt.len {ids zs : List Int} (h : Srt ids zs) : zs.length = ids.length := h.perm.length_eq
def GreaterZ (zs : List Int) (x : Int) (j : Nat) : Prop := ∀ i (hi : i < zs.length), j ≤ i → x < zs[i]
theorem zlen (zs : List Int) : (cellsI2 zs).length = zs.length := by
  unfold cellsI2
  induction zs with
  | nil => rfl
  | cons z r ih => simp [ih]
theorem zat (zs : List Int) (j : Nat) : (cellsI2 zs)[j]? = zs[j]?.map (fun z => .int .i64 z) := by
  unfold cellsI2
  induction zs generalizing j with
  | nil => simp
  | cons z r ih => cases j with
    | zero => simp
    | succ j => simpa using ih j
theorem ztake (zs : List Int) (k : Nat) : (cellsI2 zs).take k = cellsI2 (zs.take k) := by
  apply List.ext_getElem?
  intro i
  simp only [List.getElem?_take, zat]
  split <;> simp
theorem zdrop (zs : List Int) (k : Nat) : (cellsI2 zs).drop k = cellsI2 (zs.drop k) := by
  apply List.ext_getElem?
  intro i
  simp only [List.getElem?_drop, zat]
theorem zone (zs : List Int) : ∀ u ∈ cellsI2 zs, u.oneCell' = true := by
  intro u hu
  unfold cellsI2 at hu
  obtain ⟨z, _, h⟩ := List.mem_flatMap.1 hu
  simp at h; subst h; rfl
theorem zput (zs : List Int) (j : Nat) (x : Int) : [] ++ (cellsI2 zs).take (j * 1) ++ [.int .i64 x] ++ (cellsI2 zs).drop (j * 1) = cellsI2 (zs.take j ++ x :: zs.drop j) := by
  rw [Nat.mul_one, ztake, zdrop]
  simp [cellsI2]
theorem zcellZ {base : Nat} {w : World} {g n cap : Nat} {zs : List Int} {t : TypeId} (h : w.ownsRow base t 1 (.slice (some ⟨g, 0, none⟩) n cap) n (cellsI2 zs)) (j : Nat) (hj : j < zs.length) : w.cell? ⟨g, j, none⟩ = some (.int .i64 zs[j]) := by
  have := h.cells (g := g) rfl j (.int .i64 zs[j]) (by rw [zat]; simp [hj])
  have e : (⟨g, 0, none⟩ : Addr).add j = ⟨g, j, none⟩ := by unfold Addr.add; split <;> simp_all
  rw [e] at this; exact this
theorem zform {w : World} {base : Nat} {t : TypeId} {N n : Nat} {v : Value} {xs : List Value} (h : w.ownsRow base t N v n xs) (hn : 0 < n) : ∃ g cap, v = .slice (some ⟨g, 0, none⟩) n cap := by
  rcases h.2 with ⟨_, h2⟩ | ⟨g, cap, cur, hv, _⟩
  · omega
  · exact ⟨g, cap, hv⟩
theorem zcap {w : World} {base : Nat} {t : TypeId} {N n g cap : Nat} {xs : List Value} (h : w.ownsRow base t N (.slice (some ⟨g, 0, none⟩) n cap) n xs) : n ≤ cap ∧ cap ≤ maxLen ∧ g < w.heap.size := by
  rcases h.2 with ⟨h2, _⟩ | ⟨g', cap', cur, hv, hb, hh, hn, hc, hs, ht⟩
  · cases h2
  injection hv with e1 e2 e3
  subst e3
  exact ⟨hn, hc, (h.lt g rfl).2⟩
theorem zbase {base base' : Nat} {w : World} {e : TypeId} {size : Nat} {v : Value} {n : Nat} {xs : List Value} (h : w.ownsRow base e size v n xs) (hb : base' ≤ base) : w.ownsRow base' e size v n xs := by
  obtain ⟨h1, h2⟩ := h
  refine ⟨h1, ?_⟩
  rcases h2 with h2 | ⟨g, cap, cur, hv, hg, rest⟩
  · exact .inl h2
  · exact .inr ⟨g, cap, cur, hv, Nat.le_trans hb hg, rest⟩
theorem zgrown {B : Nat} {w0 w : World} (h : Below B w0 w) (hB : B ≤ w.heap.size) (n : Nat) (os : Array Obj) : Below B w0 (grow (w.drewN n) os) :=
  h.trans ⟨rfl, rfl, rfl, by simp [grow], fun i hi => by
    show ((w.drewN n).heap ++ os)[i]? = _
    rw [Array.getElem?_append_left (by show i < w.heap.size; omega)]
    rfl⟩
theorem zowns {base : Nat} {w : World} {e : TypeId} {size : Nat} {v : Value} {n : Nat} {xs : List Value} (h : w.ownsRow base e size v n xs) (m : Nat) (os : Array Obj) : (grow (w.drewN m) os).ownsRow base e size v n xs :=
  owns_below h (zgrown (Below.refl _ _) (Nat.le_refl _) m os)
/-- Behind the three appends. -/
theorem zstep {t : TypeId} {w0 w2 wk : World} {base J gN cN n : Nat} {zs : List Int} {x : Int} (hbase : base ≤ w2.heap.size)
    (hA : InA t 1 w2 wk (.slice (some ⟨gN, 0, none⟩) n cN) n ([] ++ (cellsI2 zs).take (J * 1) ++ [.int .i64 x] ++ (cellsI2 zs).drop (J * 1))) :
    n = (zs.take J ++ x :: zs.drop J).length ∧ wk.ownsRow base t 1 (.slice (some ⟨gN, 0, none⟩) (zs.take J ++ x :: zs.drop J).length cN) (zs.take J ++ x :: zs.drop J).length (cellsI2 (zs.take J ++ x :: zs.drop J)) ∧ Below w2.heap.size w2 wk := by
  have hr := hA.row
  have hbel := hA.bel
  rw [zput] at hr
  have hn := hr.1
  rw [zlen, Nat.mul_one] at hn
  refine ⟨hn.symm, ?_, hbel⟩
  rw [hn]
  exact zbase hr hbase
/-! a row, sorted -/
theorem zrow_holds {base : Nat} {t : TypeId} {w : World} {g n cap : Nat} {zs : List Int} (h : w.ownsRow base t 1 (.slice (some ⟨g, 0, none⟩) n cap) n (cellsI2 zs)) : Holds (Value.int .i64) w g 0 zs.toArray := by
  obtain ⟨h1, h2⟩ := h
  rw [zlen, Nat.mul_one] at h1
  rcases h2 with ⟨h2, _⟩ | ⟨g', cap', cur, hv, hb, hh, hn, hc, hs, ht⟩
  · cases h2
  injection hv with e1 e2 e3
  rw [Option.some.injEq, Addr.mk.injEq] at e1
  obtain ⟨rfl, _, _⟩ := e1
  subst e3
  rw [Nat.mul_one] at hs ht
  intro j hj
  have hj : j < zs.length := by simpa using hj
  have hcur : cur[j]? = some (.int .i64 zs.toArray[j]!) := by
    have e : (cur.toList.take n)[j]? = (cellsI2 zs)[j]? := by rw [ht]
    rw [List.getElem?_take, if_pos (by omega), zat] at e
    rw [← Array.getElem?_toList, e, getElem!_pos _ j (by simpa using hj)]
    simp [hj]
  refine ⟨?_, ?_⟩
  · simp only [World.cell?, hh, Nat.zero_add]
    simpa using hcur
  · simp [World.frozen?, hh]
theorem zrow_end {base : Nat} {t : TypeId} {w : World} {g n cap m : Nat} {zs ys : List Int} {os : Array Obj} (h : w.ownsRow base t 1 (.slice (some ⟨g, 0, none⟩) n cap) n (cellsI2 zs)) (hd : ys.length = n) :
    (grow (putRow (Value.int .i64) (Sort.ahead w m) g 0 ys.toArray) os).ownsRow base t 1 (.slice (some ⟨g, 0, none⟩) n cap) n (cellsI2 ys) := by
  obtain ⟨h1, h2⟩ := h
  refine ⟨by rw [zlen]; omega, ?_⟩
  rcases h2 with ⟨h2, _⟩ | ⟨g', cap', cur, hv, hb, hh, hn, hc, hs, ht⟩
  · cases h2
  injection hv with e1 e2 e3
  rw [Option.some.injEq, Addr.mk.injEq] at e1
  obtain ⟨rfl, _, _⟩ := e1
  subst e3
  have hg := (Array.getElem?_eq_some_iff.1 hh).1
  refine .inr ⟨g, cap, putCells (Value.int .i64) 0 ys.toArray cur, rfl, hb, ?_, hn, hc, by rw [← hs]; simp [putCells], ?_⟩
  · show ((putRow (Value.int .i64) (Sort.ahead w m) g 0 ys.toArray).heap ++ os)[g]? = _
    have hz : (putRow (Value.int .i64) (Sort.ahead w m) g 0 ys.toArray).heap.size = w.heap.size := by simp [putRow, mapBlock, Sort.ahead]
    rw [Array.getElem?_append_left (by rw [hz]; exact hg)]
    show (w.heap.modify g _)[g]? = _
    rw [Array.getElem?_modify, if_pos rfl, hh]
    rfl
  · rw [Nat.mul_one] at *
    apply List.ext_getElem?
    intro j
    rw [List.getElem?_take, zat]
    by_cases hj : j < n
    · rw [if_pos hj, Array.getElem?_toList]
      have hjc : j < cur.size := by omega
      simp only [putCells, Array.getElem?_mapIdx, Array.getElem?_eq_getElem hjc, Option.map_some]
      rw [if_pos ⟨Nat.zero_le _, by simp; omega⟩]
      have hjy : j < ys.length := by omega
      simp [hjy]
    · rw [if_neg hj]
      rw [List.getElem?_eq_none (by omega)]
      rfl
theorem zrow_below {w : World} {g m B : Nat} {ys : List Int} {os : Array Obj} (hB : B ≤ g) (hg : g < w.heap.size) : Below B w (grow (putRow (Value.int .i64) (Sort.ahead w m) g 0 ys.toArray) os) := by
  have hs : (putRow (Value.int .i64) (Sort.ahead w m) g 0 ys.toArray).heap.size = w.heap.size := by simp [putRow, mapBlock, Sort.ahead]
  refine ⟨rfl, rfl, rfl, ?_, fun i hi => ?_⟩
  · rw [size_grow, hs]; omega
  · show ((putRow (Value.int .i64) (Sort.ahead w m) g 0 ys.toArray).heap ++ os)[i]? = _
    rw [Array.getElem?_append_left (by rw [hs]; omega)]
    show (w.heap.modify g _)[i]? = _
    rw [Array.getElem?_modify, if_neg (by omega)]
end Go.Proofs.Ytjhlammjnggghaa
