/-
  Those that took place, in order: what it is, and what a sort leaves in a row of places.
-/
import Derived.Test.YtopngelgpfjdeaaStab3
import Derived.Test.YtopngelgpfjdeaaTDeed
import Derived.Test.YtopngelgpfjdeaaADeed
import Derived.Test.YtopngelgpfjdeaaSum1
import Derived.Test.YtopngelgpfjdeaaDeeds1
import Derived.Test.YtopngelgpfjdeaaForg0
namespace Go.Proofs.Ytopngelgpfjdeaa
open Go.Shelf Go.RowKit Go.Lib Go.Sort
set_option linter.unusedVariables false
set_option maxRecDepth 100000

def linA (l : List DeedD) (i : Nat) : Int := (l[i]?.map DeedD.lin).getD 0
def tookA (l : List DeedD) (i : Nat) : Bool := (l[i]?.map tookB).getD false
theorem linA_at (l : List DeedD) {i : Nat} (h : i < l.length) : linA l i = l[i].lin := by simp [linA, h]
theorem tookA_at (l : List DeedD) {i : Nat} (h : i < l.length) : tookA l i = tookB l[i] := by simp [tookA, h]
def placesK (l : List DeedD) (k : Nat) : List Nat := (List.range k).filter (tookA l)
def places (l : List DeedD) : List Nat := placesK l l.length
theorem placesK_yes {l : List DeedD} {k : Nat} (h : tookA l k = true) : placesK l (k + 1) = placesK l k ++ [k] := by unfold placesK; rw [List.range_succ, List.filter_append]; simp [h]
theorem placesK_no {l : List DeedD} {k : Nat} (h : tookA l k = false) : placesK l (k + 1) = placesK l k := by unfold placesK; rw [List.range_succ, List.filter_append]; simp [h]
theorem placesK_lt {l : List DeedD} {k x : Nat} (h : x ∈ placesK l k) : x < k := by unfold placesK at h; rw [List.mem_filter] at h; exact List.mem_range.1 h.1
theorem placesK_len (l : List DeedD) (k : Nat) : (placesK l k).length ≤ k := by
  unfold placesK
  refine Nat.le_trans (List.length_filter_le _ _) ?_
  rw [List.length_range]; exact Nat.le_refl _
theorem places_asc (l : List DeedD) (k : Nat) : (placesK l k).Pairwise (· < ·) := List.Pairwise.filter _ List.pairwise_lt_range
structure OrdK (l : List DeedD) (k : Nat) (o : List Nat) : Prop where
  perm : o.Perm (placesK l k)
  asc : o.Pairwise (Lx (linA l))
theorem OrdK.mem {l : List DeedD} {k : Nat} {o : List Nat} (h : OrdK l k o) {x : Nat} (hx : x ∈ o) : x < k := placesK_lt (h.perm.mem_iff.1 hx)
theorem OrdK.len {l : List DeedD} {k : Nat} {o : List Nat} (h : OrdK l k o) : o.length ≤ k := by rw [h.perm.length_eq]; exact placesK_len l k
theorem OrdK.eq {l : List DeedD} {k : Nat} {o o' : List Nat} (h : OrdK l k o) (h' : OrdK l k o') : o = o' := by
  refine List.Perm.eq_of_pairwise (fun a b _ _ h1 h2 => ?_) h.asc h'.asc (h.perm.trans h'.perm.symm)
  unfold Lx at h1 h2
  omega
def ordL (l : List DeedD) : List Nat := (places l).mergeSort (fun x y => !ltX (linA l) y x)
theorem ordL_ord (l : List DeedD) : OrdK l l.length (ordL l) := by
  refine ⟨List.mergeSort_perm _ _, ?_⟩
  have h1 : (ordL l).Pairwise (fun x y => (!ltX (linA l) y x) = true) := List.pairwise_mergeSort (fun a b c h1 h2 => by
    rw [Bool.not_eq_true'] at *
    exact (swoX (linA l)).ntrans _ _ _ h2 h1) (fun a b => by
    cases h : ltX (linA l) a b
    · simp
    · rw [(swoX (linA l)).asymmA h]; simp) _
  have h2 : (ordL l).Nodup := (List.mergeSort_perm _ _).nodup_iff.2 ((places_asc l l.length).imp (fun h => Nat.ne_of_lt h))
  refine (h1.and h2).imp (fun {x y} h => ?_)
  obtain ⟨h3, h4⟩ := h
  rw [Bool.not_eq_true'] at h3
  unfold ltX at h3
  simp only [Bool.or_eq_false_iff, Bool.and_eq_false_iff, decide_eq_false_iff_not] at h3
  unfold Lx
  omega
theorem OrdK.is {l : List DeedD} {o : List Nat} (h : OrdK l l.length o) : o = ordL l := h.eq (ordL_ord l)
theorem OrdK.start (l : List DeedD) : OrdK l 0 [] := ⟨List.Perm.refl _, List.Pairwise.nil⟩
theorem OrdK.skip {l : List DeedD} {k : Nat} {o : List Nat} (h : OrdK l k o) (ht : tookA l k = false) : OrdK l (k + 1) o := ⟨by rw [placesK_no ht]; exact h.perm, h.asc⟩
theorem OrdK.put {l : List DeedD} {k j : Nat} {o : List Nat} (h : OrdK l k o) (ht : tookA l k = true) (hj : j ≤ o.length) (hg : ∀ i (hi : i < o.length), j ≤ i → linA l k < linA l o[i]) (hl : ∀ (hi : j - 1 < o.length), j = 0 ∨ linA l o[j - 1] ≤ linA l k) :
    OrdK l (k + 1) (o.take j ++ k :: o.drop j) := by
  refine ⟨?_, ?_⟩
  · rw [placesK_yes ht]
    refine List.perm_middle.trans ?_
    rw [List.take_append_drop]
    exact (h.perm.cons k).trans (List.perm_append_singleton k _).symm
  · have hp := h.asc
    rw [← List.take_append_drop j o, List.pairwise_append] at hp
    rw [List.pairwise_append]
    refine ⟨hp.1, List.pairwise_cons.2 ⟨fun y hy => ?_, hp.2.1⟩, fun x hx y hy => ?_⟩
    · obtain ⟨i, hi, rfl⟩ := List.mem_iff_getElem.1 hy
      rw [List.getElem_drop]
      left
      exact hg _ (by rw [List.length_drop] at hi; omega) (by omega)
    · rcases List.mem_cons.1 hy with rfl | hy
      · obtain ⟨i, hi, rfl⟩ := List.mem_iff_getElem.1 hx
        rw [List.length_take] at hi
        rw [List.getElem_take]
        have hio : i < o.length := by omega
        have hk := h.mem (List.getElem_mem hio)
        have hle : linA l o[i] ≤ linA l y := by
          rcases hl (by omega) with hz | hz
          · omega
          · by_cases e : i = j - 1
            · subst e; exact hz
            · have := List.pairwise_iff_getElem.1 h.asc i (j - 1) hio (by omega) (by omega)
              unfold Lx at this
              omega
        unfold Lx
        omega
      · exact hp.2.2 x hx y hy

/-! a row of places, sorted -/
def atP (zs : List Nat) (j : Nat) : Nat := zs.getD j (zs.headD 0)
theorem atP_at {zs : List Nat} {j : Nat} (h : j < zs.length) : atP zs j = zs[j] := by simp [atP, h]
theorem atP_mem {zs : List Nat} (h : zs ≠ []) (j : Nat) : atP zs j ∈ zs := by
  by_cases hj : j < zs.length
  · rw [atP_at hj]; exact List.getElem_mem hj
  · cases zs with
    | nil => exact absurd rfl h
    | cons z r =>
      have e : (z :: r)[j]? = none := List.getElem?_eq_none (Nat.le_of_not_lt hj)
      simp only [atP, List.getD, e, Option.getD_none, List.headD_cons]
      exact List.mem_cons.2 (Or.inl rfl)
def encP (zs : List Nat) (j : Nat) : Value := .int .i64 (atP zs j : Int)
def zOf (zs : List Nat) : List Int := zs.map (fun (j : Nat) => (j : Int))
theorem zOf_len (zs : List Nat) : (zOf zs).length = zs.length := by simp [zOf]
theorem cellsI2_len (zs : List Int) : (cellsI2 zs).length = zs.length := by
  unfold cellsI2
  induction zs with
  | nil => rfl
  | cons z r ih => simp [ih]
theorem cellsI2_at (zs : List Int) (j : Nat) : (cellsI2 zs)[j]? = zs[j]?.map (fun z => .int .i64 z) := by
  unfold cellsI2
  induction zs generalizing j with
  | nil => simp
  | cons z r ih => cases j with
    | zero => simp
    | succ j => simpa using ih j
theorem row_start {base : Nat} {t : TypeId} {w : World} {g n cap : Nat} {zs : List Nat} (h : w.ownsRow base t 1 (.slice (some ⟨g, 0, none⟩) n cap) n (cellsI2 (zOf zs))) : Row1 (encP zs) w g 0 (Array.range n) := by
  obtain ⟨h1, h2⟩ := h
  rw [cellsI2_len, zOf_len, Nat.mul_one] at h1
  rcases h2 with ⟨h2, _⟩ | ⟨g', cap', cur, hv, hb, hh, hn, hc, hs, ht⟩
  · cases h2
  injection hv with e1 e2 e3
  rw [Option.some.injEq, Addr.mk.injEq] at e1
  obtain ⟨rfl, _, _⟩ := e1
  subst e3
  rw [Nat.mul_one] at hs ht
  refine ⟨fun _ => rfl, fun j hj => ?_, (Array.getElem?_eq_some_iff.1 hh).1⟩
  rw [Array.size_range] at hj
  have hcur : cur[j]? = some (encP zs (Array.range n)[j]!) := by
    have e : (cur.toList.take n)[j]? = (cellsI2 (zOf zs))[j]? := by rw [ht]
    rw [List.getElem?_take, if_pos hj, cellsI2_at] at e
    rw [← Array.getElem?_toList, e]
    rw [getElem!_pos _ j (by simpa using hj)]
    simp [zOf, encP, atP_at (show j < zs.length by omega), List.getElem?_eq_getElem (show j < zs.length by omega)]
  refine ⟨?_, ?_⟩
  · simp only [World.cell?, hh, Nat.zero_add]
    simpa using hcur
  · simp [World.frozen?, hh]
theorem SW.belowB {enc : Nat → Value} {w0 W : World} {g : Nat} {d : Array Nat} {B : Nat} (h : SW enc w0 g 0 d W) (hB : B ≤ g) (hg : g < w0.heap.size) : Below B w0 W := by
  obtain ⟨m, os, rfl⟩ := h
  refine ⟨rfl, rfl, rfl, ?_, fun i hi => ?_⟩
  · unfold sortWorld; rw [size_grow, size_putRow]; show w0.heap.size ≤ w0.heap.size + _; omega
  · show ((putRow enc (Sort.ahead w0 m) g 0 d).heap ++ os)[i]? = _
    have hs : (putRow enc (Sort.ahead w0 m) g 0 d).heap.size = w0.heap.size := size_putRow enc (Sort.ahead w0 m) g 0 d
    rw [Array.getElem?_append_left (by rw [hs]; omega)]
    show (w0.heap.modify g _)[i]? = _
    rw [Array.getElem?_modify, if_neg (by omega)]
theorem row_end {base : Nat} {t : TypeId} {w W : World} {g n cap : Nat} {zs : List Nat} {d : Array Nat} (h : w.ownsRow base t 1 (.slice (some ⟨g, 0, none⟩) n cap) n (cellsI2 (zOf zs))) (hW : SW (encP zs) w g 0 d W) (hd : d.size = n) :
    W.ownsRow base t 1 (.slice (some ⟨g, 0, none⟩) n cap) n (cellsI2 (zOf ((List.range n).map (fun i => atP zs d[i]!)))) := by
  obtain ⟨m, os, rfl⟩ := hW
  obtain ⟨h1, h2⟩ := h
  refine ⟨by rw [cellsI2_len, zOf_len]; simp, ?_⟩
  rcases h2 with ⟨h2, _⟩ | ⟨g', cap', cur, hv, hb, hh, hn, hc, hs, ht⟩
  · cases h2
  injection hv with e1 e2 e3
  rw [Option.some.injEq, Addr.mk.injEq] at e1
  obtain ⟨rfl, _, _⟩ := e1
  subst e3
  have hg := (Array.getElem?_eq_some_iff.1 hh).1
  refine .inr ⟨g, cap, putCells (encP zs) 0 d cur, rfl, hb, ?_, hn, hc, by rw [← hs]; simp [putCells], ?_⟩
  · show ((putRow (encP zs) (Sort.ahead w m) g 0 d).heap ++ os)[g]? = _
    have hz : (putRow (encP zs) (Sort.ahead w m) g 0 d).heap.size = w.heap.size := size_putRow (encP zs) (Sort.ahead w m) g 0 d
    rw [Array.getElem?_append_left (by rw [hz]; exact hg)]
    show (w.heap.modify g _)[g]? = _
    rw [Array.getElem?_modify, if_pos rfl, hh]
    rfl
  · rw [Nat.mul_one] at *
    apply List.ext_getElem?
    intro j
    rw [List.getElem?_take, cellsI2_at]
    by_cases hj : j < n
    · rw [if_pos hj, Array.getElem?_toList]
      have hjc : j < cur.size := by omega
      simp only [putCells, Array.getElem?_mapIdx, Array.getElem?_eq_getElem hjc, Option.map_some]
      rw [if_pos ⟨Nat.zero_le _, by omega⟩]
      simp [zOf, encP, hj]
    · rw [if_neg hj]
      simp [zOf, hj]
/-- What the sort of the places leaves is the order. -/
theorem sorted_ord {l : List DeedD} {d : Array Nat} (hp : PermAll 0 (places l).length (Array.range (places l).length) d) (ha : Asc (fun j => linA l (atP (places l) j)) 0 (places l).length d) :
    (List.range (places l).length).map (fun i => atP (places l) d[i]!) = ordL l := by
  have hn : (Array.range (places l).length).size = (places l).length := Array.size_range
  generalize hN : (places l).length = n at *
  have hs : d.size = n := (hp.size (by rw [hn]; exact Nat.le_refl _)).trans hn
  have p1 := (hp 0 n (Nat.le_refl _) (Nat.le_refl _) (by rw [hn]; exact Nat.le_refl _)).2.2
  rw [extract_toList _ 0 n (by rw [hs]; exact Nat.le_refl _), extract_toList _ 0 n (by rw [hn]; exact Nat.le_refl _), Nat.sub_zero] at p1
  have e1 : (List.range' 0 n).map (fun i => (Array.range n)[i]!) = List.range n := by
    rw [← List.range_eq_range']
    rw [List.map_congr_left (g := id) (fun x hx => by
      have := List.mem_range.1 hx
      rw [getElem!_pos _ x (by simpa using this)]; simp), List.map_id]
  rw [e1, ← List.range_eq_range'] at p1
  have hlt : ∀ i, i < n → d[i]! < n := fun i hi => by
    have : d[i]! ∈ (List.range n).map (fun i => d[i]!) := List.mem_map.2 ⟨i, List.mem_range.2 hi, rfl⟩
    exact List.mem_range.1 (p1.mem_iff.1 this)
  refine OrdK.is ⟨?_, ?_⟩
  · have p2 := p1.map (atP (places l))
    rw [List.map_map] at p2
    refine p2.trans ?_
    have e2 : (List.range n).map (atP (places l)) = places l := by
      apply List.ext_getElem
      · simp [hN]
      · intro i h1 h2
        rw [List.getElem_map, List.getElem_range, atP_at h2]
    rw [e2]
    exact List.Perm.refl _
  · rw [List.pairwise_iff_getElem]
    intro i j hi hj hij
    simp only [List.length_map, List.length_range] at hi hj
    simp only [List.getElem_map, List.getElem_range]
    have h1 := ha i j (Nat.zero_le _) hij hj
    have h2 := hlt i hi
    have h3 := hlt j hj
    unfold Lx at *
    rcases h1 with h1 | ⟨h1, h4⟩
    · exact Or.inl h1
    · refine Or.inr ⟨h1, ?_⟩
      rw [atP_at (by omega), atP_at (by omega)]
      exact List.pairwise_iff_getElem.1 (places_asc l l.length) _ _ (by show _ < (places l).length; omega) (by show _ < (places l).length; omega) h4
end Go.Proofs.Ytopngelgpfjdeaa
