/-
  What a sorted row of ints is when each is kept but once, and when nothing comes twice.
-/
import Derived.Test.YtjhlammjnggghaaIns1
import Derived.Lib.SlicesCompact
namespace Go.Proofs.Ytjhlammjnggghaa
open Go.RowKit Go.Sort Go.Shelf
set_option linter.unusedVariables false
set_option maxRecDepth 100000

structure Once (ids zs : List Int) : Prop where
  mem : ∀ x, x ∈ zs ↔ x ∈ ids
  asc : zs.Pairwise (· < ·)
theorem Once.eq {ids zs ys : List Int} (h : Once ids zs) (h' : Once ids ys) : zs = ys := by
  have hp : zs.Perm ys := by
    rw [List.perm_iff_count]
    intro a
    have n1 : zs.Nodup := h.asc.imp (fun h => by omega)
    have n2 : ys.Nodup := h'.asc.imp (fun h => by omega)
    rw [n1.count, n2.count]
    by_cases e : a ∈ ids
    · rw [if_pos ((h.mem a).2 e), if_pos ((h'.mem a).2 e)]
    · rw [if_neg (fun q => e ((h.mem a).1 q)), if_neg (fun q => e ((h'.mem a).1 q))]
  exact List.Perm.eq_of_pairwise (fun a b _ _ h1 h2 => by omega) h.asc h'.asc hp
theorem compact_once {ids zs : List Int} (h : Srt ids zs) : Once ids (Go.Lib.compact zs) := by
  have hle : ∀ i j, i ≤ j → j < zs.length → zs.toArray[i]! ≤ zs.toArray[j]! := fun i j hij hj => by
    rw [getElem!_pos _ i (by simp; omega), getElem!_pos _ j (by simpa using hj)]
    by_cases e : i = j
    · subst e; exact Int.le_refl _
    · simpa using List.pairwise_iff_getElem.1 h.asc i j (by omega) hj (by omega)
  refine ⟨fun x => ?_, ?_⟩
  · unfold Go.Lib.compact Go.Lib.compactUpTo
    constructor
    · intro hx
      obtain ⟨j, hj, rfl⟩ := List.mem_map.1 hx
      have hlt := List.mem_range.1 (List.mem_filter.1 hj).1
      rw [← h.perm.mem_iff, getElem!_pos _ j (by simpa using hlt)]
      simp
    · intro hx
      rw [← h.perm.mem_iff] at hx
      obtain ⟨j, hj, rfl⟩ := List.mem_iff_getElem.1 hx
      have key : ∀ (j : Nat) (hj : j < zs.length), ∃ i, i ≤ j ∧ Go.Lib.keeps zs.toArray i = true ∧ zs.toArray[i]! = zs.toArray[j]! := by
        intro j
        induction j with
        | zero => exact fun _ => ⟨0, Nat.le_refl _, Go.Lib.keeps_lt_one _ 0 (by omega), rfl⟩
        | succ j ih =>
          intro hj
          by_cases e : zs.toArray[j + 1]! = zs.toArray[j]!
          · obtain ⟨i, h1, h2, h3⟩ := ih (by omega)
            exact ⟨i, by omega, h2, h3.trans e.symm⟩
          · exact ⟨j + 1, Nat.le_refl _, Go.Lib.keeps_pos (by simpa using e), rfl⟩
      obtain ⟨i, h1, h2, h3⟩ := key j hj
      refine List.mem_map.2 ⟨i, List.mem_filter.2 ⟨List.mem_range.2 (by omega), h2⟩, ?_⟩
      rw [h3, getElem!_pos _ j (by simpa using hj)]
      simp
  · unfold Go.Lib.compact Go.Lib.compactUpTo
    rw [List.pairwise_map]
    refine (List.Pairwise.filter _ List.pairwise_lt_range).imp_of_mem (fun {i j} hi hj hij => ?_)
    have hj1 := List.mem_filter.1 hj
    have hlt := List.mem_range.1 hj1.1
    have h1 := hle i (j - 1) (by omega) (by omega)
    have h2 := hle (j - 1) j (by omega) hlt
    have h3 : zs.toArray[j]! ≠ zs.toArray[j - 1]! := fun e => by
      have := Go.Lib.keeps_neg (d := zs.toArray) (m := j) (by omega) e
      rw [this] at hj1
      exact absurd hj1.2 (by simp)
    omega
theorem sub_len : ∀ (ys ids : List Int), ys.Nodup → (∀ x, x ∈ ys → x ∈ ids) → ys.length ≤ ids.length
  | [], _, _, _ => by simp
  | y :: r, ids, hn, hs => by
    have hy : y ∈ ids := hs y (by simp)
    have hr := sub_len r (ids.erase y) (List.nodup_cons.1 hn).2 (fun x hx => by
      have hne : x ≠ y := fun e => (List.nodup_cons.1 hn).1 (e ▸ hx)
      exact (List.mem_erase_of_ne hne).2 (hs x (by simp [hx])))
    rw [List.length_erase_of_mem hy] at hr
    have := List.length_pos_of_mem hy
    simp only [List.length_cons]
    omega
theorem thin : ∀ ids : List Int, ∃ js : List Int, (∀ x, x ∈ ids → x ∈ js) ∧ js.length ≤ ids.length ∧ (¬ ids.Nodup → js.length < ids.length)
  | [] => ⟨[], by simp, by simp, by simp⟩
  | y :: r => by
    obtain ⟨js, h1, h2, h3⟩ := thin r
    by_cases hy : y ∈ r
    · exact ⟨js, fun x hx => by
        rcases List.mem_cons.1 hx with rfl | hx
        · exact h1 _ hy
        · exact h1 _ hx, by simp; omega, fun _ => by simp; omega⟩
    · refine ⟨y :: js, fun x hx => ?_, by simp; omega, fun hn => ?_⟩
      · rcases List.mem_cons.1 hx with rfl | hx
        · simp
        · simp [h1 _ hx]
      · have := h3 (fun e => hn (List.nodup_cons.2 ⟨hy, e⟩))
        simp; omega
theorem Once.nodup {ids zs : List Int} (h : Once ids zs) : zs.length = ids.length ↔ ids.Nodup := by
  have n1 : zs.Nodup := h.asc.imp (fun h => by omega)
  constructor
  · intro e
    by_cases hn : ids.Nodup
    · exact hn
    · obtain ⟨js, h1, _, h3⟩ := thin ids
      have := sub_len zs js n1 (fun x hx => h1 x ((h.mem x).1 hx))
      have := h3 hn
      omega
  · intro hn
    have a := sub_len zs ids n1 (fun x hx => (h.mem x).1 hx)
    have b := sub_len ids zs hn (fun x hx => (h.mem x).2 hx)
    omega
theorem once_nodup (ids : List Int) : (Go.Lib.compact (sortZ ids)).length = ids.length ↔ ids.Nodup := (compact_once (sortZ_srt ids)).nodup
end Go.Proofs.Ytjhlammjnggghaa
