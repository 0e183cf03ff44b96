/-
  Stamps: what is in order, each once; whether a number is among a row's.
-/
import Derived.Test.YtopngelgpfjdeaaIns1
import Derived.Test.YtopngelgpfjdeaaDeeds1
import Derived.Lib.SlicesCompact
namespace Go.Proofs.Ytopngelgpfjdeaa
open Go.ChangeShapes Go.WideShapes Go.ChangeAt Go.RowKit Go.Sort
set_option linter.unusedVariables false
set_option maxRecDepth 100000

structure Once (ids zs : List Int) : Prop where
  mem : ∀ x, x ∈ zs ↔ x ∈ ids
  asc : zs.Pairwise (· < ·)
theorem Once.eq {ids zs ys : List Int} (h : Once ids zs) (h' : Once ids ys) : zs = ys := by
  have hp : zs.Perm ys := by
    rw [List.perm_iff_count]
    intro a
    have n1 : zs.Nodup := h.asc.imp (fun h => by omega)
    have n2 : ys.Nodup := h'.asc.imp (fun h => by omega)
    rw [n1.count, n2.count]
    by_cases e : a ∈ ids
    · rw [if_pos ((h.mem a).2 e), if_pos ((h'.mem a).2 e)]
    · rw [if_neg (fun q => e ((h.mem a).1 q)), if_neg (fun q => e ((h'.mem a).1 q))]
  exact List.Perm.eq_of_pairwise (fun a b _ _ h1 h2 => by omega) h.asc h'.asc hp
theorem compact_once {ids zs : List Int} (h : Srt ids zs) : Once ids (Go.Lib.compact zs) := by
  have hle : ∀ i j, i ≤ j → j < zs.length → zs.toArray[i]! ≤ zs.toArray[j]! := fun i j hij hj => by
    rw [getElem!_pos _ i (by simp; omega), getElem!_pos _ j (by simpa using hj)]
    by_cases e : i = j
    · subst e; exact Int.le_refl _
    · simpa using List.pairwise_iff_getElem.1 h.asc i j (by omega) hj (by omega)
  refine ⟨fun x => ?_, ?_⟩
  · unfold Go.Lib.compact Go.Lib.compactUpTo
    constructor
    · intro hx
      obtain ⟨j, hj, rfl⟩ := List.mem_map.1 hx
      have hlt := List.mem_range.1 (List.mem_filter.1 hj).1
      rw [← h.perm.mem_iff, getElem!_pos _ j (by simpa using hlt)]
      simp
    · intro hx
      rw [← h.perm.mem_iff] at hx
      obtain ⟨j, hj, rfl⟩ := List.mem_iff_getElem.1 hx
      have key : ∀ (j : Nat) (hj : j < zs.length), ∃ i, i ≤ j ∧ Go.Lib.keeps zs.toArray i = true ∧ zs.toArray[i]! = zs.toArray[j]! := by
        intro j
        induction j with
        | zero => exact fun _ => ⟨0, Nat.le_refl _, Go.Lib.keeps_lt_one _ 0 (by omega), rfl⟩
        | succ j ih =>
          intro hj
          by_cases e : zs.toArray[j + 1]! = zs.toArray[j]!
          · obtain ⟨i, h1, h2, h3⟩ := ih (by omega)
            exact ⟨i, by omega, h2, h3.trans e.symm⟩
          · exact ⟨j + 1, Nat.le_refl _, Go.Lib.keeps_pos (by simpa using e), rfl⟩
      obtain ⟨i, h1, h2, h3⟩ := key j hj
      refine List.mem_map.2 ⟨i, List.mem_filter.2 ⟨List.mem_range.2 (by omega), h2⟩, ?_⟩
      rw [h3, getElem!_pos _ j (by simpa using hj)]
      simp
  · unfold Go.Lib.compact Go.Lib.compactUpTo
    rw [List.pairwise_map]
    refine (List.Pairwise.filter _ List.pairwise_lt_range).imp_of_mem (fun {i j} hi hj hij => ?_)
    have hj1 := List.mem_filter.1 hj
    have hlt := List.mem_range.1 hj1.1
    have h1 := hle i (j - 1) (by omega) (by omega)
    have h2 := hle (j - 1) j (by omega) hlt
    have h3 : zs.toArray[j]! ≠ zs.toArray[j - 1]! := fun e => by
      have := Go.Lib.keeps_neg (d := zs.toArray) (m := j) (by omega) e
      rw [this] at hj1
      exact absurd hj1.2 (by simp)
    omega
def onceZ (ids : List Int) : List Int := Go.Lib.compact (sortZ ids)
theorem onceZ_once (ids : List Int) : Once ids (onceZ ids) := compact_once (sortZ_srt ids)
theorem Once.is {ids zs : List Int} (h : Once ids zs) : zs = onceZ ids := h.eq (onceZ_once ids)
theorem onceZ_len (ids : List Int) : (onceZ ids).length ≤ ids.length := by
  have h1 : (onceZ ids).length ≤ (sortZ ids).length := by
    unfold onceZ Go.Lib.compact Go.Lib.compactUpTo
    rw [List.length_map]
    refine Nat.le_trans (List.length_filter_le _ _) ?_
    rw [List.length_range]; exact Nat.le_refl _
  rw [(sortZ_srt ids).len] at h1
  exact h1
theorem Once.start : Once [] [] := ⟨fun _ => Iff.rfl, List.Pairwise.nil⟩
theorem Once.len {ids zs : List Int} (h : Once ids zs) : zs.length ≤ ids.length := by rw [h.is]; exact onceZ_len ids
theorem Once.skip {ids zs : List Int} {x : Int} (h : Once ids zs) (hx : x ∈ zs) : Once (ids ++ [x]) zs := ⟨fun y => by
  rw [List.mem_append, List.mem_singleton, h.mem y]
  constructor
  · exact .inl
  · rintro (h1 | rfl)
    · exact h1
    · exact (h.mem y).1 hx, h.asc⟩
theorem Once.put {ids zs : List Int} {x : Int} {j : Nat} (h : Once ids zs) (hx : ¬ x ∈ zs) (hj : j ≤ zs.length) (hg : ∀ i (hi : i < zs.length), j ≤ i → x < zs[i]) (hl : ∀ (hi : j - 1 < zs.length), j = 0 ∨ zs[j - 1] ≤ x) : Once (ids ++ [x]) (zs.take j ++ x :: zs.drop j) := by
  have hm : ∀ y, y ∈ zs.take j ∨ y ∈ zs.drop j ↔ y ∈ zs := fun y => by rw [← List.mem_append, List.take_append_drop]
  refine ⟨fun y => ?_, ?_⟩
  · rw [List.mem_append, List.mem_cons, List.mem_append, List.mem_singleton, ← h.mem y, ← hm y]
    constructor
    · rintro (h1 | rfl | h1)
      · exact .inl (.inl h1)
      · exact .inr rfl
      · exact .inl (.inr h1)
    · rintro ((h1 | h1) | rfl)
      · exact .inl h1
      · exact .inr (.inr h1)
      · exact .inr (.inl rfl)
  · have hp := h.asc
    rw [← List.take_append_drop j zs, List.pairwise_append] at hp
    rw [List.pairwise_append]
    refine ⟨hp.1, List.pairwise_cons.2 ⟨fun y hy => ?_, hp.2.1⟩, fun y hy z hz => ?_⟩
    · obtain ⟨i, hi, rfl⟩ := List.mem_iff_getElem.1 hy
      rw [List.getElem_drop]
      exact hg (j + i) (by rw [List.length_drop] at hi; omega) (by omega)
    · rcases List.mem_cons.1 hz with rfl | hz
      · have hyz : y ≠ z := fun e => hx (by rw [← e]; exact (hm y).1 (.inl hy))
        obtain ⟨i, hi, rfl⟩ := List.mem_iff_getElem.1 hy
        rw [List.length_take] at hi
        rw [List.getElem_take] at hyz ⊢
        rcases hl (by omega) with h0 | h0
        · omega
        · by_cases e : i = j - 1
          · subst e; omega
          · have := List.pairwise_iff_getElem.1 h.asc i (j - 1) (by omega) (by omega) (by omega)
            omega
      · exact hp.2.2 y hy z hz
set_option maxHeartbeats 2000000 in
theorem specHas {base : Nat} (g cap : Nat) (zs : List Int) (x : Int) (w : World) (h : w.ownsRow base 3 1 (.slice (some ⟨g, 0, none⟩) zs.length cap) zs.length (cellsI2 zs)) (hl : zs.length ≤ 16777216) :
    Calls Try.prog 93 #[.slice (some ⟨g, 0, none⟩) zs.length cap, .int .i64 x] w fun e w' => e = .returned (.bool (decide (x ∈ zs))) ∧ w' = w := by
  have H := hide h
  clear h
  go_enter Try.func93, Try.ntmps93
  go_wp2
  go_loopw [5] (fun i wk => ∃ k : Nat, k ≤ zs.length ∧ i = .int .i64 k ∧ Hid (∀ j (hj : j < zs.length), j < k → zs[j] ≠ x) ∧ wk = w) (fun i _ => zs.length - (intOf i).toNat)
  case atStart => exact ⟨0, Nat.zero_le _, rfl, hide (fun j _ h => by omega), rfl⟩
  case round =>
    obtain ⟨k, hk, rfl, hno, hw⟩ := hrel
    obtain rfl := hw.symm
    by_cases hlt : k < zs.length
    · have hki : (k : Int) < (zs.length : Int) := by omega
      have c := zcellZ (unhide H) k hlt
      by_cases e : zs[k] = x
      · have HF := hide (show decide (x ∈ zs) = true by rw [← e]; simp)
        have q : (zs[k] == x) = true := by simpa using e
        generalize zs[k] = Z at *
        clear e
        go_wp2
        go_ret
        exact ⟨ret_bool (unhide HF).symm, rfl⟩
      · have HN : Hid (∀ j (hj : j < zs.length), j < k + 1 → zs[j] ≠ x) := hide (fun j hj hjk => by
          by_cases ej : j = k
          · subst ej; exact e
          · exact unhide hno j hj (by omega))
        have q : (zs[k] == x) = false := by simpa using e
        generalize zs[k] = Z at *
        clear e hno
        go_wp2
        go_roundw
        case rel => exact ⟨k + 1, by omega, by go_num, HN, by first | rfl | trivial⟩
        case measure => simp [intOf]; omega
    · have hki : ¬ (k : Int) < (zs.length : Int) := by omega
      have HF := hide (show decide (x ∈ zs) = false by
        refine decide_eq_false (fun h => ?_)
        obtain ⟨j, hj, e⟩ := List.mem_iff_getElem.1 h
        exact unhide hno j hj (by omega) e)
      go_wp2
      go_ret
      exact ⟨ret_bool (unhide HF).symm, rfl⟩
end Go.Proofs.Ytopngelgpfjdeaa
