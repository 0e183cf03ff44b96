/-
  A walk through rules: how it leaves a list that is done.
-/
import Derived.Test.YtlhjhnjpmafceaaWk2
import Derived.RangeFuncBox
namespace Go.Proofs.Ytlhjhnjpmafceaa
open Go.ChangeShapes Go.WideShapes Go.ChangeAt Go.RowKit
set_option linter.unusedVariables false
set_option maxRecDepth 100000

theorem take_set_last {α : Type} (l r : List α) (a b x : α) (h : l.take (r.length + 2) = r ++ [a] ++ [b]) : (l.set r.length x).take (r.length + 1) = r ++ [x] := by
  rw [List.take_set]
  have e : l.take (r.length + 1) = r ++ [a] := by
    have : l.take (r.length + 1) = (l.take (r.length + 2)).take (r.length + 1) := by rw [List.take_take]; congr 1; omega
    rw [this, h]
    exact List.take_left' (by simp)
  rw [e, List.set_append_right _ _ (Nat.le_refl _)]
  simp
theorem tail_at {w : World} {S : Nat → Prop} {b o c : Nat} {y : PolD} {s : List PolD} (h : LAtX 5 polX w S (.slice (some ⟨b, o, none⟩) (s.length + 1) c) (y :: s)) : LAtX 5 polX w S (.slice (if c = 1 then some ⟨b, o, none⟩ else some ⟨b, o + 5, none⟩) s.length (c - 1)) s := by
  have hc := h.cap.le
  have hl := h.len
  obtain ⟨a, cap, e, _, hh⟩ := h.at1
  injection e with e1 e2 e3
  subst e1
  rcases hh with hh | ⟨b', o', e1, h2, h3, h4⟩
  · cases hh
  injection e1 with e1
  injection e1 with e1 e4
  subst e1
  subst e4
  by_cases h1 : c = 1
  · subst h1
    have hs : s = [] := List.eq_nil_of_length_eq_zero (by omega)
    subst hs
    exact ⟨⟨_, _, rfl, by simp, .inl rfl⟩, CapV.mk (by simp), fun b o n c e hn => by injection e with _ e _; simp at e; omega⟩
  · rw [if_neg h1]
    refine ⟨⟨_, _, rfl, by simp at hl; omega, .inr ⟨b, o + 5, rfl, h2, h3, fun i x hx => ?_⟩⟩, CapV.mk (by omega), PlainV.mk (h.plain _ _ _ _ rfl (by simp))⟩
    obtain ⟨cs, g1, g2⟩ := h4 (i + 1) x (by simpa using hx)
    exact ⟨cs, g1, by rw [show o + 5 + i * 5 = o + (i + 1) * 5 by omega]; exact g2⟩
section
variable {P : TypeId × TypeId} {w w' : World} {S T U : Nat → Prop} {B g cap : Nat} {cur : Array Value} {us : List Value} {b : BasD}
theorem WalkX.pop1 {u : Value} (h : WalkX P w S T B g cap cur [u] [[]] b) (hB : w'.heap[B]? = some (.cells (#[.slice (some ⟨g, 0, none⟩) 0 cap] ++ (basC b).toArray) P.1 (0, 0))) (hg : w'.heap[g]? = w.heap[g]?) (ht : Turn T w w') : WalkX P w' S T B g cap cur [] [] b :=
  { blk := hB, row := hg.trans h.row, cap1 := by simp, cap2 := h.cap2, size := h.size, take := by simp, stk := trivial, chain := trivial, deep := by simp [leftS], tB := h.tB, tg := h.tg, sT := h.sT, tl := fun k hk => Nat.lt_of_lt_of_le (h.tl k hk) ht.size, sl := fun k hk => Nat.lt_of_lt_of_le (h.sl k hk) ht.size }
theorem WalkX.pop2 {u u2 u3 : Value} {M : List PolD} {st : List (List PolD)} (h : WalkX P w S T B g cap cur (u :: u2 :: us) ([] :: M :: st) b) (hu : LAtX 5 polX w S u3 M.tail)
    (hB : w'.heap[B]? = some (.cells (#[.slice (some ⟨g, 0, none⟩) (us.length + 1) cap] ++ (basC b).toArray) P.1 (0, 0))) (hg : w'.heap[g]? = some (.cells (cur.setIfInBounds us.length u3) P.2 (0, 0))) (ht : Turn T w w') :
    WalkX P w' S T B g cap (cur.setIfInBounds us.length u3) (u3 :: us) (M.tail :: st) b :=
  { blk := hB, row := hg, cap1 := by have := h.cap1; simp at this ⊢; omega, cap2 := h.cap2, size := by rw [Array.size_setIfInBounds]; exact h.size
    take := by
      have e := h.take
      simp only [List.length_cons, List.reverse_cons] at e ⊢
      have := take_set_last cur.toList us.reverse u2 u u3 (by rw [List.length_reverse]; exact e)
      rw [List.length_reverse] at this
      simpa using this
    stk := ⟨hu.turn polX_keeps ht h.sT, (h.stk.2.2).keep ht h.sT⟩, chain := chain_pop h.chain
    deep := by have := h.deep; rw [leftS_pop] at this; simp at this ⊢; omega
    tB := h.tB, tg := h.tg, sT := h.sT, tl := fun k hk => Nat.lt_of_lt_of_le (h.tl k hk) ht.size, sl := fun k hk => Nat.lt_of_lt_of_le (h.sl k hk) ht.size }
end
set_option maxHeartbeats 4000000 in
theorem implLeave {w : World} {S T : Nat → Prop} {B g cap : Nat} {cur : Array Value} {u : Value} {us : List Value} {st : List (List PolD)} {b : BasD} (h : WalkX (60, 27) w S T B g cap cur (u :: us) ([] :: st) b) :
    Calls Try.prog 52 #[.pointer (some ⟨B, 0, none⟩), .int .i64 us.length] w fun e w' => (∃ v, e = .returned v) ∧ Turn T w w' ∧ ∃ cur2 us2 st2, WalkX (60, 27) w' S T B g cap cur2 us2 st2 b ∧ leftS st2 = leftS ([] :: st) ∧ us2.length = us.length := by
  have hd := h.deep
  have hne := h.ne (by decide)
  have c0 := h.cellB 0 _ rfl
  have f0 := h.freeB 0
  have hc1 := h.cap1
  have hc2 := h.cap2
  unfold maxLen at hc2
  have hl := h.stk.len
  simp at hd hc1 hl c0
  have q1 : (us.length : Int) ≤ (cap : Int) := by omega
  have hblk1 := off_setCell w B 0 _ _ (.slice (some ⟨g, 0, none⟩) us.length cap) h.blk
  have hT1 : Turn T w (w.setCell ⟨B, 0, none⟩ (.slice (some ⟨g, 0, none⟩) us.length cap)) := (Turn.refl T w).setIn h.tB _
  match us, st, h, hl with
  | [], [], h, _ =>
    have HF := hide (And.intro (h.pop1 (w' := w.setCell ⟨B, 0, none⟩ (.slice (some ⟨g, 0, none⟩) 0 cap)) hblk1 (Below.heap_setCell _ _ _ _ (Ne.symm hne)) hT1) hT1)
    simp only [List.length_nil]
    clear h hblk1 hT1
    go_enter Try.func52, Try.ntmps52
    go_wp2
    go_end0
    obtain ⟨h1, h2⟩ := unhide HF
    exact ⟨⟨_, rfl⟩, h2, _, _, _, h1, rfl, rfl⟩
  | u2 :: us, M :: st, h, _ =>
    obtain ⟨⟨y, s, rfl, hys⟩, hch⟩ := h.chain
    obtain ⟨b1, o1, k1, cs1, rfl, hk1, hp1, hb1, hS1, hr1, hi1⟩ := h.stk.2.1.ptr1
    have hls := h.stk.2.1.len
    have cg := h.cellG us.length (by simp; omega)
    have fg := h.freeG us.length
    simp at cg hd hc1 q1 hls c0
    have hx := tail_at h.stk.2.1
    have m1 : (0 : Int) < (us.length : Int) + 1 := by omega
    have m2 : (us.length : Int) + 1 - 1 = (us.length : Int) := by omega
    have m3 : (us.length : Int) < (us.length : Int) + 1 := by omega
    have m4 : (0 : Int) ≤ (us.length : Int) := by omega
    have m5 : (1 : Int) ≤ (s.length : Int) + 1 := by omega
    have hg1 : (w.setCell ⟨B, 0, none⟩ (.slice (some ⟨g, 0, none⟩) (us.length + 1) cap)).heap[g]? = some (.cells cur 27 (0, 0)) := (Below.heap_setCell _ _ _ _ (Ne.symm hne)).trans h.row
    simp only [List.length_cons] at hblk1 hT1 ⊢
    generalize hW1 : w.setCell ⟨B, 0, none⟩ (.slice (some ⟨g, 0, none⟩) (us.length + 1) cap) = w1 at *
    have c1 : w1.cell? ⟨B, 0, none⟩ = some (.slice (some ⟨g, 0, none⟩) (us.length + 1) cap) := by rw [← hW1]; exact World.cell?_setCell_same' _ _ _ (by rw [c0]; rfl)
    have cg1 : w1.cell? ⟨g, us.length, none⟩ = some (.slice (some ⟨b1, o1, none⟩) (s.length + 1) k1) := by rw [← hW1, World.cell?_setCell_other _ _ _ _ (fun e => hne (by injection e))]; exact cg
    have fg1 : w1.frozen? ⟨g, us.length, none⟩ = false := by rw [← hW1, World.frozen?_setCell]; exact fg
    have key : ∀ w2, w2 = (w1.drew).setCell ⟨g, us.length, none⟩ (.slice (if k1 = 1 then some ⟨b1, o1, none⟩ else some ⟨b1, o1 + 5, none⟩) s.length (k1 - 1)) → Turn T w w2 ∧ ∃ cur2 us2 st2, WalkX (60, 27) w2 S T B g cap cur2 us2 st2 b ∧ leftS st2 = leftS ([] :: (y :: s) :: st) ∧ us2.length = us.length + 1 := by
      rintro w2 rfl
      have hd1 : Turn T w1 w1.drew := (Below.turn (Below.drew (Below.refl w1.heap.size w1))).mono (fun k e => e.elim)
      have hT2 : Turn T w ((w1.drew).setCell ⟨g, us.length, none⟩ (.slice (if k1 = 1 then some ⟨b1, o1, none⟩ else some ⟨b1, o1 + 5, none⟩) s.length (k1 - 1))) := (hT1.trans hd1).setIn h.tg _
      refine ⟨hT2, _, _, _, h.pop2 (M := y :: s) hx ?_ ?_ hT2, (leftS_pop _ _).symm, by simp⟩
      · exact (Below.heap_setCell _ _ _ _ hne).trans hblk1
      · exact off_setCell _ _ _ _ _ _ hg1
    have HK := hide key
    clear key h hys hch hx hr1 hi1 hS1 hb1 hp1 hblk1 hT1 hg1 hl
    have HW := hide hW1
    by_cases hk : k1 = 1
    · subst hk
      obtain rfl : s = [] := List.eq_nil_of_length_eq_zero (by omega)
      rw [if_pos rfl] at HK
      go_enter Try.func52, Try.ntmps52
      go_wp2
      go_region
      all_goals go_wp2
      all_goals go_end0
      all_goals exact ⟨⟨_, rfl⟩, unhide HK _ rfl⟩
    · rw [if_neg hk] at HK
      have hk' : ¬ 1 = k1 := fun e => hk e.symm
      go_enter Try.func52, Try.ntmps52
      go_wp2
      go_region
      all_goals go_wp2
      all_goals go_end0
      all_goals exact ⟨⟨_, rfl⟩, unhide HK _ rfl⟩
end Go.Proofs.Ytlhjhnjpmafceaa
