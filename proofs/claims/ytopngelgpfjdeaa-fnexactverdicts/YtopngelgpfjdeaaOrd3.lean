/-
  Order of the program.
-/
import Derived.Test.YtopngelgpfjdeaaOrd2
namespace Go.Proofs.Ytopngelgpfjdeaa
open Go.ChangeShapes Go.WideShapes Go.ChangeAt Go.RowKit Go.Sort Go.Shelf Go.Lib
set_option linter.unusedVariables false
set_option maxRecDepth 100000

theorem cellsI2_zsnoc (zs : List Nat) (k : Nat) : cellsI2 (zOf (zs ++ [k])) = cellsI2 (zOf zs) ++ [.int .i64 (k : Int)] := by simp [cellsI2, zOf]
def ImpO (l : List DeedD) (w wk : World) (v0 : Value) (k : Nat) (o : Value) : Prop := wk.ownsRow (w.heap.size + 1) 3 1 o (placesK l k).length (cellsI2 (zOf (placesK l k))) ∧ Below w.heap.size w wk ∧ wk.cell? ⟨w.heap.size, 0, none⟩ = some v0 ∧ w.heap.size + 1 ≤ wk.heap.size
set_option maxHeartbeats 4000000 in
theorem implOrder (l : List DeedD) (S0 : Nat → Prop) (v0 : Value) (w : World) (h0 : LAt 20 deedR w S0 v0 l) (b0 : bulkL deedBulk l ≤ 1048576) :
    Calls Try.prog 24 #[v0] w fun e w' => ∃ v', e = .returned v' ∧ w'.ownsRow w.heap.size 3 1 v' (ordL l).length (cellsI2 (zOf (ordL l))) ∧ Below w.heap.size w w' := by
  obtain ⟨a, cap0, rfl⟩ := h0.form
  have hlen := bulkL_len deedBulk l
  have HA := hide h0
  clear h0
  have hbx := boxed2 w (.slice a l.length cap0) 56
  have hbn := bnew w (.cells #[.slice a l.length cap0] 56)
  have hs1 : (w.alloc (.cells #[.slice a l.length cap0] 56)).heap.size = w.heap.size + 1 := by simp
  have HB1 := hide (And.intro hbn (And.intro hbx hs1))
  clear hbn hs1
  have hmf := hmf2
  go_enter Try.func24, Try.ntmps24
  go_upto_region 1 with fail
  generalize hW : World.alloc w _ = w1 at *
  clear hW
  obtain ⟨hb1, hbx1, hs1⟩ := unhide HB1
  have hbx1' : (w1.alloc (.cells #[] 3)).cell? ⟨w.heap.size, 0, none⟩ = some (.slice a l.length cap0) := by rw [(bnew w1 (.cells #[] 3)).cell (p := ⟨w.heap.size, 0, none⟩) (by show w.heap.size < _; omega)]; exact hbx1
  have how0 : Hid (ImpO l w (w1.alloc (.cells #[] 3)) (.slice a l.length cap0) 0 (.slice (some ⟨w1.heap.size, 0, none⟩) 0 0)) := hide ⟨World.ownsRow_made (base := w.heap.size + 1) (e := 3) (size := 1) w1 #[] 0 (by omega) (by unfold maxLen; omega) rfl, bthen hb1 (bnew w1 _), by rw [(bnew w1 (.cells #[] 3)).cell (p := ⟨w.heap.size, 0, none⟩) (by show w.heap.size < _; omega)]; exact hbx1, by simp; omega⟩
  have HS1 := hide hs1
  clear hb1 hbx hs1
  go_wp2
  go_loopw [3, 9] (fun o i wk => ∃ (k : Nat), k ≤ l.length ∧ i = .int .i64 k ∧ Hid (∃ g cap, o = .slice (some ⟨g, 0, none⟩) (placesK l k).length cap) ∧ Hid (ImpO l w wk (.slice a l.length cap0) k o)) (fun _ i _ => l.length - (intOf i).toNat)
  case atStart => exact ⟨0, Nat.zero_le _, rfl, hide ⟨w1.heap.size, 0, rfl⟩, how0⟩
  case round =>
    obtain ⟨k, hk, rfl, hform, hio⟩ := hrel
    clear how0 hbx1 hbx1'
    obtain ⟨hgr, hbl, hbx, hbs⟩ := unhide hio
    by_cases hlt : k < l.length
    · have hki : (k : Int) < (l.length : Int) := by omega
      obtain ⟨b, o, cs, rfl, hbk, hSb, hcs, hin⟩ := (unhide HA).at k hlt
      have hcs := deedR_keeps _ _ S0 None1 cs _ (Below.turn hbl) none_off hcs
      have hin := hin.turn hbk (Below.turn hbl) (fun e => e)
      have hXb : deedBulk l[k] ≤ 1048576 := by have := bulkL_mem deedBulk (List.getElem_mem hlt); omega
      have hrw : RowT Try.prog 130 cs.length := by rw [deedR_len hcs]; exact rowIDeed
      have HT := hide (tookA_at l hlt)
      have hpl := placesK_len l k
      generalize hX : l[k] = X at *
      clear hX
      have HL1 := hide (deedR_len hcs)
      have on1 := deedR_one hcs
      have hA1 := Held.new wr cs 130
      have hbA := bnew wr (.cells cs.toArray 130)
      have hcs := deedR_keeps _ _ S0 None1 cs _ (Below.turn hbA) none_off hcs
      have hgr2 := owns_below hgr hbA
      have hbx2 := hbA.cell (p := ⟨w.heap.size, 0, none⟩) (by show w.heap.size < _; omega)
      rw [hbx] at hbx2
      have hbl2 := bthen hbl hbA
      have hbs2 : w.heap.size + 1 ≤ (wr.alloc (.cells cs.toArray 130)).heap.size := by simp; omega
      have HG2 := hide (And.intro hgr2 hbx2)
      clear hgr2 hbx2 hgr hio
      go_upto_region 5 with (first | (refine wpl_load rfl 130 _ rfl _ _ rfl cs hin hrw ?_) | (refine wpl_store_new rfl _ _ _ rfl _ cs rfl rfl ?_ on1 hrw ?_; (rw [unhide HL1]; rfl)))
      generalize hWa : World.alloc wr _ = wa at *
      clear hWa hin on1 hbx
      go_wp2_with (first | (refine wpl_load rfl 130 _ rfl _ 0 rfl cs hA1.inB hrw ?_))
      refine (implTook X S0 cs _ hcs hXb).mono ?_
      rintro e w2 ⟨rfl, hb2⟩
      obtain ⟨hgr2, hbx2⟩ := unhide HG2
      have hgr3 := owns_below hgr2 hb2
      have hbx3 := hb2.cell (p := ⟨w.heap.size, 0, none⟩) (by show w.heap.size < _; omega)
      rw [hbx2] at hbx3
      have hbl3 := bthen hbl2 hb2
      have hbs3 := hb2.size
      clear hbx2 hgr2 hA1 hcs hrw HG2 hbA
      by_cases e : tookB X = true
      · have HP := hide (placesK_yes (l := l) (k := k) (by rw [unhide HT]; exact e))
        rw [e]
        clear e HT
        have hown4 := owns_below hgr3 (bnew w2 (.cells #[.int .i64 (k : Int)] 3))
        have hs4 : w.heap.size + 1 ≤ (w2.alloc (.cells #[.int .i64 (k : Int)] 3)).heap.size := by simp; omega
        have hb4 := bthen hbl3 (bnew w2 (.cells #[.int .i64 (k : Int)] 3))
        have hx4 := (bnew w2 (.cells #[.int .i64 (k : Int)] 3)).cell (p := ⟨w.heap.size, 0, none⟩) (by show w.heap.size < _; omega)
        rw [hbx3] at hx4
        have H4 := hide (And.intro hb4 hx4)
        have HF := hide hform
        clear hgr3 hb4 hx4 hbx3 hbl3 hb2 hbl2 hbl
        go_wp2_with (first | (at_builtin; refine wpl_append2 rfl (.tmp 16) (.tmp 18) 69 rfl (w.heap.size + 1) 3 _ 1 8 Try.underlying69 infoI2 rfl (by decide) _ _ _ rfl hown4 ⟨_, 0, none⟩ 1 1 [.int .i64 (k : Int)] rfl rfl (lit_cells4 w2 [.int .i64 (k : Int)] 3) (by intro v hv; simp at hv; subst hv; rfl) (by unfold maxLen; omega) (by omega) hs4 ?_))
        intro v' w' how hg hv
        obtain ⟨hb4, hx4⟩ := unhide H4
        have bl1 := grown_below hb4 hg (fun k hk => by have := (hown4.lt k hk).1; omega) (by omega)
        have hx5 := hg.cell hx4 (fun e => by have := (hown4.lt w.heap.size e.symm).1; omega)
        have hs5 := hg.size
        rw [← cellsI2_zsnoc, ← unhide HP, show (placesK l k).length + 1 = (placesK l (k + 1)).length by rw [unhide HP]; simp] at how
        have hp1 : 0 < (placesK l (k + 1)).length := by rw [unhide HP]; simp
        obtain ⟨g', cap', rfl⟩ := slice_form how hp1
        have HST := hide (show ImpO l w w' (.slice (some ⟨b, o, none⟩) l.length cap0) (k + 1) (.slice (some ⟨g', 0, none⟩) (placesK l (k + 1)).length cap') from ⟨how, bl1, hx5, by omega⟩)
        clear how hg hv bl1 hown4 hb4 hx4 hx5 hform HF hp1
        go_wp2
        go_roundw
        case rel => exact ⟨k + 1, by omega, by go_num, hide ⟨g', cap', rfl⟩, HST⟩
        case measure => simp [intOf]; omega
      · have e : tookB X = false := by simpa using e
        have HP := hide (placesK_no (l := l) (k := k) (by rw [unhide HT]; exact e))
        rw [e]
        clear e HT
        have HST := hide (show ImpO l w w2 (.slice (some ⟨b, o, none⟩) l.length cap0) (k + 1) _ from ⟨by rw [unhide HP]; exact hgr3, hbl3, hbx3, by omega⟩)
        clear hgr3 hbx3 hbl3 hb2 hbl2 hbl
        go_wp2
        go_roundw
        case rel => exact ⟨k + 1, by omega, by go_num, by rw [unhide HP]; exact hform, HST⟩
        case measure => simp [intOf]; omega
    · have hki : ¬ (k : Int) < (l.length : Int) := by omega
      obtain rfl : k = l.length := by omega
      obtain ⟨g, cap, rfl⟩ := unhide hform
      have hgb : g ≠ w.heap.size := by have := (hgr.lt g rfl).1; omega
      have hso := implSortBy l S0 _ w wr (unhide HA) hbl w.heap.size g cap (w.heap.size + 1) (by omega) hbx (by omega) hgb hgr (by omega)
      have HSO := hide hso
      clear hso hgr hbl hbx hio
      go_wp2_with fail
      refine (unhide HSO).mono ?_
      rintro e w3 ⟨rfl, h1, h2⟩
      have hn : (places l).length = (ordL l).length := (ordL_ord l).perm.length_eq.symm
      have hr2 := owns_base (base' := w.heap.size) h1 (by omega)
      rw [hn] at hr2
      have HR := hide (And.intro hr2 h2)
      have HN := hide hn
      clear h1 h2 hr2 hn hmf
      go_wp2
      go_ret
      refine ⟨_, rfl, ?_, (unhide HR).2⟩
      have := (unhide HR).1
      rw [← unhide HN] at this ⊢
      exact this
end Go.Proofs.Ytopngelgpfjdeaa
