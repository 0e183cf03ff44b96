/-
  StampsOf of the program.
-/
import Derived.Test.YtopngelgpfjdeaaStm1
import Derived.Test.YtopngelgpfjdeaaSrt1
import Derived.Test.YtopngelgpfjdeaaLayCmp
namespace Go.Proofs.Ytopngelgpfjdeaa
open Go.ChangeShapes Go.WideShapes Go.ChangeAt Go.RowKit Go.Sort Go.Shelf
set_option linter.unusedVariables false
set_option maxRecDepth 100000

theorem zshrink {base : Nat} {t : TypeId} {w : World} {g n m cap : Nat} {ys : List Int} (h : w.ownsRow base t 1 (.slice (some ⟨g, 0, none⟩) n cap) n (cellsI2 ys)) (hm : m ≤ n) : w.ownsRow base t 1 (.slice (some ⟨g, 0, none⟩) m cap) m (cellsI2 (ys.take m)) := by
  obtain ⟨h1, h2⟩ := h
  rw [zlen, Nat.mul_one] at h1
  refine ⟨by rw [zlen, List.length_take]; omega, ?_⟩
  rcases h2 with ⟨h2, _⟩ | ⟨g', cap', cur, hv, hb, hh, hn, hc, hs, ht⟩
  · cases h2
  injection hv with e1 e2 e3
  rw [Option.some.injEq, Addr.mk.injEq] at e1
  obtain ⟨rfl, _, _⟩ := e1
  subst e3
  refine .inr ⟨g, cap, cur, rfl, hb, hh, by omega, hc, hs, ?_⟩
  rw [← ztake, ← ht, List.take_take]
  congr 1
  omega
theorem implCompact {base : Nat} (w : World) (g cap : Nat) (zs : List Int) (h : w.ownsRow base 3 1 (.slice (some ⟨g, 0, none⟩) zs.length cap) zs.length (cellsI2 zs)) (hl : zs.length ≤ 16777216) :
    Calls Try.prog 96 #[.slice (some ⟨g, 0, none⟩) zs.length cap] w fun e w' => e = .returned (.slice (some ⟨g, 0, none⟩) (Go.Lib.compact zs).length cap) ∧ w'.ownsRow base 3 1 (.slice (some ⟨g, 0, none⟩) (Go.Lib.compact zs).length cap) (Go.Lib.compact zs).length (cellsI2 (Go.Lib.compact zs)) ∧ Below base w w' := by
  have hg := h.lt g rfl
  have hcl : (Go.Lib.compact zs).length ≤ zs.length := by
    unfold Go.Lib.compact Go.Lib.compactUpTo
    rw [List.length_map]
    refine Nat.le_trans (List.length_filter_le _ _) ?_
    rw [List.length_range]; exact Nat.le_refl _
  have hc := AnyG.slices_Compact_int Try.layCmp g 0 cap zs w (zrow_holds h) (by omega) (zcap h).1
  change Calls Try.prog 96 _ _ _ at hc
  refine hc.mono ?_
  rintro e w' ⟨rfl, q, hw⟩
  have hw2 : w' = grow (putRow (Value.int .i64) (Sort.ahead w q) g 0 (Go.Lib.compact zs ++ List.replicate (zs.length - (Go.Lib.compact zs).length) 0).toArray) #[] := by rw [hw, grow_empty]
  have hr := zrow_end (m := q) (os := #[]) (ys := Go.Lib.compact zs ++ List.replicate (zs.length - (Go.Lib.compact zs).length) 0) h (by simp; omega)
  rw [← hw2] at hr
  have hr2 := zshrink hr hcl
  rw [List.take_append_of_le_length (Nat.le_refl _), List.take_length] at hr2
  refine ⟨rfl, hr2, ?_⟩
  rw [hw2]
  exact zrow_below hg.1 hg.2
def ImSt (l : List DeedD) (w wk : World) (k : Nat) (u : Value) : Prop := wk.ownsRow w.heap.size 3 1 u (stI (l.take k)).length (cellsI2 (stI (l.take k))) ∧ Below w.heap.size w wk
theorem st_snoc (l : List Int) (x : Int) : cellsI2 (l ++ [x]) = cellsI2 l ++ [.int .i64 x] := by simp [cellsI2]
set_option maxHeartbeats 4000000 in
theorem implStampsOf (l : List DeedD) (S0 : Nat → Prop) (v0 : Value) (w : World) (h0 : LAt 20 deedR w S0 v0 l) (b0 : bulkL deedBulk l ≤ 1048576) :
    Calls Try.prog 40 #[v0] w fun e w' => ∃ v', e = .returned v' ∧ LOw 1 intO w' (Within w.heap.size w'.heap.size) v' (stZ l) ∧ Below w.heap.size w w' := by
  obtain ⟨a, cap0, rfl⟩ := h0.form
  have hlen := bulkL_len deedBulk l
  have HA := hide h0
  clear h0
  have how0 := hide (show ImSt l w (w.alloc (.cells #[] 3)) 0 (.slice (some ⟨w.heap.size, 0, none⟩) 0 0) from ⟨by simpa [stI, cellsI2] using World.ownsRow_made (base := w.heap.size) (e := 3) (size := 1) w #[] 0 (Nat.le_refl _) (by unfold maxLen; omega) rfl, bnew w (.cells #[] 3)⟩)
  go_enter Try.func40, Try.ntmps40
  go_wp2
  go_loopw [3, 9] (fun u i wk => ∃ (k : Nat), k ≤ l.length ∧ i = .int .i64 k ∧ Hid (∃ g cap, u = .slice (some ⟨g, 0, none⟩) (stI (l.take k)).length cap) ∧ Hid (ImSt l w wk k u)) (fun _ i _ => l.length - (intOf i).toNat)
  case atStart => exact ⟨0, Nat.zero_le _, rfl, hide ⟨w.heap.size, 0, by simp [stI]⟩, how0⟩
  case round =>
    obtain ⟨k, hk, rfl, hform, hin0⟩ := hrel
    clear how0
    have hpre := stI_len l k
    obtain ⟨hrow, hbl⟩ := unhide hin0
    by_cases hlt : k < l.length
    · have hki : (k : Int) < (l.length : Int) := by omega
      obtain ⟨b, o, cs, rfl, hbk, hSb, hcs, hin⟩ := (unhide HA).at k hlt
      have hcs := deedR_keeps _ _ S0 None1 cs _ (Below.turn hbl) none_off hcs
      have hin := hin.turn hbk (Below.turn hbl) (fun e => e)
      have hXb : deedBulk l[k] ≤ 1048576 := by have := bulkL_mem deedBulk (List.getElem_mem hlt); omega
      have hrw : RowT Try.prog 130 cs.length := by rw [deedR_len hcs]; exact rowIDeed
      have HY : Hid (stB l[k] = true → stI (l.take (k + 1)) = stI (l.take k) ++ [l[k].stamp]) := hide (fun e => stI_yes hlt e)
      have HN : Hid (stB l[k] = false → stI (l.take (k + 1)) = stI (l.take k)) := hide (fun e => stI_no hlt e)
      generalize l[k] = X at *
      have HL1 := hide (deedR_len hcs)
      have on1 := deedR_one hcs
      have hA1 := Held.new wr cs 130
      have hbA := bnew wr (.cells cs.toArray 130)
      have hcs := deedR_keeps _ _ S0 None1 cs _ (Below.turn hbA) none_off hcs
      have HE0 := hide (And.intro (owns_below hrow hbA) (bthen hbl hbA))
      clear hrow hbl hbA hin0
      go_upto_region 5 with (first | (refine wpl_load rfl 130 _ rfl _ _ rfl cs hin hrw ?_) | (refine wpl_store_new rfl _ _ _ rfl _ cs rfl rfl ?_ on1 hrw ?_; (rw [unhide HL1]; rfl)))
      generalize hWa : World.alloc wr _ = wa at *
      clear hWa hin on1
      go_wp2_with (first | (refine wpl_load rfl 130 _ rfl _ 0 rfl cs hA1.inB hrw ?_))
      refine (implOffered X 1 S0 cs _ hcs hXb).mono ?_
      rintro e w3 ⟨rfl, hb3⟩
      have hA3 := hA1.keep hb3
      have p9 := hA3.2 9 _ (deedR_c9 hcs)
      obtain ⟨hrow0, hbl0⟩ := unhide HE0
      have hrow := owns_below hrow0 hb3
      have hbl := bthen hbl0 hb3
      clear hA1 hA3 hcs hrw HE0 hb3 hrow0 hbl0
      by_cases ej : offB 1 X = true
      · rw [ej]
        by_cases e2 : 0 < X.stamp
        · have HD := hide (unhide HY (by simp [stB, ej, e2]))
          clear ej
          have hb2 := bnew w3 (.cells #[.int .i64 X.stamp] 3)
          have hrow2 := owns_below hrow hb2
          have hs2 : w.heap.size ≤ (w3.alloc (.cells #[.int .i64 X.stamp] 3)).heap.size := by have := hb2.size; have := hbl.size; omega
          have HE := hide hbl
          have HF := hide hform
          clear hbl hrow hform
          go_wp2_with (first | (at_builtin; refine wpl_append2 rfl (.tmp 20) (.tmp 23) 69 rfl w.heap.size 3 _ 1 8 Try.underlying69 infoI2 rfl (by decide) _ _ _ rfl hrow2 ⟨_, 0, none⟩ 1 1 [.int .i64 X.stamp] rfl rfl (lit_cells4 w3 [.int .i64 X.stamp] 3) (by intro v hv; simp at hv; subst hv; rfl) (by unfold maxLen; omega) (by omega) hs2 ?_))
          intro v' w' how hg hv
          have hbl := unhide HE
          have bl1 := grown_below (bthen hbl hb2) hg (fun q hq => (hrow2.lt q hq).1) hs2
          rw [← st_snoc, ← unhide HD] at how
          have hl1 : (stI (l.take k)).length + 1 = (stI (l.take (k + 1))).length := by rw [unhide HD]; simp
          rw [hl1] at how
          have hp1 : 0 < (stI (l.take (k + 1))).length := by omega
          obtain ⟨g', cap', rfl⟩ := zform how hp1
          have HST := hide (show ImSt l w w' (k + 1) (.slice (some ⟨g', 0, none⟩) (stI (l.take (k + 1))).length cap') from ⟨how, bl1⟩)
          clear how hg hv bl1 hbl hrow2 HE hb2 hl1 hp1 p9
          go_wp2
          go_roundw
          case rel => exact ⟨k + 1, by omega, by go_num, hide ⟨g', cap', rfl⟩, HST⟩
          case measure => simp [intOf]; omega
        · have HD := hide (unhide HN (by simp [stB, e2]))
          clear ej
          have HST := hide (show ImSt l w w3 (k + 1) _ from ⟨by rw [unhide HD]; exact hrow, hbl⟩)
          clear hrow hbl
          go_wp2
          go_roundw
          case rel => exact ⟨k + 1, by omega, by go_num, by rw [unhide HD]; exact hform, HST⟩
          case measure => simp [intOf]; omega
      · have ej : offB 1 X = false := by simpa using ej
        rw [ej]
        have HD := hide (unhide HN (by simp [stB, ej]))
        clear ej
        have HST := hide (show ImSt l w w3 (k + 1) _ from ⟨by rw [unhide HD]; exact hrow, hbl⟩)
        clear hrow hbl
        go_wp2
        go_roundw
        case rel => exact ⟨k + 1, by omega, by go_num, by rw [unhide HD]; exact hform, HST⟩
        case measure => simp [intOf]; omega
    · have hki : ¬ (k : Int) < (l.length : Int) := by omega
      obtain rfl : k = l.length := by omega
      obtain ⟨g, cap, rfl⟩ := unhide hform
      rw [List.take_length] at hrow hpre
      have hso := implSort wr g cap _ hrow (by omega)
      have HSO := hide hso
      have hbs := hbl.size
      clear hso hrow
      go_wp2_with fail
      refine (unhide HSO).mono ?_
      rintro e w3 ⟨rfl, h3, h4⟩
      have hsl : (sortZ (stI l)).length = (stI l).length := (sortZ_srt _).len
      rw [← hsl] at h3
      have hco := implCompact w3 g cap _ h3 (by omega)
      rw [hsl] at hco
      have HCO := hide hco
      have HB := hide (And.intro hbl h4)
      clear hco h3 h4 hbl hsl HSO
      go_wp2_with fail
      refine (unhide HCO).mono ?_
      rintro e w4 ⟨rfl, h5, h6⟩
      have hc1 := st_cnt l b0
      have hzz : Go.Lib.compact (sortZ (stI l)) = stZ l := rfl
      rw [hzz] at h5
      obtain ⟨hbl, h4⟩ := unhide HB
      have HR := hide (And.intro (ints_done h5 (by omega)) ((hbl.trans h4).trans h6))
      clear h5 h6 hbl h4
      go_wp2
      go_ret
      exact ⟨_, rfl, (unhide HR).1, (unhide HR).2⟩
end Go.Proofs.Ytopngelgpfjdeaa
