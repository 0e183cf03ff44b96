/-
  ForgotOf of both.
-/
import Derived.Test.YtopngelgpfjdeaaOrd5
import Derived.Test.YtopngelgpfjdeaaOrd4
namespace Go.Proofs.Ytopngelgpfjdeaa
open Go.ChangeShapes Go.WideShapes Go.ChangeAt Go.RowKit Go.Sort
set_option linter.unusedVariables false
set_option maxRecDepth 100000

def fgtB (x : DeedD) : Bool := decide (0 < x.forgot)
def fgt (l : List DeedD) : List Int := (l.filter fgtB).map DeedD.forgot
theorem fgt_snoc (l : List DeedD) (x : DeedD) : fgt (l ++ [x]) = fgt l ++ if fgtB x then [x.forgot] else [] := by
  unfold fgt
  rw [List.filter_append, List.map_append]
  congr 1
  by_cases e : fgtB x = true
  · simp [e]
  · simp [e]
theorem fgt_yes {l : List DeedD} {x : DeedD} (h : 0 < x.forgot) : fgt (l ++ [x]) = fgt l ++ [x.forgot] := by rw [fgt_snoc, if_pos (by simpa [fgtB] using h)]
theorem fgt_no {l : List DeedD} {x : DeedD} (h : ¬ 0 < x.forgot) : fgt (l ++ [x]) = fgt l := by rw [fgt_snoc, if_neg (by simpa [fgtB] using h), List.append_nil]
theorem fgt_len (l : List DeedD) : (fgt l).length ≤ l.length := by
  unfold fgt
  rw [List.length_map]
  exact List.length_filter_le _ _
theorem inOrd_len (l : List DeedD) : (inOrd l).length ≤ l.length := by
  rw [← inOrdK_all]
  exact Nat.le_trans (inOrdK_len l _) (ordL_ord l).len
theorem fgt_cnt (l : List DeedD) (h : bulkL deedBulk l ≤ 1048576) : (fgt (inOrd l)).length ≤ 16777216 := by
  have := fgt_len (inOrd l)
  have := inOrd_len l
  have := bulkL_len deedBulk l
  omega
theorem take_snoc {l : List DeedD} {k : Nat} (h : k < l.length) : l.take (k + 1) = l.take k ++ [l[k]] := List.take_succ_eq_append_getElem h
theorem deeds_in {w : World} {S : Nat → Prop} {v : Value} {l : List DeedD} (h : LAt 20 deedR w S v l) : LAt 20 deedR w (fun k => S k ∧ k < w.heap.size) v l := by
  obtain ⟨a, cap, e2, hl, h⟩ := h
  refine ⟨a, cap, e2, hl, ?_⟩
  rcases h with h | ⟨b, o, h1, h2, h3, h4⟩
  · exact .inl h
  · refine .inr ⟨b, o, h1, h2, ⟨h3, h2⟩, fun i x hx => ?_⟩
    obtain ⟨cs, ⟨s0, e, a', cap', e2', hl', g⟩, g2⟩ := h4 i x hx
    refine ⟨cs, ⟨s0, e, a', cap', e2', hl', ?_⟩, g2⟩
    rcases g with g | ⟨b', o', g1, g2', g3, g4⟩
    · exact .inl g
    · exact .inr ⟨b', o', g1, g2', ⟨g3, g2'⟩, g4⟩
def FgS (l : List DeedD) (w wk : World) (k : Nat) (u o : Value) : Prop := wk.ownsRow w.heap.size 3 1 u (fgt (inOrdK l k)).length (cellsI2 (fgt (inOrdK l k))) ∧ wk.ownsRow w.heap.size 3 1 o (ordL l).length (cellsI2 (zOf (ordL l))) ∧ o.ownBlock ≠ u.ownBlock ∧ Below w.heap.size w wk
theorem ne_grown {o u u' : Value} {w : World} (hne : o.ownBlock ≠ u.ownBlock) (hlt : ∀ k, o.ownBlock = some k → k < w.heap.size) (hv : u'.ownBlock = u.ownBlock ∨ ∃ B, u'.ownBlock = some B ∧ w.heap.size ≤ B) : o.ownBlock ≠ u'.ownBlock := by
  rcases hv with h | ⟨B, h, hB⟩
  · rw [h]; exact hne
  · rw [h]
    intro e
    have := hlt B e
    omega
set_option maxHeartbeats 4000000 in
theorem specForgotOf (l : List DeedD) (S0 : Nat → Prop) (v0 : Value) (w : World) (h0 : LAt 20 deedR w S0 v0 l) (b0 : bulkL deedBulk l ≤ 1048576) :
    Calls Try.prog 30 #[v0] w fun e w' => ∃ v', e = .returned v' ∧ LOw 1 intO w' (Within w.heap.size w'.heap.size) v' (fgt (inOrd l)) ∧ Below w.heap.size w w' := by
  obtain ⟨a, cap0, rfl⟩ := h0.form
  have hlen := bulkL_len deedBulk l
  have hol : (ordL l).length ≤ l.length := (ordL_ord l).len
  have HA := hide h0
  clear h0
  have hb1 := bnew w (.cells #[] 3)
  have how0 := World.ownsRow_made (base := w.heap.size) (e := 3) (size := 1) w #[] 0 (Nat.le_refl _) (by unfold maxLen; omega) rfl
  have hsz1 : (w.alloc (.cells #[] 3)).heap.size = w.heap.size + 1 := by simp
  have H0 := hide (And.intro how0 (And.intro hb1 hsz1))
  clear how0 hsz1
  go_enter Try.func30, Try.ntmps30
  go_wp2_with fail
  refine (specOrder l S0 _ _ ((unhide HA).keep deedR_keeps hb1) b0).mono ?_
  rintro e w2 ⟨vo, rfl, hro, hbo⟩
  have hf : ∃ ao co, vo = .slice ao (ordL l).length co := by
    rcases hro.2 with ⟨h1, h2⟩ | ⟨g, c, cur, h1, _⟩
    · exact ⟨none, 0, by rw [h2]; exact h1⟩
    · exact ⟨_, c, h1⟩
  obtain ⟨ao, co, rfl⟩ := hf
  have hst : Hid (FgS l w w2 0 (.slice (some ⟨w.heap.size, 0, none⟩) 0 0) (.slice ao (ordL l).length co)) := by
    obtain ⟨how0, hb1, hsz1⟩ := unhide H0
    have hne : (Value.slice ao (ordL l).length co).ownBlock ≠ (Value.slice (some ⟨w.heap.size, 0, none⟩) 0 0).ownBlock := fun e => by
      have h1 := (hro.lt w.heap.size (by rw [e]; rfl)).1
      omega
    have hr2 := owns_below how0 hbo
    refine hide ⟨?_, owns_base hro (by omega), hne, bthen hb1 hbo⟩
    simpa [inOrdK, fgt, cellsI2] using hr2
  clear hb1 hbo hro H0
  go_wp2
  go_loopw [3, 5] (fun u i wk => ∃ k : Nat, k ≤ (ordL l).length ∧ i = .int .i64 k ∧ Hid (FgS l w wk k u (.slice ao (ordL l).length co))) (fun _ i _ => (ordL l).length - (intOf i).toNat)
  case atStart => exact ⟨0, Nat.zero_le _, rfl, hst⟩
  case round =>
    obtain ⟨k, hk, rfl, hin0⟩ := hrel
    clear hst
    by_cases hlt : k < (ordL l).length
    · have hki : (k : Int) < ((ordL l).length : Int) := by omega
      obtain ⟨hrow, hro, hne, hbl⟩ := unhide hin0
      have hpre := inOrdK_len l k
      have hpre2 := fgt_len (inOrdK l k)
      obtain ⟨g, rfl⟩ : ∃ g, ao = some ⟨g, 0, none⟩ := by
        rcases hro.2 with ⟨h1, h2⟩ | ⟨g, c, cur, h1, _⟩
        · omega
        · injection h1 with e1 e2 e3; exact ⟨g, e1⟩
      obtain ⟨z, X, b, o, cs, hz, hzl, hX, hstep, rfl, hin, hcs⟩ := ord_at (unhide HA) hbl hlt
      have cz := cell_z hlt (zcell hro k hlt) hz
      have hzi : (z : Int) < (l.length : Int) := by omega
      have p15 : wr.cell? ⟨b, o + z * 20 + 15, none⟩ = some (.int .i64 X.forgot) := hin 15 _ (deedR_c15 hcs)
      have HS := hide hstep
      clear hstep hX hz hin hcs
      by_cases e : 0 < X.forgot
      · have HF := hide (fgt_yes (l := inOrdK l k) e)
        have hb2 := bnew wr (.cells #[.int .i64 X.forgot] 3)
        have hrow2 := owns_below hrow hb2
        have hs2 : w.heap.size ≤ (wr.alloc (.cells #[.int .i64 X.forgot] 3)).heap.size := by have := hb2.size; have := hbl.size; omega
        have HE := hide (And.intro hro (And.intro hne hbl))
        clear hro hne hbl hrow hin0
        go_wp2_with (first | (at_builtin; refine wpl_append2 rfl (.tmp 24) (.tmp 33) 69 rfl w.heap.size 3 _ 1 8 Try.underlying69 infoI2 rfl (by decide) _ _ _ rfl hrow2 ⟨_, 0, none⟩ 1 1 [.int .i64 X.forgot] rfl rfl (lit_cells4 wr [.int .i64 X.forgot] 3) (by intro v hv; simp at hv; subst hv; rfl) (by unfold maxLen; omega) (by omega) hs2 ?_))
        intro v' w' how hg hv
        obtain ⟨hro, hne, hbl⟩ := unhide HE
        have hro2 := owns_apart (owns_below hro hb2) hg hne
        have hne2 := ne_grown (u' := v') (w := wr) hne (fun q hq => (hro.lt q hq).2) (hv.imp_right (fun h => ⟨_, h, by first | (simp; omega) | omega | simp⟩))
        have bl1 := grown_below (bthen hbl hb2) hg (fun q hq => (hrow2.lt q hq).1) hs2
        rw [← cellsI2_snoc, ← unhide HF, ← unhide HS] at how
        have hl1 : (fgt (inOrdK l k)).length + 1 = (fgt (inOrdK l (k + 1))).length := by rw [unhide HS, unhide HF]; simp
        rw [hl1] at how
        have HST := hide (show FgS l w w' (k + 1) v' (.slice (some ⟨g, 0, none⟩) (ordL l).length co) from ⟨how, hro2, hne2, bl1⟩)
        clear how hg hv hro2 hne2 bl1 hro hne hbl hrow2 HE hb2 cz p15 hl1 e
        go_wp2
        go_roundw
        case rel => exact ⟨k + 1, by omega, by go_num, HST⟩
        case measure => simp [intOf]; omega
      · have HF := hide (fgt_no (l := inOrdK l k) e)
        have HST := hide (show FgS l w wr (k + 1) _ (.slice (some ⟨g, 0, none⟩) (ordL l).length co) from ⟨by rw [unhide HS, unhide HF]; exact hrow, hro, hne, hbl⟩)
        clear hrow hro hne hbl hin0
        go_wp2
        go_roundw
        case rel => exact ⟨k + 1, by omega, by go_num, HST⟩
        case measure => simp [intOf]; omega
    · have hki : ¬ (k : Int) < ((ordL l).length : Int) := by omega
      obtain rfl : k = (ordL l).length := by omega
      have h1 := (unhide hin0).1
      have h2 := (unhide hin0).2.2.2
      rw [inOrdK_all] at h1
      have hcn := fgt_cnt l b0
      have HF := hide (And.intro (ints_done h1 (by omega)) h2)
      clear h1 h2 hin0
      go_wp2
      go_ret
      exact ⟨_, rfl, (unhide HF).1, (unhide HF).2⟩
def FgI (S : Nat → Prop) (d : List DeedD) (w wk : World) (k : Nat) (u v : Value) : Prop := wk.ownsRow w.heap.size 3 1 u (fgt (d.take k)).length (cellsI2 (fgt (d.take k))) ∧ LAt 20 deedR wk S v d ∧ (∀ q, S q → ¬ (u.ownBlock = some q)) ∧ (∀ q, S q → q < wk.heap.size) ∧ Below w.heap.size w wk
set_option maxHeartbeats 4000000 in
theorem implForgotOf (l : List DeedD) (S0 : Nat → Prop) (v0 : Value) (w : World) (h0 : LAt 20 deedR w S0 v0 l) (b0 : bulkL deedBulk l ≤ 1048576) :
    Calls Try.prog 31 #[v0] w fun e w' => ∃ v', e = .returned v' ∧ LOw 1 intO w' (Within w.heap.size w'.heap.size) v' (fgt (inOrd l)) ∧ Below w.heap.size w w' := by
  obtain ⟨a, cap0, rfl⟩ := h0.form
  have hlen := bulkL_len deedBulk l
  have hol := inOrd_len l
  have HA := hide (deeds_old h0)
  clear h0
  have hb1 := bnew w (.cells #[] 3)
  have how0 := World.ownsRow_made (base := w.heap.size) (e := 3) (size := 1) w #[] 0 (Nat.le_refl _) (by unfold maxLen; omega) rfl
  have hsz1 : (w.alloc (.cells #[] 3)).heap.size = w.heap.size + 1 := by simp
  have H0 := hide (And.intro how0 (And.intro hb1 hsz1))
  go_enter Try.func31, Try.ntmps31
  go_wp2_with fail
  refine (implInOrder l (Old w) _ _ ((unhide HA).keep deedR_keeps hb1) (fun k hk => by unfold Old at hk; omega) b0).mono ?_
  clear how0 hsz1
  rintro e w2 ⟨vo, rfl, hro, hbo⟩
  obtain ⟨ao, co, rfl⟩ := hro.form
  obtain ⟨S, hSS⟩ : ∃ S : Nat → Prop, S = fun k => (Old w k ∨ w.heap.size + 1 ≤ k) ∧ k < w2.heap.size := ⟨_, rfl⟩
  have hst : Hid (FgI S (inOrd l) w w2 0 (.slice (some ⟨w.heap.size, 0, none⟩) 0 0) (.slice ao (inOrd l).length co)) := by
    obtain ⟨how0, hb1, hsz1⟩ := unhide H0
    have hr2 := owns_below how0 hbo
    have hd := deeds_in hro
    unfold Mine at hd
    rw [hsz1] at hd
    refine hide ⟨?_, by rw [hSS]; exact hd, fun q hq e => ?_, fun q hq => ?_, bthen hb1 hbo⟩
    · simpa [fgt, cellsI2] using hr2
    · rw [hSS] at hq
      have h1 := Option.some.inj e
      unfold Old at hq
      have h2 := hq.1
      have h3 : w.heap.size = q := h1
      omega
    · rw [hSS] at hq; exact hq.2
  have HSS := hide hSS
  clear hb1 hbo hro H0 hSS
  have HD := hide hol
  have hdl : (inOrd l).length ≤ 1048576 := by omega
  have hcn0 := fgt_cnt l b0
  generalize hD : inOrd l = d at *
  have HDD := hide hD
  clear hD
  go_wp2
  go_loopw [3, 10] (fun u i wk => ∃ k : Nat, k ≤ d.length ∧ i = .int .i64 k ∧ Hid (FgI S d w wk k u (.slice ao d.length co))) (fun _ i _ => d.length - (intOf i).toNat)
  case atStart => exact ⟨0, Nat.zero_le _, rfl, hst⟩
  case round =>
    obtain ⟨k, hk, rfl, hin0⟩ := hrel
    clear hst
    by_cases hlt : k < d.length
    · have hki : (k : Int) < (d.length : Int) := by omega
      obtain ⟨hrow, hda, hne, hSlt, hbl⟩ := unhide hin0
      have hpre2 := fgt_len (d.take k)
      rw [List.length_take] at hpre2
      obtain ⟨b, o, cs, rfl, hbk, hSb, hcs, hin⟩ := hda.at k hlt
      have hrw : RowT Try.prog 130 cs.length := by rw [deedR_len hcs]; exact rowIDeed
      have HS := hide (take_snoc hlt)
      generalize d[k] = X at *
      have HL1 := hide (deedR_len hcs)
      have on1 := deedR_one hcs
      have hA1 := Held.new wr cs 130
      have hbA := bnew wr (.cells cs.toArray 130)
      have p15 : (wr.alloc (.cells cs.toArray 130)).cell? ⟨wr.heap.size, 15, none⟩ = some (.int .i64 X.forgot) := hA1.2 15 _ (deedR_c15 hcs)
      have hrow1 := owns_below hrow hbA
      have hda1 := hda.keep deedR_keeps hbA
      have hbl1 := bthen hbl hbA
      have hS1 : ∀ q, S q → q < (wr.alloc (.cells cs.toArray 130)).heap.size := fun q hq => Nat.lt_of_lt_of_le (hSlt q hq) hbA.size
      have HE := hide (And.intro hrow1 (And.intro hda1 (And.intro hne (And.intro hS1 hbl1))))
      clear hrow hda hne hSlt hbl hrow1 hda1 hbl1 hS1 hcs hA1 hin0 hbA
      go_upto_region 5 with (first | (refine wpl_load rfl 130 _ rfl _ _ rfl cs hin hrw ?_) | (refine wpl_store_new rfl _ _ _ rfl _ cs rfl rfl ?_ on1 hrw ?_; (rw [unhide HL1]; rfl)))
      generalize hWa : World.alloc wr _ = wa at *
      clear hWa hin on1
      obtain ⟨hrow, hda, hne, hSlt, hbl⟩ := unhide HE
      by_cases e : 0 < X.forgot
      · have HF := hide (fgt_yes (l := d.take k) e)
        have hb2 := bnew wa (.cells #[.int .i64 X.forgot] 3)
        have hrow2 := owns_below hrow hb2
        have hs2 : w.heap.size ≤ (wa.alloc (.cells #[.int .i64 X.forgot] 3)).heap.size := by have := hb2.size; have := hbl.size; omega
        clear hda hne hSlt hbl hrow
        go_wp2_with (first | (at_builtin; refine wpl_append2 rfl (.tmp 17) (.tmp 20) 69 rfl w.heap.size 3 _ 1 8 Try.underlying69 infoI2 rfl (by decide) _ _ _ rfl hrow2 ⟨_, 0, none⟩ 1 1 [.int .i64 X.forgot] rfl rfl (lit_cells4 wa [.int .i64 X.forgot] 3) (by intro v hv; simp at hv; subst hv; rfl) (by unfold maxLen; omega) (by omega) hs2 ?_))
        intro v' w' how hg hv
        obtain ⟨hrow, hda, hne, hSlt, hbl⟩ := unhide HE
        have hne2 : ∀ q, S q → ¬ (v'.ownBlock = some q) := fun q hq e2 => by
          rcases hv with h | h
          · rw [h] at e2; exact hne q hq e2
          · rw [h] at e2
            have h1 := hSlt q hq
            have h2 := hb2.size
            simp at e2
            omega
        have hda2 := (hda.keep deedR_keeps hb2).turn deedR_keeps (grown_turn hg) hne
        have bl1 := grown_below (bthen hbl hb2) hg (fun q hq => (hrow2.lt q hq).1) hs2
        have hgs := hg.size
        have hb2s := hb2.size
        rw [← cellsI2_snoc, ← unhide HF, ← unhide HS] at how
        have hl1 : (fgt (d.take k)).length + 1 = (fgt (d.take (k + 1))).length := by rw [unhide HS, unhide HF]; simp
        rw [hl1] at how
        have HST := hide (show FgI S d w w' (k + 1) v' (.slice (some ⟨b, o, none⟩) d.length co) from ⟨how, hda2, hne2, fun q hq => by have := hSlt q hq; omega, bl1⟩)
        clear how hg hv hda2 hne2 bl1 hda hne hSlt hbl hrow hrow2 HE hb2 p15 hl1 e
        go_wp2
        go_roundw
        case rel => exact ⟨k + 1, by omega, by go_num, HST⟩
        case measure => simp [intOf]; omega
      · have HF := hide (fgt_no (l := d.take k) e)
        have HST := hide (show FgI S d w wa (k + 1) _ (.slice (some ⟨b, o, none⟩) d.length co) from ⟨by rw [unhide HS, unhide HF]; exact hrow, hda, hne, hSlt, hbl⟩)
        clear hrow hda hne hSlt hbl HE
        go_wp2
        go_roundw
        case rel => exact ⟨k + 1, by omega, by go_num, HST⟩
        case measure => simp [intOf]; omega
    · have hki : ¬ (k : Int) < (d.length : Int) := by omega
      obtain rfl : k = d.length := by omega
      have h1 := (unhide hin0).1
      have h2 := (unhide hin0).2.2.2.2
      rw [List.take_length] at h1
      have HF := hide (And.intro (ints_done h1 (by omega)) h2)
      clear h1 h2 hin0
      go_wp2
      go_ret
      exact ⟨_, rfl, by rw [unhide HDD]; exact (unhide HF).1, (unhide HF).2⟩
end Go.Proofs.Ytopngelgpfjdeaa
