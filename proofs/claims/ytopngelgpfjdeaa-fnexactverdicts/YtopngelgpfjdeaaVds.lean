/-
  Verdicts of both.
-/
import Derived.Test.YtopngelgpfjdeaaFgt
import Derived.Test.YtopngelgpfjdeaaMVerdict
import Derived.Test.YtopngelgpfjdeaaDeeds1
namespace Go.Proofs.Ytopngelgpfjdeaa
open Go.ChangeShapes Go.WideShapes Go.ChangeAt Go.RowKit Go.Sort
set_option linter.unusedVariables false
set_option maxRecDepth 100000

def verB (x : DeedD) : Bool := decide (x.op = 2) && !x.void || dropB x
def verOf (x : DeedD) : VerdictD := ⟨x.trace, x.stamp, x.keep⟩
def vds (l : List DeedD) : List VerdictD := (l.filter verB).map verOf
theorem vds_snoc (l : List DeedD) (x : DeedD) : vds (l ++ [x]) = vds l ++ if verB x then [verOf x] else [] := by
  unfold vds
  rw [List.filter_append, List.map_append]
  congr 1
  by_cases e : verB x = true
  · simp [e]
  · simp [e]
theorem vds_yes {l : List DeedD} {x : DeedD} (h : verB x = true) : vds (l ++ [x]) = vds l ++ [verOf x] := by rw [vds_snoc, if_pos h]
theorem vds_no {l : List DeedD} {x : DeedD} (h : verB x = false) : vds (l ++ [x]) = vds l := by rw [vds_snoc, if_neg (by simp [h]), List.append_nil]
theorem vds_len (l : List DeedD) : (vds l).length ≤ l.length := by
  unfold vds
  rw [List.length_map]
  exact List.length_filter_le _ _
theorem vds_cnt0 (l : List DeedD) (h : bulkL deedBulk l ≤ 1048576) : (vds (inOrd l)).length ≤ 1048576 := by
  have := vds_len (inOrd l)
  have := inOrd_len l
  have := bulkL_len deedBulk l
  omega
theorem vds_cnt (l : List DeedD) (h : bulkL deedBulk l ≤ 1048576) : 3 * (vds (inOrd l)).length ≤ 16777216 := by
  have := vds_cnt0 l h
  omega
def cellsV (l : List VerdictD) : List Value := l.flatMap (fun v => [.int .i64 v.trace, .int .i64 v.stamp, .bool v.keep])
theorem cellsV_snoc (l : List VerdictD) (x : DeedD) : cellsV (l ++ [verOf x]) = cellsV l ++ [.int .i64 x.trace, .int .i64 x.stamp, .bool x.keep] := by simp [cellsV, verOf]
theorem verds_done {t : TypeId} {base : Nat} {w : World} {v : Value} {l : List VerdictD} (h : w.ownsRow base t 3 v l.length (cellsV l)) (hl : l.length ≤ 9223372036854775807) : LOw 3 verdictO w (Within base w.heap.size) v l :=
  own_flat (f := fun v => [.int .i64 v.trace, .int .i64 v.stamp, .bool v.keep]) h (fun _ => rfl) (fun x _ => rfl) hl
theorem inOrd_took {l : List DeedD} {x : DeedD} (h : x ∈ inOrd l) : tookB x = true := by
  unfold inOrd at h
  obtain ⟨i, h1, h2⟩ := List.mem_filterMap.1 h
  have h3 := (ordL_ord l).perm.mem_iff.1 h1
  unfold placesK at h3
  have h4 := (List.mem_filter.1 h3).2
  unfold tookA at h4
  rw [h2] at h4
  exact h4
theorem verB_is {x : DeedD} (h : tookB x = true) : verB x = (judB x || dropB x) := by unfold verB judB; rw [h]; simp
def VdS (l : List DeedD) (w wk : World) (k : Nat) (u o : Value) : Prop := wk.ownsRow w.heap.size 139 3 u (vds (inOrdK l k)).length (cellsV (vds (inOrdK l k))) ∧ wk.ownsRow w.heap.size 3 1 o (ordL l).length (cellsI2 (zOf (ordL l))) ∧ o.ownBlock ≠ u.ownBlock ∧ Below w.heap.size w wk
set_option maxHeartbeats 4000000 in
theorem specVerdicts (l : List DeedD) (S0 : Nat → Prop) (v0 : Value) (w : World) (h0 : LAt 20 deedR w S0 v0 l) (b0 : bulkL deedBulk l ≤ 1048576) :
    Calls Try.prog 34 #[v0] w fun e w' => ∃ v', e = .returned v' ∧ LOw 3 verdictO w' (Within w.heap.size w'.heap.size) v' (vds (inOrd l)) ∧ Below w.heap.size w w' := by
  obtain ⟨a, cap0, rfl⟩ := h0.form
  have hlen := bulkL_len deedBulk l
  have hol : (ordL l).length ≤ l.length := (ordL_ord l).len
  have HA := hide h0
  clear h0
  have hb1 := bnew w (.cells #[] 139)
  have how0 := World.ownsRow_made (base := w.heap.size) (e := 139) (size := 3) w #[] 0 (Nat.le_refl _) (by unfold maxLen; omega) rfl
  have hsz1 : (w.alloc (.cells #[] 139)).heap.size = w.heap.size + 1 := by simp
  have H0 := hide (And.intro how0 (And.intro hb1 hsz1))
  clear how0 hsz1
  go_enter Try.func34, Try.ntmps34
  go_wp2_with fail
  refine (specOrder l S0 _ _ ((unhide HA).keep deedR_keeps hb1) b0).mono ?_
  rintro e w2 ⟨vo, rfl, hro, hbo⟩
  have hf : ∃ ao co, vo = .slice ao (ordL l).length co := by
    rcases hro.2 with ⟨h1, h2⟩ | ⟨g, c, cur, h1, _⟩
    · exact ⟨none, 0, by rw [h2]; exact h1⟩
    · exact ⟨_, c, h1⟩
  obtain ⟨ao, co, rfl⟩ := hf
  have hst : Hid (VdS l w w2 0 (.slice (some ⟨w.heap.size, 0, none⟩) 0 0) (.slice ao (ordL l).length co)) := by
    obtain ⟨how0, hb1, hsz1⟩ := unhide H0
    have hne : (Value.slice ao (ordL l).length co).ownBlock ≠ (Value.slice (some ⟨w.heap.size, 0, none⟩) 0 0).ownBlock := fun e => by
      have h1 := (hro.lt w.heap.size (by rw [e]; rfl)).1
      omega
    have hr2 := owns_below how0 hbo
    refine hide ⟨?_, owns_base hro (by omega), hne, bthen hb1 hbo⟩
    simpa [inOrdK, vds, cellsV] using hr2
  clear hb1 hbo hro H0
  go_wp2
  go_loopw [3, 5] (fun u i wk => ∃ k : Nat, k ≤ (ordL l).length ∧ i = .int .i64 k ∧ Hid (VdS l w wk k u (.slice ao (ordL l).length co))) (fun _ i _ => (ordL l).length - (intOf i).toNat)
  case atStart => exact ⟨0, Nat.zero_le _, rfl, hst⟩
  case round =>
    obtain ⟨k, hk, rfl, hin0⟩ := hrel
    clear hst
    by_cases hlt : k < (ordL l).length
    · have hki : (k : Int) < ((ordL l).length : Int) := by omega
      obtain ⟨hrow, hro, hne, hbl⟩ := unhide hin0
      have hpre := inOrdK_len l k
      have hpre2 := vds_len (inOrdK l k)
      obtain ⟨g, rfl⟩ : ∃ g, ao = some ⟨g, 0, none⟩ := by
        rcases hro.2 with ⟨h1, h2⟩ | ⟨g, c, cur, h1, _⟩
        · omega
        · injection h1 with e1 e2 e3; exact ⟨g, e1⟩
      obtain ⟨z, X, b, o, cs, hz, hzl, hX, hstep, rfl, hin, hcs⟩ := ord_at (unhide HA) hbl hlt
      have cz := cell_z hlt (zcell hro k hlt) hz
      have hzi : (z : Int) < (l.length : Int) := by omega
      have HS := hide hstep
      have hrw : RowT Try.prog 130 cs.length := by rw [deedR_len hcs]; exact rowIDeed
      have HL1 := hide (deedR_len hcs)
      have on1 := deedR_one hcs
      have hA1 := Held.new wr cs 130
      have hbA := bnew wr (.cells cs.toArray 130)
      have HCS := hide hcs
      have HE0 := hide (And.intro (owns_below hrow hbA) (And.intro (owns_below hro hbA) (And.intro hne (bthen hbl hbA))))
      clear hstep hX hz hcs hrow hro hne hbl hin0 hbA
      go_upto_region 7 with (first | (refine wpl_load rfl 130 _ rfl _ _ rfl cs hin hrw ?_) | (refine wpl_store_new rfl _ _ _ rfl _ cs rfl rfl ?_ on1 hrw ?_; (rw [unhide HL1]; rfl)))
      generalize hWa : World.alloc wr _ = wa at *
      clear hWa hin on1
      have p0 := hA1.2 0 _ (deedR_c0 (unhide HCS))
      have p8 := hA1.2 8 _ (deedR_c8 (unhide HCS))
      have p9 := hA1.2 9 _ (deedR_c9 (unhide HCS))
      have p11 := hA1.2 11 _ (deedR_c11 (unhide HCS))
      have p12 := hA1.2 12 _ (deedR_c12 (unhide HCS))
      obtain ⟨hrow, hro, hne, hbl⟩ := unhide HE0
      clear hA1 HCS hrw
      by_cases e2 : X.op = 2
      · have q2 : (X.op == 2) = true := by simpa using e2
        have q3 : (X.op == 3) = false := by simp [e2]
        cases hvd : X.void
        · have hvb : verB X = true := by simp [verB, e2, hvd]
          rw [hvd] at p12
          clear e2 hvd
          have HF := hide (vds_yes (l := inOrdK l k) (x := X) hvb)
          clear hvb
          have hb2 := bnew wa (.cells #[.int .i64 X.trace, .int .i64 X.stamp, .bool X.keep] 139)
          have hrow2 := owns_below hrow hb2
          have hs2 : w.heap.size ≤ (wa.alloc (.cells #[.int .i64 X.trace, .int .i64 X.stamp, .bool X.keep] 139)).heap.size := by have := hb2.size; have := hbl.size; omega
          have HE := hide (And.intro hro (And.intro hne hbl))
          clear hro hne hbl hrow HE0
          go_wp2_with (first | (at_builtin; refine wpl_append2 rfl (.tmp 36) (.tmp 44) 49 rfl w.heap.size 139 _ 3 24 Try.underlying49 mInfoVerdict rfl (by decide) _ _ _ rfl hrow2 ⟨_, 0, none⟩ 1 1 [.int .i64 X.trace, .int .i64 X.stamp, .bool X.keep] rfl rfl (lit_cells4 wa [.int .i64 X.trace, .int .i64 X.stamp, .bool X.keep] 139) (by intro v hv; simp at hv; rcases hv with rfl | rfl | rfl <;> rfl) (by unfold maxLen; omega) (by omega) hs2 ?_))
          intro v' w' how hg hv
          obtain ⟨hro, hne, hbl⟩ := unhide HE
          have hro2 := owns_apart (owns_below hro hb2) hg hne
          have hne2 := ne_grown (u' := v') (w := wa) hne (fun q hq => (hro.lt q hq).2) (hv.imp_right (fun h => ⟨_, h, by first | (simp; omega) | omega | simp⟩))
          have bl1 := grown_below (bthen hbl hb2) hg (fun q hq => (hrow2.lt q hq).1) hs2
          rw [← cellsV_snoc, ← unhide HF, ← unhide HS] at how
          have hl1 : (vds (inOrdK l k)).length + 1 = (vds (inOrdK l (k + 1))).length := by rw [unhide HS, unhide HF]; simp
          rw [hl1] at how
          have HST := hide (show VdS l w w' (k + 1) v' (.slice (some ⟨g, 0, none⟩) (ordL l).length co) from ⟨how, hro2, hne2, bl1⟩)
          clear how hg hv hro2 hne2 bl1 hro hne hbl hrow2 HE hb2 cz hl1
          go_wp2
          go_roundw
          case rel => exact ⟨k + 1, by omega, by go_num, HST⟩
          case measure => simp [intOf]; omega
        · have hvb : verB X = false := by simp [verB, e2, hvd, dropB]
          rw [hvd] at p12
          clear e2 hvd
          have HF := hide (vds_no (l := inOrdK l k) (x := X) hvb)
          clear hvb
          have HST := hide (show VdS l w wa (k + 1) _ (.slice (some ⟨g, 0, none⟩) (ordL l).length co) from ⟨by rw [unhide HS, unhide HF]; exact hrow, hro, hne, hbl⟩)
          clear hrow hro hne hbl HE0
          go_wp2
          go_roundw
          case rel => exact ⟨k + 1, by omega, by go_num, HST⟩
          case measure => simp [intOf]; omega
      · have q2 : (X.op == 2) = false := by simpa using e2
        by_cases e3 : X.op = 3
        · have q3 : (X.op == 3) = true := by simpa using e3
          have hvb : verB X = true := by simp [verB, dropB, e3]
          clear e2 e3
          have HF := hide (vds_yes (l := inOrdK l k) (x := X) hvb)
          clear hvb
          have hb2 := bnew wa (.cells #[.int .i64 X.trace, .int .i64 X.stamp, .bool X.keep] 139)
          have hrow2 := owns_below hrow hb2
          have hs2 : w.heap.size ≤ (wa.alloc (.cells #[.int .i64 X.trace, .int .i64 X.stamp, .bool X.keep] 139)).heap.size := by have := hb2.size; have := hbl.size; omega
          have HE := hide (And.intro hro (And.intro hne hbl))
          clear hro hne hbl hrow HE0
          go_wp2_with (first | (at_builtin; refine wpl_append2 rfl (.tmp 36) (.tmp 44) 49 rfl w.heap.size 139 _ 3 24 Try.underlying49 mInfoVerdict rfl (by decide) _ _ _ rfl hrow2 ⟨_, 0, none⟩ 1 1 [.int .i64 X.trace, .int .i64 X.stamp, .bool X.keep] rfl rfl (lit_cells4 wa [.int .i64 X.trace, .int .i64 X.stamp, .bool X.keep] 139) (by intro v hv; simp at hv; rcases hv with rfl | rfl | rfl <;> rfl) (by unfold maxLen; omega) (by omega) hs2 ?_))
          intro v' w' how hg hv
          obtain ⟨hro, hne, hbl⟩ := unhide HE
          have hro2 := owns_apart (owns_below hro hb2) hg hne
          have hne2 := ne_grown (u' := v') (w := wa) hne (fun q hq => (hro.lt q hq).2) (hv.imp_right (fun h => ⟨_, h, by first | (simp; omega) | omega | simp⟩))
          have bl1 := grown_below (bthen hbl hb2) hg (fun q hq => (hrow2.lt q hq).1) hs2
          rw [← cellsV_snoc, ← unhide HF, ← unhide HS] at how
          have hl1 : (vds (inOrdK l k)).length + 1 = (vds (inOrdK l (k + 1))).length := by rw [unhide HS, unhide HF]; simp
          rw [hl1] at how
          have HST := hide (show VdS l w w' (k + 1) v' (.slice (some ⟨g, 0, none⟩) (ordL l).length co) from ⟨how, hro2, hne2, bl1⟩)
          clear how hg hv hro2 hne2 bl1 hro hne hbl hrow2 HE hb2 cz hl1
          go_wp2
          go_roundw
          case rel => exact ⟨k + 1, by omega, by go_num, HST⟩
          case measure => simp [intOf]; omega
        · have q3 : (X.op == 3) = false := by simpa using e3
          have hvb : verB X = false := by simp [verB, dropB, e2, e3]
          clear e2 e3
          have HF := hide (vds_no (l := inOrdK l k) (x := X) hvb)
          clear hvb
          have HST := hide (show VdS l w wa (k + 1) _ (.slice (some ⟨g, 0, none⟩) (ordL l).length co) from ⟨by rw [unhide HS, unhide HF]; exact hrow, hro, hne, hbl⟩)
          clear hrow hro hne hbl HE0
          go_wp2
          go_roundw
          case rel => exact ⟨k + 1, by omega, by go_num, HST⟩
          case measure => simp [intOf]; omega
    · have hki : ¬ (k : Int) < ((ordL l).length : Int) := by omega
      obtain rfl : k = (ordL l).length := by omega
      have h1 := (unhide hin0).1
      have h2 := (unhide hin0).2.2.2
      rw [inOrdK_all] at h1
      have hcn := vds_cnt0 l b0
      have HF := hide (And.intro (verds_done h1 (by omega)) h2)
      clear h1 h2 hin0
      go_wp2
      go_ret
      exact ⟨_, rfl, (unhide HF).1, (unhide HF).2⟩
def VdI (S : Nat → Prop) (d : List DeedD) (w wk : World) (k : Nat) (u v : Value) : Prop := wk.ownsRow w.heap.size 139 3 u (vds (d.take k)).length (cellsV (vds (d.take k))) ∧ LAt 20 deedR wk S v d ∧ (∀ q, S q → ¬ (u.ownBlock = some q)) ∧ (∀ q, S q → q < wk.heap.size) ∧ Below w.heap.size w wk
set_option maxHeartbeats 4000000 in
theorem implVerdicts (l : List DeedD) (S0 : Nat → Prop) (v0 : Value) (w : World) (h0 : LAt 20 deedR w S0 v0 l) (b0 : bulkL deedBulk l ≤ 1048576) :
    Calls Try.prog 35 #[v0] w fun e w' => ∃ v', e = .returned v' ∧ LOw 3 verdictO w' (Within w.heap.size w'.heap.size) v' (vds (inOrd l)) ∧ Below w.heap.size w w' := by
  obtain ⟨a, cap0, rfl⟩ := h0.form
  have hlen := bulkL_len deedBulk l
  have hol := inOrd_len l
  have HA := hide (deeds_old h0)
  clear h0
  have hb1 := bnew w (.cells #[] 139)
  have how0 := World.ownsRow_made (base := w.heap.size) (e := 139) (size := 3) w #[] 0 (Nat.le_refl _) (by unfold maxLen; omega) rfl
  have hsz1 : (w.alloc (.cells #[] 139)).heap.size = w.heap.size + 1 := by simp
  have H0 := hide (And.intro how0 (And.intro hb1 hsz1))
  go_enter Try.func35, Try.ntmps35
  go_wp2_with fail
  refine (implInOrder l (Old w) _ _ ((unhide HA).keep deedR_keeps hb1) (fun k hk => by unfold Old at hk; omega) b0).mono ?_
  clear how0 hsz1
  rintro e w2 ⟨vo, rfl, hro, hbo⟩
  obtain ⟨ao, co, rfl⟩ := hro.form
  obtain ⟨S, hSS⟩ : ∃ S : Nat → Prop, S = fun k => (Old w k ∨ w.heap.size + 1 ≤ k) ∧ k < w2.heap.size := ⟨_, rfl⟩
  have hst : Hid (VdI S (inOrd l) w w2 0 (.slice (some ⟨w.heap.size, 0, none⟩) 0 0) (.slice ao (inOrd l).length co)) := by
    obtain ⟨how0, hb1, hsz1⟩ := unhide H0
    have hr2 := owns_below how0 hbo
    have hd := deeds_in hro
    unfold Mine at hd
    rw [hsz1] at hd
    refine hide ⟨?_, by rw [hSS]; exact hd, fun q hq e => ?_, fun q hq => ?_, bthen hb1 hbo⟩
    · simpa [vds, cellsV] using hr2
    · rw [hSS] at hq
      have h1 := Option.some.inj e
      unfold Old at hq
      have h2 := hq.1
      have h3 : w.heap.size = q := h1
      omega
    · rw [hSS] at hq; exact hq.2
  have HSS := hide hSS
  clear hb1 hbo hro H0 hSS
  have HD := hide hol
  have hdl : (inOrd l).length ≤ 1048576 := by omega
  have hcn0 := vds_cnt0 l b0
  have HTK := hide (fun (x : DeedD) (hx : x ∈ inOrd l) => inOrd_took hx)
  have HXB := hide (fun (x : DeedD) (hx : x ∈ inOrd l) => (show deedBulk x ≤ 1048576 by have := bulkL_mem deedBulk (inOrd_mem hx); omega))
  generalize hD : inOrd l = d at *
  have HDD := hide hD
  clear hD
  go_wp2
  go_loopw [3, 10] (fun u i wk => ∃ k : Nat, k ≤ d.length ∧ i = .int .i64 k ∧ Hid (VdI S d w wk k u (.slice ao d.length co))) (fun _ i _ => d.length - (intOf i).toNat)
  case atStart => exact ⟨0, Nat.zero_le _, rfl, hst⟩
  case round =>
    obtain ⟨k, hk, rfl, hin0⟩ := hrel
    clear hst
    by_cases hlt : k < d.length
    · have hki : (k : Int) < (d.length : Int) := by omega
      obtain ⟨hrow, hda, hne, hSlt, hbl⟩ := unhide hin0
      have hpre2 := vds_len (d.take k)
      rw [List.length_take] at hpre2
      obtain ⟨b, o, cs, rfl, hbk, hSb, hcs, hin⟩ := hda.at k hlt
      have hrw : RowT Try.prog 130 cs.length := by rw [deedR_len hcs]; exact rowIDeed
      have HS := hide (take_snoc hlt)
      have htk : tookB d[k] = true := unhide HTK _ (List.getElem_mem hlt)
      have hXb : deedBulk d[k] ≤ 1048576 := unhide HXB _ (List.getElem_mem hlt)
      generalize d[k] = X at *
      have HL1 := hide (deedR_len hcs)
      have on1 := deedR_one hcs
      have hA1 := Held.new wr cs 130
      have hbA := bnew wr (.cells cs.toArray 130)
      have HCS := hide (deedR_keeps _ _ _ None1 _ _ (Below.turn hbA) none_off hcs)
      have hS1 : ∀ q, S q → q < (wr.alloc (.cells cs.toArray 130)).heap.size := fun q hq => Nat.lt_of_lt_of_le (hSlt q hq) hbA.size
      have HE0 := hide (And.intro (owns_below hrow hbA) (And.intro (hda.keep deedR_keeps hbA) (And.intro hne (And.intro hS1 (bthen hbl hbA)))))
      clear hrow hda hne hSlt hbl hS1 hcs hin0 hbA
      go_upto_region 5 with (first | (refine wpl_load rfl 130 _ rfl _ _ rfl cs hin hrw ?_) | (refine wpl_store_new rfl _ _ _ rfl _ cs rfl rfl ?_ on1 hrw ?_; (rw [unhide HL1]; rfl)))
      generalize hWa : World.alloc wr _ = wa at *
      clear hWa hin on1
      go_wp2_with (first | (refine wpl_load rfl 130 _ rfl _ 0 rfl cs hA1.inB hrw ?_))
      refine (implJudged X _ cs _ (unhide HCS) hXb).mono ?_
      rintro e w3 ⟨rfl, hb3⟩
      have hA3 := hA1.keep hb3
      have p0 := hA3.2 0 _ (deedR_c0 (unhide HCS))
      have p8 := hA3.2 8 _ (deedR_c8 (unhide HCS))
      have p9 := hA3.2 9 _ (deedR_c9 (unhide HCS))
      have p11 := hA3.2 11 _ (deedR_c11 (unhide HCS))
      obtain ⟨hrow0, hda0, hne, hSlt0, hbl0⟩ := unhide HE0
      have hrow := owns_below hrow0 hb3
      have hda := hda0.keep deedR_keeps hb3
      have hSlt : ∀ q, S q → q < w3.heap.size := fun q hq => Nat.lt_of_lt_of_le (hSlt0 q hq) hb3.size
      have hbl := bthen hbl0 hb3
      have HE := hide (And.intro hrow (And.intro hda (And.intro hne (And.intro hSlt hbl))))
      clear hrow0 hda0 hSlt0 hbl0
      clear hA1 hA3 HCS hrw HE0 hb3
      have hvi := verB_is htk
      clear htk
      by_cases ej : judB X = true
      · have hvb : verB X = true := by rw [hvi, ej]; rfl
        rw [ej]
        clear ej hvi
        have HF := hide (vds_yes (l := d.take k) (x := X) hvb)
        clear hvb
        have hb4 := bnew w3 (.cells #[.int .i64 X.trace, .int .i64 X.stamp, .bool X.keep] 139)
        have hrow2 := owns_below hrow hb4
        have hs2 : w.heap.size ≤ (w3.alloc (.cells #[.int .i64 X.trace, .int .i64 X.stamp, .bool X.keep] 139)).heap.size := by have := hb4.size; have := hbl.size; omega
        clear hda hne hSlt hbl hrow
        go_wp2_with (first | (at_builtin; refine wpl_append2 rfl (.tmp 21) (.tmp 29) 49 rfl w.heap.size 139 _ 3 24 Try.underlying49 mInfoVerdict rfl (by decide) _ _ _ rfl hrow2 ⟨_, 0, none⟩ 1 1 [.int .i64 X.trace, .int .i64 X.stamp, .bool X.keep] rfl rfl (lit_cells4 w3 [.int .i64 X.trace, .int .i64 X.stamp, .bool X.keep] 139) (by intro v hv; simp at hv; rcases hv with rfl | rfl | rfl <;> rfl) (by unfold maxLen; omega) (by omega) hs2 ?_))
        intro v' w' how hg hv
        obtain ⟨hrow, hda, hne, hSlt, hbl⟩ := unhide HE
        have hne2 : ∀ q, S q → ¬ (v'.ownBlock = some q) := fun q hq e2 => by
          rcases hv with h | h
          · rw [h] at e2; exact hne q hq e2
          · rw [h] at e2
            have h1 := hSlt q hq
            have h2 := hb4.size
            simp at e2
            omega
        have hda2 := (hda.keep deedR_keeps hb4).turn deedR_keeps (grown_turn hg) hne
        have bl1 := grown_below (bthen hbl hb4) hg (fun q hq => (hrow2.lt q hq).1) hs2
        have hgs := hg.size
        have hb4s := hb4.size
        rw [← cellsV_snoc, ← unhide HF, ← unhide HS] at how
        have hl1 : (vds (d.take k)).length + 1 = (vds (d.take (k + 1))).length := by rw [unhide HS, unhide HF]; simp
        rw [hl1] at how
        have HST := hide (show VdI S d w w' (k + 1) v' (.slice (some ⟨b, o, none⟩) d.length co) from ⟨how, hda2, hne2, fun q hq => by have := hSlt q hq; omega, bl1⟩)
        clear how hg hv hda2 hne2 bl1 hda hne hSlt hbl hrow hrow2 HE hb4 hl1
        go_wp2
        go_roundw
        case rel => exact ⟨k + 1, by omega, by go_num, HST⟩
        case measure => simp [intOf]; omega
      · have ej : judB X = false := by simpa using ej
        rw [ej]
        rw [ej, Bool.false_or] at hvi
        by_cases e3 : X.op = 3
        · have q3 : (X.op == 3) = true := by simpa using e3
          have hvb : verB X = true := by rw [hvi]; simp [dropB, e3]
          clear e3 hvi ej
          have HF := hide (vds_yes (l := d.take k) (x := X) hvb)
          clear hvb
          have hb4 := bnew w3 (.cells #[.int .i64 X.trace, .int .i64 X.stamp, .bool X.keep] 139)
          have hrow2 := owns_below hrow hb4
          have hs2 : w.heap.size ≤ (w3.alloc (.cells #[.int .i64 X.trace, .int .i64 X.stamp, .bool X.keep] 139)).heap.size := by have := hb4.size; have := hbl.size; omega
          clear hda hne hSlt hbl hrow
          go_wp2_with (first | (at_builtin; refine wpl_append2 rfl (.tmp 21) (.tmp 29) 49 rfl w.heap.size 139 _ 3 24 Try.underlying49 mInfoVerdict rfl (by decide) _ _ _ rfl hrow2 ⟨_, 0, none⟩ 1 1 [.int .i64 X.trace, .int .i64 X.stamp, .bool X.keep] rfl rfl (lit_cells4 w3 [.int .i64 X.trace, .int .i64 X.stamp, .bool X.keep] 139) (by intro v hv; simp at hv; rcases hv with rfl | rfl | rfl <;> rfl) (by unfold maxLen; omega) (by omega) hs2 ?_))
          intro v' w' how hg hv
          obtain ⟨hrow, hda, hne, hSlt, hbl⟩ := unhide HE
          have hne2 : ∀ q, S q → ¬ (v'.ownBlock = some q) := fun q hq e2 => by
            rcases hv with h | h
            · rw [h] at e2; exact hne q hq e2
            · rw [h] at e2
              have h1 := hSlt q hq
              have h2 := hb4.size
              simp at e2
              omega
          have hda2 := (hda.keep deedR_keeps hb4).turn deedR_keeps (grown_turn hg) hne
          have bl1 := grown_below (bthen hbl hb4) hg (fun q hq => (hrow2.lt q hq).1) hs2
          have hgs := hg.size
          have hb4s := hb4.size
          rw [← cellsV_snoc, ← unhide HF, ← unhide HS] at how
          have hl1 : (vds (d.take k)).length + 1 = (vds (d.take (k + 1))).length := by rw [unhide HS, unhide HF]; simp
          rw [hl1] at how
          have HST := hide (show VdI S d w w' (k + 1) v' (.slice (some ⟨b, o, none⟩) d.length co) from ⟨how, hda2, hne2, fun q hq => by have := hSlt q hq; omega, bl1⟩)
          clear how hg hv hda2 hne2 bl1 hda hne hSlt hbl hrow hrow2 HE hb4 hl1
          go_wp2
          go_roundw
          case rel => exact ⟨k + 1, by omega, by go_num, HST⟩
          case measure => simp [intOf]; omega
        · have q3 : (X.op == 3) = false := by simpa using e3
          have hvb : verB X = false := by rw [hvi]; simp [dropB, e3]
          clear e3 hvi ej
          have HF := hide (vds_no (l := d.take k) (x := X) hvb)
          clear hvb
          have HST := hide (show VdI S d w w3 (k + 1) _ (.slice (some ⟨b, o, none⟩) d.length co) from ⟨by rw [unhide HS, unhide HF]; exact hrow, hda, hne, hSlt, hbl⟩)
          clear hrow hda hne hSlt hbl HE
          go_wp2
          go_roundw
          case rel => exact ⟨k + 1, by omega, by go_num, HST⟩
          case measure => simp [intOf]; omega
    · have hki : ¬ (k : Int) < (d.length : Int) := by omega
      obtain rfl : k = d.length := by omega
      have h1 := (unhide hin0).1
      have h2 := (unhide hin0).2.2.2.2
      rw [List.take_length] at h1
      have HF := hide (And.intro (verds_done h1 (by omega)) h2)
      clear h1 h2 hin0
      go_wp2
      go_ret
      exact ⟨_, rfl, by rw [unhide HDD]; exact (unhide HF).1, (unhide HF).2⟩
end Go.Proofs.Ytopngelgpfjdeaa
