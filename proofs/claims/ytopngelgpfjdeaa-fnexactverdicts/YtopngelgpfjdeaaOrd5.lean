/-
  Those that took place, one after another: inOrder of the program.
-/
import Derived.Test.YtopngelgpfjdeaaOrd3
namespace Go.Proofs.Ytopngelgpfjdeaa
open Go.ChangeShapes Go.WideShapes Go.ChangeAt Go.RowKit Go.Sort
set_option linter.unusedVariables false
set_option maxRecDepth 100000

def inOrdK (l : List DeedD) (k : Nat) : List DeedD := ((ordL l).take k).filterMap (l[·]?)
def inOrd (l : List DeedD) : List DeedD := (ordL l).filterMap (l[·]?)
theorem ordL_lt (l : List DeedD) {k : Nat} (h : k < (ordL l).length) : (ordL l)[k] < l.length := (ordL_ord l).mem (List.getElem_mem h)
theorem inOrdK_step (l : List DeedD) (k : Nat) (h : k < (ordL l).length) : inOrdK l (k + 1) = inOrdK l k ++ [l[(ordL l)[k]]'(ordL_lt l h)] := by
  unfold inOrdK
  rw [List.take_succ_eq_append_getElem h, List.filterMap_append]
  congr 1
  rw [List.filterMap_cons, List.getElem?_eq_getElem (ordL_lt l h)]
  rfl
theorem inOrdK_all (l : List DeedD) : inOrdK l (ordL l).length = inOrd l := by unfold inOrdK inOrd; rw [List.take_length]
theorem inOrdK_len (l : List DeedD) (k : Nat) : (inOrdK l k).length ≤ k := by
  unfold inOrdK
  refine Nat.le_trans (List.length_filterMap_le _ _) ?_
  rw [List.length_take]
  omega
theorem inOrd_mem {l : List DeedD} {x : DeedD} (h : x ∈ inOrd l) : x ∈ l := by
  unfold inOrd at h
  obtain ⟨i, _, h2⟩ := List.mem_filterMap.1 h
  exact List.mem_of_getElem? h2
def Old (w : World) : Nat → Prop := fun k => k < w.heap.size
theorem deedR_old {w : World} {S : Nat → Prop} {cs : List Value} {x : DeedD} (h : deedR w S cs x) : deedR w (Old w) cs x := by
  obtain ⟨s0, e, a, cap, e2, hl, h⟩ := h
  refine ⟨s0, e, a, cap, e2, hl, ?_⟩
  rcases h with h | ⟨b, o, h1, h2, h3, h4⟩
  · exact .inl h
  · exact .inr ⟨b, o, h1, h2, h2, h4⟩
theorem deeds_old {w : World} {S : Nat → Prop} {v : Value} {l : List DeedD} (h : LAt 20 deedR w S v l) : LAt 20 deedR w (Old w) v l := by
  obtain ⟨a, cap, e2, hl, h⟩ := h
  refine ⟨a, cap, e2, hl, ?_⟩
  rcases h with h | ⟨b, o, h1, h2, h3, h4⟩
  · exact .inl h
  · exact .inr ⟨b, o, h1, h2, h2, fun i x hx => by
      obtain ⟨cs, g1, g2⟩ := h4 i x hx
      exact ⟨cs, deedR_old g1, g2⟩⟩
/-- A row of the call's own of deeds that share what they hold with old ones. -/
def DRow (S : Nat → Prop) (w wk : World) (v : Value) (l : List DeedD) : Prop := ∃ css : List (List Value), wk.ownsRow w.heap.size 130 20 v l.length css.flatten ∧ css.length = l.length ∧ ∀ (i : Nat) (x : DeedD), l[i]? = some x → ∃ cs, css[i]? = some cs ∧ deedR wk S cs x ∧ cs.length = 20
theorem DRow.keep {S : Nat → Prop} {w wk w2 : World} {v : Value} {l : List DeedD} (h : DRow S w wk v l) (hb : Below wk.heap.size wk w2) : DRow S w w2 v l := by
  obtain ⟨css, h1, h2, h3⟩ := h
  refine ⟨css, owns_below h1 hb, h2, fun i x hx => ?_⟩
  obtain ⟨cs, g1, g2, g3⟩ := h3 i x hx
  exact ⟨cs, g1, deedR_keeps _ _ _ None1 _ _ (Below.turn hb) none_off g2, g3⟩
theorem DRow.step {S : Nat → Prop} {w : World} (hS : ∀ k, S k → k < w.heap.size) {w2 w' : World} {v v' : Value} {l : List DeedD} {css : List (List Value)} {cs : List Value} {x : DeedD} (h2 : css.length = l.length) (h3 : ∀ (i : Nat) (x : DeedD), l[i]? = some x → ∃ cs, css[i]? = some cs ∧ deedR w2 S cs x ∧ cs.length = 20)
    (hx : deedR w2 S cs x) (hn : cs.length = 20) (how : w'.ownsRow w.heap.size 130 20 v' (l.length + 1) (css.flatten ++ cs)) (hg : w2.grownBy w' v.ownBlock) (hlo : ∀ k, v.ownBlock = some k → w.heap.size ≤ k) : DRow S w w' v' (l ++ [x]) := by
  have ht := grown_turn hg
  have hdis : ∀ k, S k → ¬ (v.ownBlock = some k) := fun k hk e => by have := hlo k e; have := hS k hk; omega
  refine ⟨css ++ [cs], by simpa using how, by simp [h2], fun i y hy => ?_⟩
  by_cases hi : i < l.length
  · rw [List.getElem?_append_left hi] at hy
    obtain ⟨c, g1, g2, g3⟩ := h3 i y hy
    exact ⟨c, by rw [List.getElem?_append_left (by omega)]; exact g1, deedR_keeps _ _ _ _ _ _ ht hdis g2, g3⟩
  · have hl : i = l.length := by
      have := (List.getElem?_eq_some_iff.1 hy).1
      simp at this
      omega
    subst hl
    rw [List.getElem?_append_right (Nat.le_refl _), Nat.sub_self] at hy
    simp only [List.getElem?_cons_zero, Option.some.injEq] at hy
    subst hy
    exact ⟨cs, by rw [← h2, List.getElem?_append_right (Nat.le_refl _), Nat.sub_self]; rfl, deedR_keeps _ _ _ _ _ _ ht hdis hx, hn⟩
def Mine (S : Nat → Prop) (w : World) : Nat → Prop := fun k => S k ∨ w.heap.size ≤ k
theorem DRow.read {S : Nat → Prop} {w wk : World} {v : Value} {l : List DeedD} (h : DRow S w wk v l) (hl : l.length ≤ 9223372036854775807) : LAt 20 deedR wk (Mine S w) v l := by
  obtain ⟨css, h1, h2, h3⟩ := h
  have hall : ∀ cs ∈ css, cs.length = 20 := fun cs hcs => by
    obtain ⟨i, hi, rfl⟩ := List.mem_iff_getElem.1 hcs
    obtain ⟨c, g1, _, g3⟩ := h3 i (l[i]'(by omega)) (List.getElem?_eq_getElem _)
    rw [List.getElem?_eq_getElem hi, Option.some.injEq] at g1
    rw [g1]; exact g3
  rcases h1.2 with ⟨rfl, hn⟩ | ⟨g, cap, cur, rfl, hb, hh, _⟩
  · have : l = [] := List.eq_nil_of_length_eq_zero hn
    subst this
    exact ⟨none, 0, rfl, by simp, .inl rfl⟩
  · refine ⟨some ⟨g, 0, none⟩, cap, rfl, hl, .inr ⟨g, 0, rfl, (h1.lt g rfl).2, .inr hb, fun i x hx => ?_⟩⟩
    obtain ⟨cs, g1, g2, g3⟩ := h3 i x hx
    refine ⟨cs, deedR_widens _ _ _ _ _ (fun _ h => .inl h) g2, fun j u hu => ?_⟩
    have hj : j < 20 := by have := (List.getElem?_eq_some_iff.1 hu).1; omega
    have hc := h1.cells (g := g) rfl (i * 20 + j) u (by rw [flat_at css i j hall hj, g1]; exact hu)
    have e : (⟨g, 0, none⟩ : Addr).add (i * 20 + j) = ⟨g, 0 + i * 20 + j, none⟩ := by unfold Addr.add; split <;> simp_all
    rw [e] at hc
    exact hc
theorem owns_apart {base : Nat} {w w' : World} {e : TypeId} {size : Nat} {v u : Value} {n : Nat} {xs : List Value} (h : w.ownsRow base e size v n xs) (hg : w.grownBy w' u.ownBlock) (hne : v.ownBlock ≠ u.ownBlock) : w'.ownsRow base e size v n xs := by
  obtain ⟨h1, h2⟩ := h
  refine ⟨h1, ?_⟩
  rcases h2 with h2 | ⟨g, cap, cur, rfl, hb, hh, rest⟩
  · exact .inl h2
  · refine .inr ⟨g, cap, cur, rfl, hb, ?_, rest⟩
    rw [hg.block g (Array.getElem?_eq_some_iff.1 hh).1 (fun e => hne e)]
    exact hh
theorem ord_at {l : List DeedD} {w wr : World} {S0 : Nat → Prop} {a : Option Addr} {m cap k : Nat} (h : LAt 20 deedR w S0 (.slice a m cap) l) (hb : Below w.heap.size w wr) (hk : k < (ordL l).length) :
    ∃ (z : Nat) (X : DeedD) (b o : Nat) (cs : List Value), (ordL l)[k] = z ∧ z < l.length ∧ l[z]? = some X ∧ inOrdK l (k + 1) = inOrdK l k ++ [X] ∧ a = some ⟨b, o, none⟩ ∧ InB wr b (o + z * 20) cs ∧ deedR wr S0 cs X := by
  obtain ⟨b, o, cs, h1, hbk, hSb, hcs, hin⟩ := h.at _ (ordL_lt l hk)
  exact ⟨_, _, b, o, cs, rfl, ordL_lt l hk, List.getElem?_eq_getElem _, inOrdK_step l k hk, h1, hin.turn hbk (Below.turn hb) (fun e => e), deedR_keeps _ _ S0 None1 cs _ (Below.turn hb) none_off hcs⟩
theorem cell_z {w : World} {g k z : Nat} {l : List DeedD} (hk : k < (ordL l).length) (h : w.cell? ⟨g, k, none⟩ = some (.int .i64 ((ordL l)[k] : Int))) (hz : (ordL l)[k] = z) : w.cell? ⟨g, k, none⟩ = some (.int .i64 (z : Int)) := by rw [← hz]; exact h
def InOrdS (S0 : Nat → Prop) (l : List DeedD) (w wk : World) (k : Nat) (v : Value) (o : Value) : Prop := DRow S0 w wk v (inOrdK l k) ∧ wk.ownsRow w.heap.size 3 1 o (ordL l).length (cellsI2 (zOf (ordL l))) ∧ o.ownBlock ≠ v.ownBlock ∧ Below w.heap.size w wk
set_option maxHeartbeats 4000000 in
theorem implInOrder (l : List DeedD) (S0 : Nat → Prop) (v0 : Value) (w : World) (h0 : LAt 20 deedR w S0 v0 l) (hS : ∀ k, S0 k → k < w.heap.size) (b0 : bulkL deedBulk l ≤ 1048576) :
    Calls Try.prog 87 #[v0] w fun e w' => ∃ v', e = .returned v' ∧ LAt 20 deedR w' (Mine S0 w) v' (inOrd l) ∧ Below w.heap.size w w' := by
  obtain ⟨a, cap0, rfl⟩ := h0.form
  have hlen := bulkL_len deedBulk l
  have hol : (ordL l).length ≤ l.length := (ordL_ord l).len
  have HA := hide h0
  clear h0
  have hb1 := bnew w (.cells #[] 130)
  have how0 := World.ownsRow_made (base := w.heap.size) (e := 130) (size := 20) w #[] 0 (Nat.le_refl _) (by unfold maxLen; omega) rfl
  have H0 := hide (And.intro how0 hb1)
  clear how0
  go_enter Try.func87, Try.ntmps87
  go_wp2_with fail
  refine (implOrder l S0 _ _ ((unhide HA).keep deedR_keeps hb1) b0).mono ?_
  rintro e w2 ⟨vo, rfl, hro, hbo⟩
  have hf : ∃ ao co, vo = .slice ao (ordL l).length co := by
    rcases hro.2 with ⟨h1, h2⟩ | ⟨g, c, cur, h1, _⟩
    · exact ⟨none, 0, by rw [h2]; exact h1⟩
    · exact ⟨_, c, h1⟩
  obtain ⟨ao, co, rfl⟩ := hf
  have hst : Hid (InOrdS S0 l w w2 0 (.slice (some ⟨w.heap.size, 0, none⟩) 0 0) (.slice ao (ordL l).length co)) := by
    obtain ⟨how0, hb1⟩ := unhide H0
    have hne : (Value.slice ao (ordL l).length co).ownBlock ≠ (Value.slice (some ⟨w.heap.size, 0, none⟩) 0 0).ownBlock := fun e => by
      have h1 := (hro.lt w.heap.size (by rw [e]; rfl)).1
      have h2 : (w.alloc (.cells #[] 130)).heap.size = w.heap.size + 1 := by simp
      omega
    have hr2 := owns_below how0 hbo
    refine hide ⟨⟨[], ?_, ?_, fun i x hx => by simp [inOrdK] at hx⟩, owns_base hro (by simp), hne, bthen hb1 hbo⟩
    · simpa [inOrdK] using hr2
    · simp [inOrdK]
  clear hb1 hbo hro H0
  go_wp2
  go_loopw [3, 10] (fun o i wk => ∃ k : Nat, k ≤ (ordL l).length ∧ i = .int .i64 k ∧ Hid (InOrdS S0 l w wk k o (.slice ao (ordL l).length co))) (fun _ i _ => (ordL l).length - (intOf i).toNat)
  case atStart => exact ⟨0, Nat.zero_le _, rfl, hst⟩
  case round =>
    obtain ⟨k, hk, rfl, hin0⟩ := hrel
    clear hst
    by_cases hlt : k < (ordL l).length
    · have hki : (k : Int) < ((ordL l).length : Int) := by omega
      obtain ⟨⟨css, hrow, hcl, hel⟩, hro, hne, hbl⟩ := unhide hin0
      have hpre := inOrdK_len l k
      obtain ⟨g, rfl⟩ : ∃ g, ao = some ⟨g, 0, none⟩ := by
        rcases hro.2 with ⟨h1, h2⟩ | ⟨g, c, cur, h1, _⟩
        · omega
        · injection h1 with e1 e2 e3; exact ⟨g, e1⟩
      obtain ⟨z, X, b, o, cs, hz, hzl, hX, hstep, rfl, hin, hcs⟩ := ord_at (unhide HA) hbl hlt
      have cz := cell_z hlt (zcell hro k hlt) hz
      have hzi : (z : Int) < (l.length : Int) := by omega
      have HS := hide hstep
      have hrw : RowT Try.prog 130 cs.length := by rw [deedR_len hcs]; exact rowIDeed
      have HX := hide hcs
      obtain ⟨s0, rfl, y0⟩ := hcs
      have hgl := (cap_le hro).2.2
      have hb2 := bnew wr (.cells #[.int .i64 X.op, .int .i64 X.task, .int .i64 X.s.1, .int .i64 X.s.2.1, .int .i64 X.s.2.2.1, .int .i64 X.s.2.2.2.1, .bool X.s.2.2.2.2.1, s0, .int .i64 X.trace, .int .i64 X.stamp, .int .i64 X.code, .bool X.keep, .bool X.void, .int .i64 X.took, .int .i64 X.n, .int .i64 X.forgot, .int .i64 X.now, .int .i64 X.inv, .int .i64 X.lin, .int .i64 X.res] 130)
      have hrow2 := owns_below hrow hb2
      have hs2 : w.heap.size ≤ (wr.alloc (.cells #[.int .i64 X.op, .int .i64 X.task, .int .i64 X.s.1, .int .i64 X.s.2.1, .int .i64 X.s.2.2.1, .int .i64 X.s.2.2.2.1, .bool X.s.2.2.2.2.1, s0, .int .i64 X.trace, .int .i64 X.stamp, .int .i64 X.code, .bool X.keep, .bool X.void, .int .i64 X.took, .int .i64 X.n, .int .i64 X.forgot, .int .i64 X.now, .int .i64 X.inv, .int .i64 X.lin, .int .i64 X.res] 130)).heap.size := by have := hb2.size; have := hbl.size; omega
      have one1 : ∀ u ∈ [.int .i64 X.op, .int .i64 X.task, .int .i64 X.s.1, .int .i64 X.s.2.1, .int .i64 X.s.2.2.1, .int .i64 X.s.2.2.2.1, .bool X.s.2.2.2.2.1, s0, .int .i64 X.trace, .int .i64 X.stamp, .int .i64 X.code, .bool X.keep, .bool X.void, .int .i64 X.took, .int .i64 X.n, .int .i64 X.forgot, .int .i64 X.now, .int .i64 X.inv, .int .i64 X.lin, .int .i64 X.res], u.oneCell' = true := by
        intro u hu
        obtain ⟨a2, k2, rfl⟩ := y0.form
        simp only [List.mem_cons, List.not_mem_nil, or_false] at hu
        rcases hu with rfl | rfl | rfl | rfl | rfl | rfl | rfl | rfl | rfl | rfl | rfl | rfl | rfl | rfl | rfl | rfl | rfl | rfl | rfl | rfl <;> rfl
      have HE := hide (And.intro hcl (And.intro hel (And.intro hro (And.intro hne hbl))))
      clear hstep hX hz hcl hel hro hne hbl hrow y0 hin0
      go_wp2_with (first | (refine wpl_load rfl 130 _ rfl _ _ rfl _ hin hrw ?_) | (at_builtin; refine wpl_append2 rfl (.tmp 14) (.tmp 19) 56 rfl w.heap.size 130 _ 20 168 Try.underlying56 mInfoDeed rfl (by decide) _ _ _ rfl hrow2 ⟨_, 0, none⟩ 1 1 [.int .i64 X.op, .int .i64 X.task, .int .i64 X.s.1, .int .i64 X.s.2.1, .int .i64 X.s.2.2.1, .int .i64 X.s.2.2.2.1, .bool X.s.2.2.2.2.1, s0, .int .i64 X.trace, .int .i64 X.stamp, .int .i64 X.code, .bool X.keep, .bool X.void, .int .i64 X.took, .int .i64 X.n, .int .i64 X.forgot, .int .i64 X.now, .int .i64 X.inv, .int .i64 X.lin, .int .i64 X.res] rfl rfl (lit_cells4 wr [.int .i64 X.op, .int .i64 X.task, .int .i64 X.s.1, .int .i64 X.s.2.1, .int .i64 X.s.2.2.1, .int .i64 X.s.2.2.2.1, .bool X.s.2.2.2.2.1, s0, .int .i64 X.trace, .int .i64 X.stamp, .int .i64 X.code, .bool X.keep, .bool X.void, .int .i64 X.took, .int .i64 X.n, .int .i64 X.forgot, .int .i64 X.now, .int .i64 X.inv, .int .i64 X.lin, .int .i64 X.res] 130) one1 (by unfold maxLen; omega) (by omega) hs2 ?_))
      intro v' w' how hg hv
      obtain ⟨hcl, hel, hro, hne, hbl⟩ := unhide HE
      have hown : ∀ q, Value.ownBlock _ = some q → w.heap.size ≤ q := fun q hq => (hrow2.lt q hq).1
      have hd := DRow.step hS hcl (fun i x hx => by
        obtain ⟨c, g1, g2, g3⟩ := hel i x hx
        exact ⟨c, g1, deedR_keeps _ _ _ None1 _ _ (Below.turn hb2) none_off g2, g3⟩) (deedR_keeps _ _ _ None1 _ _ (Below.turn hb2) none_off (unhide HX)) rfl how hg hown
      rw [← unhide HS] at hd
      have hro2 := owns_apart (owns_below hro hb2) hg hne
      have hne2 : (Value.slice (some ⟨g, 0, none⟩) (ordL l).length co).ownBlock ≠ v'.ownBlock := by
        rcases hv with h | h
        · rw [h]; exact hne
        · rw [h]
          intro e
          have h1 := hgl
          have h3 := hb2.size
          have h4 : g = wr.heap.size + 1 := Option.some.inj e
          omega
      have bl1 := grown_below (bthen hbl hb2) hg hown hs2
      have HST := hide (show InOrdS S0 l w w' (k + 1) v' (.slice (some ⟨g, 0, none⟩) (ordL l).length co) from ⟨hd, hro2, hne2, bl1⟩)
      clear how hg hv hd hro2 hne2 bl1 hcl hel hro hne hbl hrow2 hown HE HX hb2 one1 hin cz
      go_wp2
      go_roundw
      case rel => exact ⟨k + 1, by omega, by go_num, HST⟩
      case measure => simp [intOf]; omega
    · have hki : ¬ (k : Int) < ((ordL l).length : Int) := by omega
      obtain rfl : k = (ordL l).length := by omega
      have h1 := (unhide hin0).1
      have h2 := (unhide hin0).2.2.2
      rw [inOrdK_all] at h1
      have hll : (inOrd l).length ≤ 9223372036854775807 := by rw [← inOrdK_all]; have := inOrdK_len l (ordL l).length; omega
      have HF := hide (And.intro (h1.read hll) h2)
      clear h1 h2 hin0
      go_wp2
      go_ret
      exact ⟨_, rfl, (unhide HF).1, (unhide HF).2⟩
end Go.Proofs.Ytopngelgpfjdeaa
