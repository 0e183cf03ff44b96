/-
  What draws things: contracts of the specification's drawing functions.
-/
import Derived.Test.YtchinpgjaddnkaaDoorDrA
import Derived.Test.YtchinpgjaddnkaaDoorASpan
import Derived.Test.YtchinpgjaddnkaaDoorAbs2
import Derived.Test.YtchinpgjaddnkaaDoorTSpan
import Derived.Deep.RegionHeld3
namespace Go.Proofs.YtchinpgjaddnkaaDoor
open Go.ChangeShapes Go.WideShapes Go.ChangeAt Go.RowKit
set_option linter.unusedVariables false
set_option maxRecDepth 100000
variable {B : Nat}

theorem GrowX.stepL {α : Type} {N : Nat} {C : World → (Nat → Prop) → List Value → α → Prop} (hC : Keeps C) {t : TypeId} {base : Nat} {w w2 w' : World} {v v' : Value} {l : List α} {css : List (List Value)} {T : Nat → Nat → Prop} (h : GrowX N C t base w v l css T)
    {U : Nat → Prop} (hb : Turn U w w2) (hU : ∀ k, U k → k < base) {xs : List α} {cx : List (List Value)} (hln : cx.length = xs.length) (hx : ∀ (i : Nat) (x : α) (c : List Value), xs[i]? = some x → cx[i]? = some c → C w2 (fun _ => False) c x ∧ c.length = N)
    (how : w'.ownsRow base t N v' (l.length + xs.length) (css.flatten ++ cx.flatten)) (hg : w2.grownBy w' v.ownBlock) (hv : v'.ownBlock = v.ownBlock ∨ v'.ownBlock = some w2.heap.size) : GrowL N C t base w' v' (l ++ xs) := by
  have ht := grown_turn hg
  have hsz := hb.size
  have hsz2 := hg.size
  refine ⟨css ++ cx, fun i k => i < l.length ∧ T i k, ⟨by simpa using how, by simp [h.len, hln], ?_, ?_, ?_⟩⟩
  · intro i k hk
    have := h.off i k hk.2
    refine ⟨this.1, by omega, fun e => ?_⟩
    rcases hv with hv | hv
    · rw [hv] at e; exact this.2.2 e
    · rw [hv, Option.some.injEq] at e; omega
  · intro i j k hi hj
    exact h.one i j k hi.2 hj.2
  · intro i y hy
    by_cases hi : i < l.length
    · rw [List.getElem?_append_left hi] at hy
      obtain ⟨c, h1, h2, h3⟩ := h.has i y hy
      refine ⟨c, by rw [List.getElem?_append_left (by rw [h.len]; exact hi)]; exact h1, ?_, h3⟩
      have e : (fun k => i < l.length ∧ T i k) = T i := funext fun k => propext ⟨fun h => h.2, fun h => ⟨hi, h⟩⟩
      show C _ (fun k => i < l.length ∧ T i k) c _
      rw [e]
      exact hC w2 w' _ _ c _ ht (fun k hk e => (h.off i k hk).2.2 e) (hC w w2 _ _ c _ hb (fun k hk e => by have := (h.off i k hk).1; have := hU k e; omega) h2)
    · rw [List.getElem?_append_right (by omega)] at hy
      have hlt := (List.getElem?_eq_some_iff.1 hy).1
      have hc : cx[i - l.length]? = some (cx[i - l.length]'(by omega)) := List.getElem?_eq_getElem _
      obtain ⟨g1, g2⟩ := hx _ y _ hy hc
      refine ⟨_, by rw [List.getElem?_append_right (by rw [h.len]; omega), h.len]; exact hc, ?_, g2⟩
      have e : (fun k => i < l.length ∧ T i k) = fun _ => False := funext fun k => propext ⟨fun h => hi h.1, fun h => h.elim⟩
      show C _ (fun k => i < l.length ∧ T i k) _ _
      rw [e]
      exact hC w2 w' _ _ _ y ht (fun k hk => False.elim hk) g1
def acell (x : AttrD) : List Value := [.string x.1, .bool x.2.1, .int .i64 x.2.2.1, .string x.2.2.2]
theorem acells_len (xs : List AttrD) : (xs.flatMap acell).length = xs.length * 4 := by
  induction xs with
  | nil => rfl
  | cons x r ih => simp only [List.flatMap_cons, List.length_append, ih, acell, List.length_cons, List.length_nil]; omega
/-- Some more attributes behind those that were grown: the literal's block, the append. -/
theorem GrowL.appA {base : Nat} {w : World} {v : Value} {l : List AttrD} (h : GrowL 4 attrO 49 base w v l) (hbase : base ≤ w.heap.size) {w2 : World} {U : Nat → Prop} (hb : Turn U w w2) (hU : ∀ k, U k → k < base) (xs : List AttrD) (hx : AllT xs) (hll : l.length + xs.length ≤ 1048576) (n : Nat) (hn : xs.length = n) :
    ∃ a c w', (Builtin.append_ #[24, 24] 24 #[v, .slice (some ⟨w2.heap.size, 0, none⟩) n n]).run Tryd.prog (w2.alloc (.cells (xs.flatMap acell).toArray 49)) = .ok (.slice a (l ++ xs).length c) w' ∧ GrowL 4 attrO 49 base w' (.slice a (l ++ xs).length c) (l ++ xs) ∧ Turn (fun k => base ≤ k) w2 w' := by
  subst hn
  obtain ⟨i0, hi, hz0, hz1, hz2⟩ := info_parts infoAttrZ
  obtain ⟨css, T, gx⟩ := h
  have hz := hb.size
  have hk : Turn U w (w2.alloc (.cells (xs.flatMap acell).toArray 49)) := hb.trans ((Below.turn (bnew _ _)).mono (fun q h => False.elim h))
  have hrow := (gx.keepT attrO_keeps hk hU).row
  obtain ⟨v', w', hr, how, hg, hv⟩ := run_append2 (P := Tryd.prog) (w2.alloc (.cells (xs.flatMap acell).toArray 49)) base 24 24 49 i0 _ 4 48 Tryd.underlying24 hi hz0 hz1 hz2 rfl (by decide) v l.length _ hrow ⟨w2.heap.size, 0, none⟩ xs.length xs.length (xs.flatMap acell) (acells_len xs) (by
    intro j u hj
    have e : (⟨w2.heap.size, 0, none⟩ : Addr).add j = ⟨w2.heap.size, j, none⟩ := by unfold Addr.add; split <;> simp_all
    rw [e, World.cell?_alloc_at _ _ _ _ rfl]
    simpa using hj) (by
    intro u hu
    obtain ⟨x, _, hxu⟩ := List.mem_flatMap.1 hu
    exact one_attr x u hxu) (by unfold maxLen; omega) (by omega) (by simp; omega)
  have hst := gx.stepL attrO_keeps hk hU (xs := xs) (cx := xs.map acell) (by simp) (fun i x c hi hc => by
    rw [List.getElem?_map, hi] at hc
    simp only [Option.map_some, Option.some.injEq] at hc
    subst hc
    exact ⟨tiny_own (hx x (List.mem_of_getElem? hi)), rfl⟩) (by rw [← List.flatMap_def]; exact how) hg hv
  obtain ⟨a, c, rfl⟩ : ∃ a c, v' = .slice a (l ++ xs).length c := by
    rw [List.length_append]
    rcases how.2 with ⟨rfl, h0⟩ | ⟨g, cap, cur, rfl, _⟩
    · exact ⟨none, 0, by rw [h0]⟩
    · exact ⟨_, cap, rfl⟩
  exact ⟨a, c, w', hr, hst, ((Below.turn (bnew w2 _)).mono (fun q h => False.elim h)).trans ((grown_turn hg).mono (fun q e => (gx.row.lt q e).1))⟩
theorem growk {w wa wb : World} {v : Value} {l : List AttrD} {N : Nat} (_ : N ≤ w.heap.size) (h : Hid (w.heap.size ≤ wa.heap.size ∧ GrowL 4 attrO 49 w.heap.size wa v l)) (hb : Below wa.heap.size wa wb) : Hid (w.heap.size ≤ wb.heap.size ∧ GrowL 4 attrO 49 w.heap.size wb v l) :=
  hide ⟨Nat.le_trans (unhide h).1 hb.size, (unhide h).2.keep attrO_keeps hb⟩
theorem growt {w wa wb : World} {v : Value} {l : List AttrD} {b : Nat} (hlt : b < w.heap.size) (h : Hid (w.heap.size ≤ wa.heap.size ∧ GrowL 4 attrO 49 w.heap.size wa v l)) (ht : Turn (fun k => k = b) wa wb) : Hid (w.heap.size ≤ wb.heap.size ∧ GrowL 4 attrO 49 w.heap.size wb v l) :=
  hide ⟨Nat.le_trans (unhide h).1 ht.size, (unhide h).2.keepT attrO_keeps ht (fun k e => by omega)⟩
set_option maxHeartbeats 1000000 in
theorem l2Any_any (b : Nat) (w : World) (hc : Cur B w b) :
    Calls Tryd.prog 45 #[.pointer (some ⟨b, 0, none⟩)] w fun e w' => (∃ v l, e = .returned v ∧ l.length ≤ 9 ∧ AllT l ∧ GrowL 4 attrO 49 w.heap.size w' v l) ∧ Cur B w' b ∧ Turns b w w' := by
  have hlt := hc.lt
  have hB := hc.high
  have hbB := hc.low
  have hc0 := hc
  have T0 := Turns.refl b w
  clear hc
  go_enter Tryd.func45, Tryd.ntmps45
  go_wp2_with fail
  refine (l2Draw_any b w hc0).mono ?_
  rintro e w1 ⟨⟨v0, l, rfl, hl5, ha, g0⟩, hc1, ht1⟩
  have T1 := T0.trans ht1
  have hl1 := hc1.lt
  have hlen : v0.cells.size = 1 := by obtain ⟨css, T, g⟩ := g0; rcases g.row.2 with ⟨rfl, _⟩ | ⟨_, _, _, rfl, _⟩ <;> rfl
  clear hlen
  have HA := hide ha
  clear T0 hc0 ha ht1
  have G1 := hide (And.intro T1.size g0)
  clear g0
  go_wp2_with fail
  refine (l1Below_any b 8 (by omega) w1 hc1).mono ?_
  rintro e w2 ⟨⟨x, rfl, hx0, hx1⟩, hc2, ht⟩
  have T2 := T1.trans ht
  have G2 := growt hlt G1 ht.turn
  have hl2 := hc2.lt
  clear hc1 T1 G1 ht
  by_cases h0 : x = 0
  · subst h0
    go_wp2_with fail
    refine (l1AnyName_any b w2 hc2).mono ?_
    rintro e w3 ⟨⟨n1, rfl, hn1⟩, hc3, ht⟩
    have T3 := T2.trans ht
    have G3 := growt hlt G2 ht.turn
    have hl3 := hc3.lt
    clear hc2 T2 G2 ht
    go_wp2_with fail
    refine (l1Once_any b 2 (by omega) w3 hc3).mono ?_
    rintro e w4 ⟨⟨y, rfl⟩, hc4, ht⟩
    have T4 := T3.trans ht
    have G4 := growt hlt G3 ht.turn
    have hl4 := hc4.lt
    clear hc3 T3 G3 ht
    go_wp2_with fail
    refine (l1Raw_any b w4 hc4).mono ?_
    rintro e w5 ⟨⟨z, rfl, hz⟩, hc5, ht⟩
    have T5 := T4.trans ht
    have G5 := growt hlt G4 ht.turn
    have hl5 := hc5.lt
    clear hc4 T4 G4 ht
    go_wp2_with fail
    refine (l1Plain_any b w5 hc5).mono ?_
    rintro e w6 ⟨⟨n2, rfl, hn2⟩, hc6, ht⟩
    have T6 := T5.trans ht
    have G6 := growt hlt G5 ht.turn
    have hl6 := hc6.lt
    clear hc5 T5 G5 ht
    obtain ⟨gs, gg⟩ := unhide G6
    have hx9 : AllT [(n1, y, z, n2)] := by intro z hz; simp only [List.mem_cons, List.not_mem_nil, or_false] at hz; (first | (subst hz; exact ⟨by assumption, by assumption⟩) | (rcases hz with rfl | rfl | rfl | rfl <;> assumption))
    obtain ⟨a9, c9, w9, hr, g9, t9⟩ := gg.appA gs (Turn.refl (fun _ => False) w6) (fun k h => False.elim h) [(n1, y, z, n2)] hx9 (by simp; omega) 1 rfl
    have c10 := hc6.new t9 (fun q e => by omega)
    have t10 := T6.new t9 (fun q e => e)
    have HF := hide (And.intro g9 (And.intro c10 t10))
    have HX9 : Hid (AllT (l ++ [(n1, y, z, n2)])) := hide (fun z hz => by rcases List.mem_append.1 hz with h | h; exact unhide HA z h; exact hx9 z h)
    have hln9 : (l ++ [(n1, y, z, n2)]).length ≤ 9 := by simp; omega
    generalize hL9 : l ++ [(n1, y, z, n2)] = L9 at *
    clear hL9 hx9 gg g9 t9 c10 t10 hc6 T6 G6
    go_wp2_with (first | (at_builtin; refine wpl_app rfl rfl rfl rfl hr ?_))
    go_ret
    exact ⟨⟨_, L9, rfl, hln9, unhide HX9, (unhide HF).1⟩, (unhide HF).2⟩
  replace h0 : (x == (0 : Int)) = false := beq_eq_false_iff_ne.2 h0
  by_cases h1 : x = 1
  · subst h1
    go_wp2_with fail
    refine (l1Str_any b w2.heap.size [⟨#[97]⟩, ⟨#[122, 111, 111]⟩] 2 _ (hc2.keep (bnew _ _)) (by omega) (by simp) (by simp) (by simp) ?_).mono ?_
    · exact cells_strs w2 9 [⟨#[97]⟩, ⟨#[122, 111, 111]⟩]
    rintro e w3 ⟨⟨n1, rfl, hmn1⟩, hc3, ht⟩
    have HXn1 := hide (short_of (by decide) hmn1)
    clear hmn1
    have T3 := (T2.alloc _).trans ht
    have G3 := growt hlt (growk hB G2 (bnew _ _)) ht.turn
    have hl3 := hc3.lt
    clear hc2 T2 G2 ht
    have hn1 := unhide HXn1
    go_wp2_with fail
    refine (l2One_any b n1 hn1 w3 hc3).mono ?_
    rintro e w4 ⟨⟨y, rfl, hy⟩, hc4, ht⟩
    have T4 := T3.trans ht
    have G4 := growt hlt G3 ht.turn
    have hl4 := hc4.lt
    clear hc3 T3 G3 ht
    obtain ⟨gs, gg⟩ := unhide G4
    have hx9 : AllT [y] := by intro z hz; simp only [List.mem_cons, List.not_mem_nil, or_false] at hz; (first | (subst hz; exact ⟨by assumption, by assumption⟩) | (rcases hz with rfl | rfl | rfl | rfl <;> assumption))
    obtain ⟨a9, c9, w9, hr, g9, t9⟩ := gg.appA gs (Turn.refl (fun _ => False) w4) (fun k h => False.elim h) [y] hx9 (by simp; omega) 1 rfl
    have c10 := hc4.new t9 (fun q e => by omega)
    have t10 := T4.new t9 (fun q e => e)
    have HF := hide (And.intro g9 (And.intro c10 t10))
    have HX9 : Hid (AllT (l ++ [y])) := hide (fun z hz => by rcases List.mem_append.1 hz with h | h; exact unhide HA z h; exact hx9 z h)
    have hln9 : (l ++ [y]).length ≤ 9 := by simp; omega
    generalize hL9 : l ++ [y] = L9 at *
    clear hL9 hx9 gg g9 t9 c10 t10 hc4 T4 G4
    go_wp2_with (first | (at_builtin; refine wpl_app rfl rfl rfl rfl hr ?_))
    go_ret
    exact ⟨⟨_, L9, rfl, hln9, unhide HX9, (unhide HF).1⟩, (unhide HF).2⟩
  replace h1 : (x == (1 : Int)) = false := beq_eq_false_iff_ne.2 h1
  by_cases h2 : x = 2
  · subst h2
    go_wp2_with fail
    refine (l2One_any b ⟨#[118]⟩ (by decide) w2 hc2).mono ?_
    rintro e w3 ⟨⟨y0, rfl, hy0⟩, hc3, ht⟩
    have T3 := T2.trans ht
    have G3 := growt hlt G2 ht.turn
    have hl3 := hc3.lt
    clear hc2 T2 G2 ht
    go_wp2_with fail
    refine (l2One_any b ⟨#[119]⟩ (by decide) w3 hc3).mono ?_
    rintro e w4 ⟨⟨y1, rfl, hy1⟩, hc4, ht⟩
    have T4 := T3.trans ht
    have G4 := growt hlt G3 ht.turn
    have hl4 := hc4.lt
    clear hc3 T3 G3 ht
    go_wp2_with fail
    refine (l2One_any b ⟨#[120]⟩ (by decide) w4 hc4).mono ?_
    rintro e w5 ⟨⟨y2, rfl, hy2⟩, hc5, ht⟩
    have T5 := T4.trans ht
    have G5 := growt hlt G4 ht.turn
    have hl5 := hc5.lt
    clear hc4 T4 G4 ht
    go_wp2_with fail
    refine (l2One_any b ⟨#[121]⟩ (by decide) w5 hc5).mono ?_
    rintro e w6 ⟨⟨y3, rfl, hy3⟩, hc6, ht⟩
    have T6 := T5.trans ht
    have G6 := growt hlt G5 ht.turn
    have hl6 := hc6.lt
    clear hc5 T5 G5 ht
    obtain ⟨gs, gg⟩ := unhide G6
    have hx9 : AllT [y0, y1, y2, y3] := by intro z hz; simp only [List.mem_cons, List.not_mem_nil, or_false] at hz; (first | (subst hz; exact ⟨by assumption, by assumption⟩) | (rcases hz with rfl | rfl | rfl | rfl <;> assumption))
    obtain ⟨a9, c9, w9, hr, g9, t9⟩ := gg.appA gs (Turn.refl (fun _ => False) w6) (fun k h => False.elim h) [y0, y1, y2, y3] hx9 (by simp; omega) 4 rfl
    have c10 := hc6.new t9 (fun q e => by omega)
    have t10 := T6.new t9 (fun q e => e)
    have HF := hide (And.intro g9 (And.intro c10 t10))
    have HX9 : Hid (AllT (l ++ [y0, y1, y2, y3])) := hide (fun z hz => by rcases List.mem_append.1 hz with h | h; exact unhide HA z h; exact hx9 z h)
    have hln9 : (l ++ [y0, y1, y2, y3]).length ≤ 9 := by simp; omega
    generalize hL9 : l ++ [y0, y1, y2, y3] = L9 at *
    clear hL9 hx9 gg g9 t9 c10 t10 hc6 T6 G6
    go_wp2_with (first | (at_builtin; refine wpl_app rfl rfl rfl rfl hr ?_))
    go_ret
    exact ⟨⟨_, L9, rfl, hln9, unhide HX9, (unhide HF).1⟩, (unhide HF).2⟩
  replace h2 : (x == (2 : Int)) = false := beq_eq_false_iff_ne.2 h2
  have HF := hide (And.intro (unhide G2).2 (And.intro hc2 T2))
  clear hc2 T2 G2
  go_wp2
  go_ret
  exact ⟨⟨_, l, rfl, by omega, unhide HA, (unhide HF).1⟩, (unhide HF).2⟩
def TinyS (x : SpanD) : Prop := x.2.2.2.2.2.length ≤ 9 ∧ AllT x.2.2.2.2.2
theorem growForm {α : Type} {N : Nat} {C : World → (Nat → Prop) → List Value → α → Prop} {t : TypeId} {base : Nat} {w : World} {v : Value} {l : List α} (h : GrowL N C t base w v l) : ∃ a cap, v = .slice a l.length cap := by
  obtain ⟨css, T, g⟩ := h
  rcases g.row.2 with ⟨rfl, h0⟩ | ⟨b, cap, cur, rfl, _⟩
  · exact ⟨none, 0, by rw [h0]⟩
  · exact ⟨_, cap, rfl⟩
/-- Attributes that lie apart from the result's block and the box. -/
def Gz (n s : Nat) (wa : World) (sv : Value) (l : List AttrD) : Prop := ∃ p q, LOw 4 attrO wa (Within p q) sv l ∧ n < p ∧ q ≤ wa.heap.size ∧ (s < p ∨ q ≤ s)
theorem gzk {n s : Nat} {wa wb : World} {sv : Value} {l : List AttrD} (h : Gz n s wa sv l) (hb : Below wa.heap.size wa wb) : Gz n s wb sv l := by
  obtain ⟨p, q, h1, h2, h3, h4⟩ := h
  exact ⟨p, q, h1.keep attrO_keeps hb, h2, Nat.le_trans h3 hb.size, h4⟩
theorem gzt {n s : Nat} {wa wb : World} {sv : Value} {l : List AttrD} {U : Nat → Prop} (hU : ∀ k, U k → k ≤ n ∨ k = s) (h : Gz n s wa sv l) (ht : Turn U wa wb) : Gz n s wb sv l := by
  obtain ⟨p, q, h1, h2, h3, h4⟩ := h
  refine ⟨p, q, h1.turn attrO_keeps ht (fun k hk e => ?_), h2, Nat.le_trans h3 ht.size, h4⟩
  have := hk.1
  have := hk.2
  rcases hU k e with h | h <;> omega
theorem gzw {n s : Nat} {wa : World} {sv : Value} {l : List AttrD} (h : Gz n s wa sv l) : LOw 4 attrO wa (Within n wa.heap.size) sv l := by
  obtain ⟨p, q, h1, h2, h3, h4⟩ := h
  exact h1.widens (fun k hk => ⟨by have := hk.1; omega, by have := hk.2; omega⟩)
theorem lok {p q : Nat} {wa wb : World} {sv : Value} {l : List AttrD} (h : LOw 4 attrO wa (Within p q) sv l) (hb : Below wa.heap.size wa wb) : LOw 4 attrO wb (Within p q) sv l := h.keep attrO_keeps hb
set_option maxHeartbeats 1000000 in
theorem l3Draw_any (b : Nat) (w : World) (hc : Cur B w b) :
    Calls Tryd.prog 41 #[.pointer (some ⟨b, 0, none⟩)] w fun e w' => (∃ cs x, e = .returned (.agg cs.toArray) ∧ spanO w' (Within w.heap.size w'.heap.size) cs x ∧ TinyS x) ∧ Cur B w' b ∧ Turns b w w' := by
  have hlt := hc.lt
  have hB := hc.high
  have T0 := Turns.allocs (b := b) (w := w) (.cells #[.int .i64 0, .int .i64 0, .int .i64 0, .int .i64 0, .bool false, .slice none 0 0] 26)
  have R0 := WrAt.new w #[.int .i64 0, .int .i64 0, .int .i64 0, .int .i64 0, .bool false, .slice none 0 0] 26 6 rfl
  have hc0 := hc.keep (bnew w (.cells #[.int .i64 0, .int .i64 0, .int .i64 0, .int .i64 0, .bool false, .slice none 0 0] 26))
  clear hc
  go_enter Tryd.func41, Tryd.ntmps41
  go_upto_region 1 with fail
  generalize World.alloc w _ = w0 at *
  have hl0 := hc0.lt
  go_wp2_with fail
  refine (l1Below_any b 5 (by omega) w0 hc0).mono ?_
  rintro e w1 ⟨⟨x1, rfl, hx10, hx11⟩, hc1, ht⟩
  have T1 := T0.trans ht
  have R1 := (R0.turn ht.turn (by omega))
  have hl1 := hc1.lt
  clear hc0 T0 R0 ht
  go_wp2_with fail
  refine (l1Below_any b 9 (by omega) w1 hc1).mono ?_
  rintro e w2 ⟨⟨x2, rfl, hx20, hx21⟩, hc2, ht⟩
  have T2 := T1.trans ht
  have R2 := (R1.turn ht.turn (by omega))
  have hl2 := hc2.lt
  clear hc1 T1 R1 ht
  go_wp2_with fail
  refine (l1Below_any b 9 (by omega) w2 hc2).mono ?_
  rintro e w3 ⟨⟨x3, rfl, hx30, hx31⟩, hc3, ht⟩
  have T3 := T2.trans ht
  have R3 := (R2.turn ht.turn (by omega))
  have hl3 := hc3.lt
  clear hc2 T2 R2 ht
  go_wp2_with fail
  refine (l1Once_any b 4 (by omega) w3 hc3).mono ?_
  rintro e w4 ⟨⟨er, rfl⟩, hc4, ht⟩
  have T4 := T3.trans ht
  have R4 := (R3.turn ht.turn (by omega))
  have hl4 := hc4.lt
  clear hc3 T3 R3 ht
  have hpw : w.heap.size < w4.heap.size := R4.1
  go_wp2_with fail
  refine (l2Draw_any b w4 hc4).mono ?_
  rintro e w5 ⟨⟨v0, l, rfl, hl5, ha, g0⟩, hc5, ht⟩
  have T5 := T4.trans ht
  have R5 := (R4.turn ht.turn (by omega))
  have hl5 := hc5.lt
  clear hc4 T4 R4 ht
  obtain ⟨a0, c0, rfl⟩ := growForm g0
  have A5 := g0.done (by omega)
  have HT := hide ha
  clear g0 ha
  have hc6 := hc5.keep (bnew w5 (.cells #[.int .i64 (1 + x1), .int .i64 (1 + x2), .int .i64 x3, .int .i64 0, .bool er, .slice a0 l.length c0] 26))
  have T6 := T5.alloc (.cells #[.int .i64 (1 + x1), .int .i64 (1 + x2), .int .i64 x3, .int .i64 0, .bool er, .slice a0 l.length c0] 26)
  have R6 := R5.keep (bnew w5 (.cells #[.int .i64 (1 + x1), .int .i64 (1 + x2), .int .i64 x3, .int .i64 0, .bool er, .slice a0 l.length c0] 26))
  have A6 := lok A5 (bnew w5 (.cells #[.int .i64 (1 + x1), .int .i64 (1 + x2), .int .i64 x3, .int .i64 0, .bool er, .slice a0 l.length c0] 26))
  have P6 := Held.new w5 [.int .i64 (1 + x1), .int .i64 (1 + x2), .int .i64 x3, .int .i64 0, .bool er, .slice a0 l.length c0] 26
  have V6 := WrAt.new w5 #[.int .i64 (1 + x1), .int .i64 (1 + x2), .int .i64 x3, .int .i64 0, .bool er, .slice a0 l.length c0] 26 6 rfl
  have hsb : b < w5.heap.size := hc5.lt
  have hsB : B ≤ w5.heap.size := hc5.high
  have hsw : w.heap.size < w5.heap.size := R5.1
  clear hc5 T5 R5 A5
  go_upto_region 2 with (first | (refine wpl_store_new rfl _ _ _ rfl _ [.int .i64 (1 + x1), .int .i64 (1 + x2), .int .i64 x3, .int .i64 0, .bool er, .slice a0 l.length c0] rfl rfl ?_ (by intro v hv; simp only [List.mem_cons, List.not_mem_nil, or_false] at hv; rcases hv with rfl | rfl | rfl | rfl | rfl | rfl <;> rfl) rowISpan ?_; rfl))
  generalize w5.heap.size = s at *
  generalize hW : World.alloc w5 _ = w6 at *
  clear hW
  have hl6 := hc6.lt
  have hsl : s < w6.heap.size := P6.1
  have G6 : Gz w.heap.size s w6 (.slice a0 l.length c0) l := ⟨_, _, A6, hpw, Nat.le_of_lt hsl, .inr (Nat.le_refl _)⟩
  clear A6
  have bd : Below w6.heap.size w6 w6.drew := Below.drew (Below.refl _ _)
  have bA := bthen bd (bnew w6.drew (.cells #[.int .i64 0, .int .i64 1, .int .i64 5, .int .i64 20] 3))
  have tb : ∀ {wx : World}, Below w6.heap.size w6 wx → Turn (fun k => k = b ∨ k = s) w6 wx := fun h => (Below.turn h).mono (fun q h => False.elim h)
  have S0 : (fun w' => Cur B w' b ∧ Turns b w w' ∧ Turn (fun k => k = b ∨ k = s) w6 w' ∧ ∃ z : Int, Held w' s [.int .i64 (1 + x1), .int .i64 (1 + x2), .int .i64 x3, .int .i64 z, .bool er, .slice a0 l.length c0] ∧ WrAt w' s 0 6) w6.drew := ⟨hc6.keep bd, T6.new (Below.turn bd) (fun q e => False.elim e), tb bd, 0, P6.keep bd, V6.keep bd⟩
  have S1 : (fun w' => Cur B w' b ∧ Turns b w w' ∧ Turn (fun k => k = b ∨ k = s) w6 w' ∧ ∃ z : Int, Held w' s [.int .i64 (1 + x1), .int .i64 (1 + x2), .int .i64 x3, .int .i64 z, .bool er, .slice a0 l.length c0] ∧ WrAt w' s 0 6) (w6.drew.alloc (.cells #[.int .i64 0, .int .i64 1, .int .i64 5, .int .i64 20] 3)) := ⟨hc6.keep bA, T6.new (Below.turn bA) (fun q e => False.elim e), tb bA, 0, P6.keep bA, V6.keep bA⟩
  have hbd : b < w6.drew.heap.size := (hc6.keep bd).lt
  clear bd bA tb
  refine wp_region_held_drew (S := fun w' => Cur B w' b ∧ Turns b w w' ∧ Turn (fun k => k = b ∨ k = s) w6 w' ∧ ∃ z : Int, Held w' s [.int .i64 (1 + x1), .int .i64 (1 + x2), .int .i64 x3, .int .i64 z, .bool er, .slice a0 l.length c0] ∧ WrAt w' s 0 6) (by kernel_rfl) S0 (fun hHeld => ?_)
  refine wpAnyH_take (i := 0) (oi := ?oo1) (v := ?vv1) ?hi1 (by kernel_rfl) (by kernel_rfl) (by kernel_rfl) ?hQ1 ?hy1 (by assumption) ?rest1
  case hi1 => (simp only [List.getElem?_toArray, List.getElem?_cons_zero]; rfl)
  case hQ1 => exact fun _ _ _ h => h
  case hy1 => exact Or.inl ⟨by rfl, by intro wS hSw; (try dsimp only at hSw); go_simp; try first | (with_reducible rfl) | (simp only [*]; done) | omega⟩
  try simp only [Act.put, List.setIfInBounds_toArray, List.set_cons_zero, List.set_cons_succ]
  refine wpAnyH_take (i := 1) (oi := ?oo2) (v := .int .i64 x3) ?hi2 (by kernel_rfl) (by kernel_rfl) (by kernel_rfl) ?hQ2 ?hy2 (by assumption) ?rest2
  case hi2 => (simp only [List.getElem?_toArray, List.getElem?_cons_zero, List.getElem?_cons_succ]; rfl)
  case hQ2 => exact fun _ _ _ h => h
  case hy2 => exact yld_cell (by rfl) 3 _ rfl s 2 rfl (.int .i64 x3) (fun w' hS => by obtain ⟨_, _, _, z, hP, _⟩ := hS; exact hP.2 2 _ rfl) plainInt
  try simp only [Act.put, List.setIfInBounds_toArray, List.set_cons_zero, List.set_cons_succ]
  refine wpAnyH_take (i := 2) (oi := ?oo3) (v := ?vv3) ?hi3 (by kernel_rfl) (by kernel_rfl) (by kernel_rfl) ?hQ3 ?hy3 (by assumption) ?rest3
  case hi3 => (simp only [List.getElem?_toArray, List.getElem?_cons_zero, List.getElem?_cons_succ]; rfl)
  case hQ3 => exact fun _ _ _ h => h
  case hy3 => exact Or.inl ⟨by rfl, by intro wS hSw; (try dsimp only at hSw); go_simp; try first | (with_reducible rfl) | (simp only [*]; done) | omega⟩
  try simp only [Act.put, List.setIfInBounds_toArray, List.set_cons_zero, List.set_cons_succ]
  refine wpAnyH_ready (rs := [3]) (by kernel_rfl) (by simp) ?_
  refine (AllReadyH.cons (o := ?bo4n3) ?bh4n3 (fun K hK => ?br4n3) AllReadyH.nil)
  case bh4n3 => (simp only [List.getElem?_toArray, List.getElem?_cons_zero, List.getElem?_cons_succ]; rfl)
  case br4n3 =>
    go_simp
    refine hK.out _ _ (S1) (fun hHeld => ?_)
    clear hK
    refine wpAnyH_ready (rs := [4]) (by kernel_rfl) (by simp) ?_
    refine (AllReadyH.cons (o := ?bo5n4) ?bh5n4 (fun K hK => ?br5n4) AllReadyH.nil)
    case bh5n4 => (simp only [List.getElem?_toArray, List.getElem?_cons_zero, List.getElem?_cons_succ]; rfl)
    case br5n4 =>
      go_simp
      refine (l1Int_any b w6.drew.heap.size [0, 1, 5, 20] 4 _ S1.1 (by omega) (by simp) (by simp) (by simp) ?_).mono ?_
      · exact cells_ints w6.drew 3 [0, 1, 5, 20]
      rintro e w9 ⟨⟨y, rfl, hy⟩, hc9, ht9⟩
      have hyb : 0 ≤ y ∧ y ≤ 20 := by simp only [List.mem_cons, List.not_mem_nil, or_false] at hy; omega
      obtain ⟨hy0, hy1⟩ := hyb
      have hS9 := S1
      obtain ⟨_, t9, u9, z9, p9, v9⟩ := hS9
      have t9 := t9.trans ht9
      have p9 := p9.turn ht9.turn (by omega)
      have v9 := v9.turn ht9.turn (by omega)
      have u9 := u9.trans (ht9.turn.mono (fun q e => .inl e))
      have q9 := p9.2 3 _ rfl
      have f9 := v9.free 3 (by omega)
      rw [Nat.zero_add] at f9
      have S9 : (fun w' => Cur B w' b ∧ Turns b w w' ∧ Turn (fun k => k = b ∨ k = s) w6 w' ∧ ∃ z : Int, Held w' s [.int .i64 (1 + x1), .int .i64 (1 + x2), .int .i64 x3, .int .i64 z, .bool er, .slice a0 l.length c0] ∧ WrAt w' s 0 6) w9 := ⟨hc9, t9, u9, z9, p9, v9⟩
      clear hy ht9
      go_wp2_with fail
      refine hK.out _ _ (S9) (fun hHeld => ?_)
      clear hK
      refine wpAnyH_take (i := 5) (oi := ?oo6) (v := ?vv6) ?hi6 (by kernel_rfl) (by kernel_rfl) (by kernel_rfl) ?hQ6 ?hy6 (by assumption) ?rest6
      case hi6 => (simp only [List.getElem?_toArray, List.getElem?_cons_zero, List.getElem?_cons_succ]; rfl)
      case hQ6 => exact fun _ _ _ h => h
      case hy6 => exact Or.inl ⟨by rfl, by intro wS hSw; (try dsimp only at hSw); go_simp; try first | (with_reducible rfl) | (simp only [*]; done) | omega⟩
      try simp only [Act.put, List.setIfInBounds_toArray, List.set_cons_zero, List.set_cons_succ]
      refine wpAnyH_take (i := 6) (oi := ?oo7) (v := ?vv7) ?hi7 (by kernel_rfl) (by kernel_rfl) (by kernel_rfl) ?hQ7 ?hy7 (by assumption) ?rest7
      case hi7 => (simp only [List.getElem?_toArray, List.getElem?_cons_zero, List.getElem?_cons_succ]; rfl)
      case hQ7 => exact fun _ _ _ h => h
      case hy7 => exact Or.inl ⟨by rfl, by intro wS hSw; (try dsimp only at hSw); go_simp; try first | (with_reducible rfl) | (simp only [*]; done) | omega⟩
      try simp only [Act.put, List.setIfInBounds_toArray, List.set_cons_zero, List.set_cons_succ]
      refine wpAnyH_ready (rs := [7]) (by kernel_rfl) (by simp) ?_
      refine (AllReadyH.cons (o := ?bo8n7) ?bh8n7 (fun K hK => ?br8n7) AllReadyH.nil)
      case bh8n7 => (simp only [List.getElem?_toArray, List.getElem?_cons_zero, List.getElem?_cons_succ]; rfl)
      case br8n7 =>
        go_simp
        refine hK.out _ _ (⟨hc9.new (Turn.set w9 ⟨s, 3, none⟩ _) (fun q e => by have e2 : q = s := e; omega), t9.new (Turn.set w9 ⟨s, 3, none⟩ _) (fun q e => by have e2 : q = s := e; omega), u9.trans ((Turn.set w9 ⟨s, 3, none⟩ _).mono (fun q e => .inr e)), _, p9.set 3 (.int .i64 (IntKind.i64.wrap (x3 + y))) (by simp), v9.set _ _⟩) (fun hHeld => ?_)
        clear hK
        refine wpAnyH_done (by kernel_rfl) ?_ _
        clear S9 p9 v9 u9 t9 q9 f9 hc9 S0 S1
        obtain ⟨hcF, tW, tF, z, PF, VF⟩ := hHeld
        clear hHeld
        generalize World.setCell w9 _ _ = w10 at *
        have hc7 := hcF
        have P7 := PF
        have V7 := VF
        have R7 := R6.turn tF (fun e => by omega)
        have T7 := tW
        have G7 := gzt (fun q e => by omega) G6 tF
        have tt := putL_turn w.heap.size 0 [.int .i64 (1 + x1), .int .i64 (1 + x2), .int .i64 x3, .int .i64 z, .bool er, .slice a0 l.length c0] 0 w10
        have i3 := putL_at (b := w.heap.size) (o := 0) [.int .i64 (1 + x1), .int .i64 (1 + x2), .int .i64 x3, .int .i64 z, .bool er, .slice a0 l.length c0] 0 R7 (by omega) (by simp)
        have HF := hide (And.intro (gzt (fun q e => by omega) G7 tt) (And.intro (hc7.new tt (fun q e => by omega)) (And.intro (T7.new tt (fun q e => by omega)) i3)))
        have c1 := P7.inB
        clear hc7 T7 P7 V7 G7 tt i3
        go_wp2_with (first | (refine wpl_load rfl 26 _ rfl _ 0 rfl [.int .i64 (1 + x1), .int .i64 (1 + x2), .int .i64 x3, .int .i64 z, .bool er, .slice a0 l.length c0] c1 rowISpan ?_) | (refine wpl_store_at rfl 26 _ _ rfl _ 0 [.int .i64 (1 + x1), .int .i64 (1 + x2), .int .i64 x3, .int .i64 z, .bool er, .slice a0 l.length c0] rfl rfl R7 (by intro v hv; simp only [List.mem_cons, List.not_mem_nil, or_false] at hv; rcases hv with rfl | rfl | rfl | rfl | rfl | rfl <;> rfl) rowISpan ?_))
        obtain ⟨x0, c4, t4, i4⟩ := unhide HF
        exact bodyPost_ret (v := .agg #[.int .i64 (1 + x1), .int .i64 (1 + x2), .int .i64 x3, .int .i64 z, .bool er, .slice a0 l.length c0]) (res_row (t := 2) (cs := [.int .i64 (1 + x1), .int .i64 (1 + x2), .int .i64 x3, .int .i64 z, .bool er, .slice a0 l.length c0]) rfl rfl i4 rowISpan) rfl ⟨⟨_, (1 + x1, 1 + x2, x3, z, er, l), rfl, ⟨_, rfl, gzw x0⟩, (by show l.length ≤ 9; omega), unhide HT⟩, c4, t4⟩
def threeA (n1 : ByteArray) : List AttrD := [(⟨#[97, 97, 97, 97, 97, 97, 97, 97]⟩, false, 0, ⟨#[116, 119, 101, 110, 116, 121, 98, 121, 116, 101, 115, 97, 114, 101, 104, 101, 114, 101, 50, 48]⟩), (⟨#[98, 98, 98, 98, 98, 98, 98, 98]⟩, false, 0, ⟨#[116, 119, 101, 110, 116, 121, 98, 121, 116, 101, 115, 97, 114, 101, 104, 101, 114, 101, 50, 48]⟩), (⟨#[99, 99, 99, 99, 99, 99, 99, 99]⟩, false, 0, n1)]
theorem threeA_len (n1 : ByteArray) : (threeA n1).length = 3 := rfl
theorem threeA_all {n1 : ByteArray} (h : n1.size ≤ 40) : AllT (threeA n1) := by
  intro z hz
  simp only [threeA, List.mem_cons, List.not_mem_nil, or_false] at hz
  rcases hz with rfl | rfl | rfl
  · exact ⟨by show (⟨#[97, 97, 97, 97, 97, 97, 97, 97]⟩ : ByteArray).size ≤ 40; decide, by show (⟨#[116, 119, 101, 110, 116, 121, 98, 121, 116, 101, 115, 97, 114, 101, 104, 101, 114, 101, 50, 48]⟩ : ByteArray).size ≤ 40; decide⟩
  · exact ⟨by show (⟨#[98, 98, 98, 98, 98, 98, 98, 98]⟩ : ByteArray).size ≤ 40; decide, by show (⟨#[116, 119, 101, 110, 116, 121, 98, 121, 116, 101, 115, 97, 114, 101, 104, 101, 114, 101, 50, 48]⟩ : ByteArray).size ≤ 40; decide⟩
  · exact ⟨by show (⟨#[99, 99, 99, 99, 99, 99, 99, 99]⟩ : ByteArray).size ≤ 40; decide, h⟩
theorem attrs_made (w : World) (xs : List AttrD) (hx : AllT xs) (hl : xs.length ≤ 1048576) : LOw 4 attrO (w.alloc (.cells (xs.flatMap acell).toArray 49)) (Within w.heap.size (w.alloc (.cells (xs.flatMap acell).toArray 49)).heap.size) (.slice (some ⟨w.heap.size, 0, none⟩) xs.length xs.length) xs := by
  exact own_flat (base := w.heap.size) (t := 49) (f := acell) ⟨acells_len xs, .inr ⟨w.heap.size, xs.length, (xs.flatMap acell).toArray, rfl, Nat.le_refl _, (by show (w.heap.push _)[w.heap.size]? = some _; exact Array.getElem?_push_size), Nat.le_refl _, by unfold maxLen; omega, by rw [List.size_toArray, acells_len], by rw [List.toList_toArray, List.take_of_length_le (by rw [acells_len]; exact Nat.le_refl _)]⟩⟩ (fun _ => rfl) (fun x hx2 => tiny_own (hx x hx2)) (by omega)
set_option maxHeartbeats 4000000 in
theorem l3Any_any (b : Nat) (w : World) (hc : Cur B w b) :
    Calls Tryd.prog 22 #[.pointer (some ⟨b, 0, none⟩)] w fun e w' => (∃ cs x, e = .returned (.agg cs.toArray) ∧ spanO w' (Within w.heap.size w'.heap.size) cs x ∧ TinyS x) ∧ Cur B w' b ∧ Turns b w w' := by
  have hlt := hc.lt
  have hB := hc.high
  have T0 := Turns.allocs (b := b) (w := w) (.cells #[.int .i64 0, .int .i64 0, .int .i64 0, .int .i64 0, .bool false, .slice none 0 0] 26)
  have R0 := WrAt.new w #[.int .i64 0, .int .i64 0, .int .i64 0, .int .i64 0, .bool false, .slice none 0 0] 26 6 rfl
  have hc0 := hc.keep (bnew w (.cells #[.int .i64 0, .int .i64 0, .int .i64 0, .int .i64 0, .bool false, .slice none 0 0] 26))
  clear hc
  go_enter Tryd.func22, Tryd.ntmps22
  go_upto_region 1 with fail
  generalize World.alloc w _ = w0 at *
  have hl0 := hc0.lt
  have hpw : w.heap.size < w0.heap.size := R0.1
  go_wp2_with fail
  refine (l3Draw_any b w0 hc0).mono ?_
  rintro e w1 ⟨⟨cs0, x, rfl, hso, hts⟩, hc1, ht⟩
  have T1 := T0.trans ht
  have R1 := (R0.turn ht.turn (by omega))
  have hl1 := hc1.lt
  clear hc0 T0 R0 ht
  obtain ⟨x1, x2, x3, x4, er, l⟩ := x
  obtain ⟨sv, rfl, lo⟩ := hso
  obtain ⟨a0, c0, hsv⟩ := lo.form
  have A1 : LOw 4 attrO w1 (Within w0.heap.size w1.heap.size) (.slice a0 l.length c0) l := by rw [← hsv]; exact lo
  have hsv2 : sv = .slice a0 l.length c0 := hsv
  subst hsv2
  have hl9 : l.length ≤ 9 := hts.1
  have HT : Hid (AllT l) := hide hts.2
  clear lo hts hsv
  have hc2 := hc1.keep (bnew w1 (.cells #[.int .i64 x1, .int .i64 x2, .int .i64 x3, .int .i64 x4, .bool er, .slice a0 l.length c0] 26))
  have T2 := T1.alloc (.cells #[.int .i64 x1, .int .i64 x2, .int .i64 x3, .int .i64 x4, .bool er, .slice a0 l.length c0] 26)
  have R2 := R1.keep (bnew w1 (.cells #[.int .i64 x1, .int .i64 x2, .int .i64 x3, .int .i64 x4, .bool er, .slice a0 l.length c0] 26))
  have A2 := lok A1 (bnew w1 (.cells #[.int .i64 x1, .int .i64 x2, .int .i64 x3, .int .i64 x4, .bool er, .slice a0 l.length c0] 26))
  have P2 := Held.new w1 [.int .i64 x1, .int .i64 x2, .int .i64 x3, .int .i64 x4, .bool er, .slice a0 l.length c0] 26
  have V2 := WrAt.new w1 #[.int .i64 x1, .int .i64 x2, .int .i64 x3, .int .i64 x4, .bool er, .slice a0 l.length c0] 26 6 rfl
  have hsb : b < w1.heap.size := hc1.lt
  have hsB : B ≤ w1.heap.size := hc1.high
  have hsw : w.heap.size < w1.heap.size := R1.1
  clear hc1 T1 R1 A1
  go_upto_region 2 with (first | (refine wpl_store_new rfl _ _ _ rfl _ [.int .i64 x1, .int .i64 x2, .int .i64 x3, .int .i64 x4, .bool er, .slice a0 l.length c0] rfl rfl ?_ (by intro v hv; simp only [List.mem_cons, List.not_mem_nil, or_false] at hv; rcases hv with rfl | rfl | rfl | rfl | rfl | rfl <;> rfl) rowISpan ?_; rfl))
  generalize w1.heap.size = s at *
  generalize hW : World.alloc w1 _ = w2 at *
  clear hW
  have hl2 := hc2.lt
  have hsl : s < w2.heap.size := P2.1
  have G2 : Gz w.heap.size s w2 (.slice a0 l.length c0) l := ⟨_, _, A2, hpw, Nat.le_of_lt hsl, .inr (Nat.le_refl _)⟩
  clear A2
  go_wp2_with fail
  refine (l1Below_any b 12 (by omega) w2 hc2).mono ?_
  rintro e w3 ⟨⟨x, rfl, hx0, hx1⟩, hc3, ht⟩
  have T3 := T2.trans ht
  have R3 := (R2.turn ht.turn (by omega))
  have P3 := (P2.turn ht.turn (by omega))
  have V3 := (V2.turn ht.turn (by omega))
  have G3 := gzt (fun q e => by omega) G2 ht.turn
  have hl3 := hc3.lt
  clear hc2 T2 R2 P2 V2 G2 ht
  by_cases h0 : x = 0
  · subst h0
    go_wp2_with fail
    refine (l1Int_any b w3.heap.size [0, 999, 1000] 3 _ (hc3.keep (bnew _ _)) (by omega) (by simp) (by simp) (by simp) ?_).mono ?_
    · exact cells_ints w3 3 [0, 999, 1000]
    rintro e w4 ⟨⟨y, rfl, hmy⟩, hc4, ht⟩
    clear hmy
    have T4 := (T3.alloc _).trans ht
    have R4 := ((R3.keep (bnew _ _)).turn ht.turn (by omega))
    have P4 := ((P3.keep (bnew _ _)).turn ht.turn (by omega))
    have V4 := ((V3.keep (bnew _ _)).turn ht.turn (by omega))
    have G4 := gzt (fun q e => by omega) (gzk G3 (bnew _ _)) ht.turn
    have hl4 := hc4.lt
    clear hc3 T3 R3 P3 V3 G3 ht
    have q9 := P4.2 0 _ rfl
    have f9 := V4.free 0 (by omega)
    rw [Nat.zero_add] at f9
    go_upto_region 15 with fail
    generalize hW : World.setCell w4 _ _ = w5
    have P5 : Held w5 s [.int .i64 y, .int .i64 x2, .int .i64 x3, .int .i64 x4, .bool er, .slice a0 l.length c0] := by rw [← hW]; exact P4.set 0 (.int .i64 y) (by simp)
    have V5 : WrAt w5 s 0 6 := by rw [← hW]; exact V4.set _ _
    have R5 : WrAt w5 w.heap.size 0 6 := by rw [← hW]; exact R4.set _ _
    have tw : Turn (fun k => k = s) w4 w5 := by rw [← hW]; exact Turn.set w4 ⟨s, 0, none⟩ _
    have hc5 := hc4.new tw (fun q e => by omega)
    have T5 := T4.new tw (fun q e => by omega)
    have G5 := gzt (fun q e => by omega) G4 tw
    have hl5 := hc5.lt
    clear hc4 T4 R4 P4 V4 G4 hW q9 f9 tw
    have tt := putL_turn w.heap.size 0 [.int .i64 y, .int .i64 x2, .int .i64 x3, .int .i64 x4, .bool er, .slice a0 l.length c0] 0 w5
    have i3 := putL_at (b := w.heap.size) (o := 0) [.int .i64 y, .int .i64 x2, .int .i64 x3, .int .i64 x4, .bool er, .slice a0 l.length c0] 0 R5 (by omega) (by simp)
    have HF := hide (And.intro (gzt (fun q e => by omega) G5 tt) (And.intro (hc5.new tt (fun q e => by omega)) (And.intro (T5.new tt (fun q e => by omega)) i3)))
    have c1 := P5.inB
    clear hc5 T5 P5 V5 G5 tt i3
    go_wp2_with (first | (refine wpl_load rfl 26 _ rfl _ 0 rfl [.int .i64 y, .int .i64 x2, .int .i64 x3, .int .i64 x4, .bool er, .slice a0 l.length c0] c1 rowISpan ?_) | (refine wpl_store_at rfl 26 _ _ rfl _ 0 [.int .i64 y, .int .i64 x2, .int .i64 x3, .int .i64 x4, .bool er, .slice a0 l.length c0] rfl rfl R5 (by intro v hv; simp only [List.mem_cons, List.not_mem_nil, or_false] at hv; rcases hv with rfl | rfl | rfl | rfl | rfl | rfl <;> rfl) rowISpan ?_))
    obtain ⟨x0, c4, t4, i4⟩ := unhide HF
    exact bodyPost_ret (v := .agg #[.int .i64 y, .int .i64 x2, .int .i64 x3, .int .i64 x4, .bool er, .slice a0 l.length c0]) (res_row (t := 2) (cs := [.int .i64 y, .int .i64 x2, .int .i64 x3, .int .i64 x4, .bool er, .slice a0 l.length c0]) rfl rfl i4 rowISpan) rfl ⟨⟨_, (y, x2, x3, x4, er, l), rfl, ⟨_, rfl, gzw x0⟩, (by show l.length ≤ 9; omega), unhide HT⟩, c4, t4⟩
  replace h0 : (x == (0 : Int)) = false := beq_eq_false_iff_ne.2 h0
  by_cases h1 : x = 1
  · subst h1
    go_wp2_with fail
    refine (l1Int_any b w3.heap.size [0, 999, 1000] 3 _ (hc3.keep (bnew _ _)) (by omega) (by simp) (by simp) (by simp) ?_).mono ?_
    · exact cells_ints w3 3 [0, 999, 1000]
    rintro e w4 ⟨⟨y, rfl, hmy⟩, hc4, ht⟩
    clear hmy
    have T4 := (T3.alloc _).trans ht
    have R4 := ((R3.keep (bnew _ _)).turn ht.turn (by omega))
    have P4 := ((P3.keep (bnew _ _)).turn ht.turn (by omega))
    have V4 := ((V3.keep (bnew _ _)).turn ht.turn (by omega))
    have G4 := gzt (fun q e => by omega) (gzk G3 (bnew _ _)) ht.turn
    have hl4 := hc4.lt
    clear hc3 T3 R3 P3 V3 G3 ht
    have q9 := P4.2 1 _ rfl
    have f9 := V4.free 1 (by omega)
    rw [Nat.zero_add] at f9
    go_upto_region 15 with fail
    generalize hW : World.setCell w4 _ _ = w5
    have P5 : Held w5 s [.int .i64 x1, .int .i64 y, .int .i64 x3, .int .i64 x4, .bool er, .slice a0 l.length c0] := by rw [← hW]; exact P4.set 1 (.int .i64 y) (by simp)
    have V5 : WrAt w5 s 0 6 := by rw [← hW]; exact V4.set _ _
    have R5 : WrAt w5 w.heap.size 0 6 := by rw [← hW]; exact R4.set _ _
    have tw : Turn (fun k => k = s) w4 w5 := by rw [← hW]; exact Turn.set w4 ⟨s, 1, none⟩ _
    have hc5 := hc4.new tw (fun q e => by omega)
    have T5 := T4.new tw (fun q e => by omega)
    have G5 := gzt (fun q e => by omega) G4 tw
    have hl5 := hc5.lt
    clear hc4 T4 R4 P4 V4 G4 hW q9 f9 tw
    have tt := putL_turn w.heap.size 0 [.int .i64 x1, .int .i64 y, .int .i64 x3, .int .i64 x4, .bool er, .slice a0 l.length c0] 0 w5
    have i3 := putL_at (b := w.heap.size) (o := 0) [.int .i64 x1, .int .i64 y, .int .i64 x3, .int .i64 x4, .bool er, .slice a0 l.length c0] 0 R5 (by omega) (by simp)
    have HF := hide (And.intro (gzt (fun q e => by omega) G5 tt) (And.intro (hc5.new tt (fun q e => by omega)) (And.intro (T5.new tt (fun q e => by omega)) i3)))
    have c1 := P5.inB
    clear hc5 T5 P5 V5 G5 tt i3
    go_wp2_with (first | (refine wpl_load rfl 26 _ rfl _ 0 rfl [.int .i64 x1, .int .i64 y, .int .i64 x3, .int .i64 x4, .bool er, .slice a0 l.length c0] c1 rowISpan ?_) | (refine wpl_store_at rfl 26 _ _ rfl _ 0 [.int .i64 x1, .int .i64 y, .int .i64 x3, .int .i64 x4, .bool er, .slice a0 l.length c0] rfl rfl R5 (by intro v hv; simp only [List.mem_cons, List.not_mem_nil, or_false] at hv; rcases hv with rfl | rfl | rfl | rfl | rfl | rfl <;> rfl) rowISpan ?_))
    obtain ⟨x0, c4, t4, i4⟩ := unhide HF
    exact bodyPost_ret (v := .agg #[.int .i64 x1, .int .i64 y, .int .i64 x3, .int .i64 x4, .bool er, .slice a0 l.length c0]) (res_row (t := 2) (cs := [.int .i64 x1, .int .i64 y, .int .i64 x3, .int .i64 x4, .bool er, .slice a0 l.length c0]) rfl rfl i4 rowISpan) rfl ⟨⟨_, (x1, y, x3, x4, er, l), rfl, ⟨_, rfl, gzw x0⟩, (by show l.length ≤ 9; omega), unhide HT⟩, c4, t4⟩
  replace h1 : (x == (1 : Int)) = false := beq_eq_false_iff_ne.2 h1
  by_cases h2 : x = 2
  · subst h2
    go_wp2_with fail
    refine (l1Int_any b w3.heap.size [-1, 99999, 100000] 3 _ (hc3.keep (bnew _ _)) (by omega) (by simp) (by simp) (by simp) ?_).mono ?_
    · exact cells_ints w3 3 [-1, 99999, 100000]
    rintro e w4 ⟨⟨y, rfl, hmy⟩, hc4, ht⟩
    clear hmy
    have T4 := (T3.alloc _).trans ht
    have R4 := ((R3.keep (bnew _ _)).turn ht.turn (by omega))
    have P4 := ((P3.keep (bnew _ _)).turn ht.turn (by omega))
    have V4 := ((V3.keep (bnew _ _)).turn ht.turn (by omega))
    have G4 := gzt (fun q e => by omega) (gzk G3 (bnew _ _)) ht.turn
    have hl4 := hc4.lt
    clear hc3 T3 R3 P3 V3 G3 ht
    have q9 := P4.2 2 _ rfl
    have f9 := V4.free 2 (by omega)
    rw [Nat.zero_add] at f9
    go_upto_region 15 with fail
    generalize hW : World.setCell w4 _ _ = w5
    have P5 : Held w5 s [.int .i64 x1, .int .i64 x2, .int .i64 y, .int .i64 x4, .bool er, .slice a0 l.length c0] := by rw [← hW]; exact P4.set 2 (.int .i64 y) (by simp)
    have V5 : WrAt w5 s 0 6 := by rw [← hW]; exact V4.set _ _
    have R5 : WrAt w5 w.heap.size 0 6 := by rw [← hW]; exact R4.set _ _
    have tw : Turn (fun k => k = s) w4 w5 := by rw [← hW]; exact Turn.set w4 ⟨s, 2, none⟩ _
    have hc5 := hc4.new tw (fun q e => by omega)
    have T5 := T4.new tw (fun q e => by omega)
    have G5 := gzt (fun q e => by omega) G4 tw
    have hl5 := hc5.lt
    clear hc4 T4 R4 P4 V4 G4 hW q9 f9 tw
    have tt := putL_turn w.heap.size 0 [.int .i64 x1, .int .i64 x2, .int .i64 y, .int .i64 x4, .bool er, .slice a0 l.length c0] 0 w5
    have i3 := putL_at (b := w.heap.size) (o := 0) [.int .i64 x1, .int .i64 x2, .int .i64 y, .int .i64 x4, .bool er, .slice a0 l.length c0] 0 R5 (by omega) (by simp)
    have HF := hide (And.intro (gzt (fun q e => by omega) G5 tt) (And.intro (hc5.new tt (fun q e => by omega)) (And.intro (T5.new tt (fun q e => by omega)) i3)))
    have c1 := P5.inB
    clear hc5 T5 P5 V5 G5 tt i3
    go_wp2_with (first | (refine wpl_load rfl 26 _ rfl _ 0 rfl [.int .i64 x1, .int .i64 x2, .int .i64 y, .int .i64 x4, .bool er, .slice a0 l.length c0] c1 rowISpan ?_) | (refine wpl_store_at rfl 26 _ _ rfl _ 0 [.int .i64 x1, .int .i64 x2, .int .i64 y, .int .i64 x4, .bool er, .slice a0 l.length c0] rfl rfl R5 (by intro v hv; simp only [List.mem_cons, List.not_mem_nil, or_false] at hv; rcases hv with rfl | rfl | rfl | rfl | rfl | rfl <;> rfl) rowISpan ?_))
    obtain ⟨x0, c4, t4, i4⟩ := unhide HF
    exact bodyPost_ret (v := .agg #[.int .i64 x1, .int .i64 x2, .int .i64 y, .int .i64 x4, .bool er, .slice a0 l.length c0]) (res_row (t := 2) (cs := [.int .i64 x1, .int .i64 x2, .int .i64 y, .int .i64 x4, .bool er, .slice a0 l.length c0]) rfl rfl i4 rowISpan) rfl ⟨⟨_, (x1, x2, y, x4, er, l), rfl, ⟨_, rfl, gzw x0⟩, (by show l.length ≤ 9; omega), unhide HT⟩, c4, t4⟩
  replace h2 : (x == (2 : Int)) = false := beq_eq_false_iff_ne.2 h2
  by_cases h3 : x = 3
  · subst h3
    go_wp2_with fail
    refine (l1Raw_any b w3 hc3).mono ?_
    rintro e w4 ⟨⟨y, rfl, hy⟩, hc4, ht⟩
    have T4 := T3.trans ht
    have R4 := (R3.turn ht.turn (by omega))
    have P4 := (P3.turn ht.turn (by omega))
    have V4 := (V3.turn ht.turn (by omega))
    have G4 := gzt (fun q e => by omega) G3 ht.turn
    have hl4 := hc4.lt
    clear hc3 T3 R3 P3 V3 G3 ht
    have q9 := P4.2 3 _ rfl
    have f9 := V4.free 3 (by omega)
    rw [Nat.zero_add] at f9
    go_upto_region 15 with fail
    generalize hW : World.setCell w4 _ _ = w5
    have P5 : Held w5 s [.int .i64 x1, .int .i64 x2, .int .i64 x3, .int .i64 y, .bool er, .slice a0 l.length c0] := by rw [← hW]; exact P4.set 3 (.int .i64 y) (by simp)
    have V5 : WrAt w5 s 0 6 := by rw [← hW]; exact V4.set _ _
    have R5 : WrAt w5 w.heap.size 0 6 := by rw [← hW]; exact R4.set _ _
    have tw : Turn (fun k => k = s) w4 w5 := by rw [← hW]; exact Turn.set w4 ⟨s, 3, none⟩ _
    have hc5 := hc4.new tw (fun q e => by omega)
    have T5 := T4.new tw (fun q e => by omega)
    have G5 := gzt (fun q e => by omega) G4 tw
    have hl5 := hc5.lt
    clear hc4 T4 R4 P4 V4 G4 hW q9 f9 tw
    have tt := putL_turn w.heap.size 0 [.int .i64 x1, .int .i64 x2, .int .i64 x3, .int .i64 y, .bool er, .slice a0 l.length c0] 0 w5
    have i3 := putL_at (b := w.heap.size) (o := 0) [.int .i64 x1, .int .i64 x2, .int .i64 x3, .int .i64 y, .bool er, .slice a0 l.length c0] 0 R5 (by omega) (by simp)
    have HF := hide (And.intro (gzt (fun q e => by omega) G5 tt) (And.intro (hc5.new tt (fun q e => by omega)) (And.intro (T5.new tt (fun q e => by omega)) i3)))
    have c1 := P5.inB
    clear hc5 T5 P5 V5 G5 tt i3
    go_wp2_with (first | (refine wpl_load rfl 26 _ rfl _ 0 rfl [.int .i64 x1, .int .i64 x2, .int .i64 x3, .int .i64 y, .bool er, .slice a0 l.length c0] c1 rowISpan ?_) | (refine wpl_store_at rfl 26 _ _ rfl _ 0 [.int .i64 x1, .int .i64 x2, .int .i64 x3, .int .i64 y, .bool er, .slice a0 l.length c0] rfl rfl R5 (by intro v hv; simp only [List.mem_cons, List.not_mem_nil, or_false] at hv; rcases hv with rfl | rfl | rfl | rfl | rfl | rfl <;> rfl) rowISpan ?_))
    obtain ⟨x0, c4, t4, i4⟩ := unhide HF
    exact bodyPost_ret (v := .agg #[.int .i64 x1, .int .i64 x2, .int .i64 x3, .int .i64 y, .bool er, .slice a0 l.length c0]) (res_row (t := 2) (cs := [.int .i64 x1, .int .i64 x2, .int .i64 x3, .int .i64 y, .bool er, .slice a0 l.length c0]) rfl rfl i4 rowISpan) rfl ⟨⟨_, (x1, x2, x3, y, er, l), rfl, ⟨_, rfl, gzw x0⟩, (by show l.length ≤ 9; omega), unhide HT⟩, c4, t4⟩
  replace h3 : (x == (3 : Int)) = false := beq_eq_false_iff_ne.2 h3
  by_cases h4 : x = 4
  · subst h4
    have hpw2 : s < w3.heap.size := P3.1
    clear G3
    go_wp2_with fail
    refine (l2Any_any b w3 hc3).mono ?_
    rintro e w4 ⟨⟨v5, l5, rfl, hl5, ha5, g5⟩, hc4, ht⟩
    have T4 := T3.trans ht
    have R4 := (R3.turn ht.turn (by omega))
    have P4 := (P3.turn ht.turn (by omega))
    have V4 := (V3.turn ht.turn (by omega))
    have hl4 := hc4.lt
    clear hc3 T3 R3 P3 V3 ht
    obtain ⟨a5, c5, rfl⟩ := growForm g5
    have G4 : Gz w.heap.size s w4 (.slice a5 l5.length c5) l5 := ⟨_, _, g5.done (by omega), by omega, Nat.le_refl _, .inl hpw2⟩
    have HT5 := hide ha5
    clear g5 ha5
    have q9 := P4.2 5 _ rfl
    have f9 := V4.free 5 (by omega)
    rw [Nat.zero_add] at f9
    go_upto_region 15 with fail
    generalize hW : World.setCell w4 _ _ = w5
    have P5 : Held w5 s [.int .i64 x1, .int .i64 x2, .int .i64 x3, .int .i64 x4, .bool er, .slice a5 l5.length c5] := by rw [← hW]; exact P4.set 5 (.slice a5 l5.length c5) (by simp)
    have V5 : WrAt w5 s 0 6 := by rw [← hW]; exact V4.set _ _
    have R5 : WrAt w5 w.heap.size 0 6 := by rw [← hW]; exact R4.set _ _
    have tw : Turn (fun k => k = s) w4 w5 := by rw [← hW]; exact Turn.set w4 ⟨s, 5, none⟩ _
    have hc5 := hc4.new tw (fun q e => by omega)
    have T5 := T4.new tw (fun q e => by omega)
    have G5 := gzt (fun q e => by omega) G4 tw
    have hl5 := hc5.lt
    clear hc4 T4 R4 P4 V4 G4 hW q9 f9 tw
    have tt := putL_turn w.heap.size 0 [.int .i64 x1, .int .i64 x2, .int .i64 x3, .int .i64 x4, .bool er, .slice a5 l5.length c5] 0 w5
    have i3 := putL_at (b := w.heap.size) (o := 0) [.int .i64 x1, .int .i64 x2, .int .i64 x3, .int .i64 x4, .bool er, .slice a5 l5.length c5] 0 R5 (by omega) (by simp)
    have HF := hide (And.intro (gzt (fun q e => by omega) G5 tt) (And.intro (hc5.new tt (fun q e => by omega)) (And.intro (T5.new tt (fun q e => by omega)) i3)))
    have c1 := P5.inB
    clear hc5 T5 P5 V5 G5 tt i3
    go_wp2_with (first | (refine wpl_load rfl 26 _ rfl _ 0 rfl [.int .i64 x1, .int .i64 x2, .int .i64 x3, .int .i64 x4, .bool er, .slice a5 l5.length c5] c1 rowISpan ?_) | (refine wpl_store_at rfl 26 _ _ rfl _ 0 [.int .i64 x1, .int .i64 x2, .int .i64 x3, .int .i64 x4, .bool er, .slice a5 l5.length c5] rfl rfl R5 (by intro v hv; simp only [List.mem_cons, List.not_mem_nil, or_false] at hv; rcases hv with rfl | rfl | rfl | rfl | rfl | rfl <;> rfl) rowISpan ?_))
    obtain ⟨x0, c4, t4, i4⟩ := unhide HF
    exact bodyPost_ret (v := .agg #[.int .i64 x1, .int .i64 x2, .int .i64 x3, .int .i64 x4, .bool er, .slice a5 l5.length c5]) (res_row (t := 2) (cs := [.int .i64 x1, .int .i64 x2, .int .i64 x3, .int .i64 x4, .bool er, .slice a5 l5.length c5]) rfl rfl i4 rowISpan) rfl ⟨⟨_, (x1, x2, x3, x4, er, l5), rfl, ⟨_, rfl, gzw x0⟩, (by show l5.length ≤ 9; omega), unhide HT5⟩, c4, t4⟩
  replace h4 : (x == (4 : Int)) = false := beq_eq_false_iff_ne.2 h4
  by_cases h5 : x = 5
  · subst h5
    go_wp2_with fail
    refine (l1Str_any b w3.heap.size [⟨#[116, 119, 101, 110, 116, 121, 98, 121, 116, 101, 115, 97, 114, 101, 104, 101, 114, 101, 50, 48]⟩, ⟨#[116, 119, 101, 110, 116, 121, 98, 121, 116, 101, 115, 97, 114, 101, 104, 101, 114, 101, 50]⟩, ⟨#[]⟩] 3 _ (hc3.keep (bnew _ _)) (by omega) (by simp) (by simp) (by simp) ?_).mono ?_
    · exact cells_strs w3 9 [⟨#[116, 119, 101, 110, 116, 121, 98, 121, 116, 101, 115, 97, 114, 101, 104, 101, 114, 101, 50, 48]⟩, ⟨#[116, 119, 101, 110, 116, 121, 98, 121, 116, 101, 115, 97, 114, 101, 104, 101, 114, 101, 50]⟩, ⟨#[]⟩]
    rintro e w4 ⟨⟨n1, rfl, hmn1⟩, hc4, ht⟩
    have HXn1 := hide (short_of (by decide) hmn1)
    clear hmn1
    have T4 := (T3.alloc _).trans ht
    have R4 := ((R3.keep (bnew _ _)).turn ht.turn (by omega))
    have P4 := ((P3.keep (bnew _ _)).turn ht.turn (by omega))
    have V4 := ((V3.keep (bnew _ _)).turn ht.turn (by omega))
    have G4 := gzt (fun q e => by omega) (gzk G3 (bnew _ _)) ht.turn
    have hl4 := hc4.lt
    clear hc3 T3 R3 P3 V3 G3 ht
    have hn1 := unhide HXn1
    clear G4
    have hs5 : s < w4.heap.size := P4.1
    have q9 := P4.2 5 _ rfl
    have f9 := V4.free 5 (by omega)
    rw [Nat.zero_add] at f9
    go_upto_region 15 with fail
    have hu : (w4.setCell ⟨s, 5, none⟩ (.slice (some ⟨w4.heap.size, 0, none⟩) 3 3)).heap.size = w4.heap.size := by simp [World.setCell]
    have am := attrs_made (w4.setCell ⟨s, 5, none⟩ (.slice (some ⟨w4.heap.size, 0, none⟩) 3 3)) (threeA n1) (threeA_all hn1) (by rw [threeA_len]; omega)
    rw [hu, threeA_len] at am
    have tw := Turn.set w4 ⟨s, 5, none⟩ (.slice (some ⟨w4.heap.size, 0, none⟩) 3 3)
    have bn := bnew (w4.setCell ⟨s, 5, none⟩ (.slice (some ⟨w4.heap.size, 0, none⟩) 3 3)) (.cells ((threeA n1).flatMap acell).toArray 49)
    have hz9 : ((w4.setCell ⟨s, 5, none⟩ (.slice (some ⟨w4.heap.size, 0, none⟩) 3 3)).alloc (.cells ((threeA n1).flatMap acell).toArray 49)).heap.size = w4.heap.size + 1 := by simp [World.setCell]
    generalize hW9 : World.alloc (World.setCell _ _ _) _ = w9
    have P5 : Held w9 s [.int .i64 x1, .int .i64 x2, .int .i64 x3, .int .i64 x4, .bool er, .slice (some ⟨w4.heap.size, 0, none⟩) 3 3] := by rw [← hW9]; exact (P4.set 5 (.slice (some ⟨w4.heap.size, 0, none⟩) 3 3) (by simp)).keep bn
    have V5 : WrAt w9 s 0 6 := by rw [← hW9]; exact (V4.set ⟨s, 5, none⟩ (.slice (some ⟨w4.heap.size, 0, none⟩) 3 3)).keep bn
    have R5 : WrAt w9 w.heap.size 0 6 := by rw [← hW9]; exact (R4.set ⟨s, 5, none⟩ (.slice (some ⟨w4.heap.size, 0, none⟩) 3 3)).keep bn
    have hc5 : Cur B w9 b := by rw [← hW9]; exact (hc4.new tw (fun q e => by have e2 : q = s := e; omega)).keep bn
    have T5 : Turns b w w9 := by rw [← hW9]; exact (T4.new tw (fun q e => by have e2 : q = s := e; omega)).alloc (.cells ((threeA n1).flatMap acell).toArray 49)
    have G5 : Gz w.heap.size s w9 (.slice (some ⟨w4.heap.size, 0, none⟩) 3 3) (threeA n1) := by rw [← hW9]; exact ⟨_, _, am, by omega, Nat.le_refl _, .inl hs5⟩
    clear hW9 tw q9 f9 bn hz9 hu am P4 V4 R4 T4 hc4
    have tt := putL_turn w.heap.size 0 [.int .i64 x1, .int .i64 x2, .int .i64 x3, .int .i64 x4, .bool er, .slice (some ⟨w4.heap.size, 0, none⟩) 3 3] 0 w9
    have i3 := putL_at (b := w.heap.size) (o := 0) [.int .i64 x1, .int .i64 x2, .int .i64 x3, .int .i64 x4, .bool er, .slice (some ⟨w4.heap.size, 0, none⟩) 3 3] 0 R5 (by omega) (by simp)
    have HF := hide (And.intro (gzt (fun q e => by omega) G5 tt) (And.intro (hc5.new tt (fun q e => by omega)) (And.intro (T5.new tt (fun q e => by omega)) i3)))
    have c1 := P5.inB
    clear hc5 T5 P5 V5 G5 tt i3
    go_wp2_with (first | (refine wpl_load rfl 26 _ rfl _ 0 rfl [.int .i64 x1, .int .i64 x2, .int .i64 x3, .int .i64 x4, .bool er, .slice (some ⟨w4.heap.size, 0, none⟩) 3 3] c1 rowISpan ?_) | (refine wpl_store_at rfl 26 _ _ rfl _ 0 [.int .i64 x1, .int .i64 x2, .int .i64 x3, .int .i64 x4, .bool er, .slice (some ⟨w4.heap.size, 0, none⟩) 3 3] rfl rfl R5 (by intro v hv; simp only [List.mem_cons, List.not_mem_nil, or_false] at hv; rcases hv with rfl | rfl | rfl | rfl | rfl | rfl <;> rfl) rowISpan ?_))
    obtain ⟨x0, c4, t4, i4⟩ := unhide HF
    exact bodyPost_ret (v := .agg #[.int .i64 x1, .int .i64 x2, .int .i64 x3, .int .i64 x4, .bool er, .slice (some ⟨w4.heap.size, 0, none⟩) 3 3]) (res_row (t := 2) (cs := [.int .i64 x1, .int .i64 x2, .int .i64 x3, .int .i64 x4, .bool er, .slice (some ⟨w4.heap.size, 0, none⟩) 3 3]) rfl rfl i4 rowISpan) rfl ⟨⟨_, (x1, x2, x3, x4, er, threeA n1), rfl, ⟨_, rfl, gzw x0⟩, (by show (threeA n1).length ≤ 9; rw [threeA_len]; omega), threeA_all hn1⟩, c4, t4⟩
  replace h5 : (x == (5 : Int)) = false := beq_eq_false_iff_ne.2 h5
  have tt := putL_turn w.heap.size 0 [.int .i64 x1, .int .i64 x2, .int .i64 x3, .int .i64 x4, .bool er, .slice a0 l.length c0] 0 w3
  have i3 := putL_at (b := w.heap.size) (o := 0) [.int .i64 x1, .int .i64 x2, .int .i64 x3, .int .i64 x4, .bool er, .slice a0 l.length c0] 0 R3 (by omega) (by simp)
  have HF := hide (And.intro (gzt (fun q e => by omega) G3 tt) (And.intro (hc3.new tt (fun q e => by omega)) (And.intro (T3.new tt (fun q e => by omega)) i3)))
  have c1 := P3.inB
  clear hc3 T3 P3 V3 G3 tt i3
  go_wp2_with (first | (refine wpl_load rfl 26 _ rfl _ 0 rfl [.int .i64 x1, .int .i64 x2, .int .i64 x3, .int .i64 x4, .bool er, .slice a0 l.length c0] c1 rowISpan ?_) | (refine wpl_store_at rfl 26 _ _ rfl _ 0 [.int .i64 x1, .int .i64 x2, .int .i64 x3, .int .i64 x4, .bool er, .slice a0 l.length c0] rfl rfl R3 (by intro v hv; simp only [List.mem_cons, List.not_mem_nil, or_false] at hv; rcases hv with rfl | rfl | rfl | rfl | rfl | rfl <;> rfl) rowISpan ?_))
  obtain ⟨x0, c4, t4, i4⟩ := unhide HF
  exact bodyPost_ret (v := .agg #[.int .i64 x1, .int .i64 x2, .int .i64 x3, .int .i64 x4, .bool er, .slice a0 l.length c0]) (res_row (t := 2) (cs := [.int .i64 x1, .int .i64 x2, .int .i64 x3, .int .i64 x4, .bool er, .slice a0 l.length c0]) rfl rfl i4 rowISpan) rfl ⟨⟨_, (x1, x2, x3, x4, er, l), rfl, ⟨_, rfl, gzw x0⟩, (by show l.length ≤ 9; omega), unhide HT⟩, c4, t4⟩
end Go.Proofs.YtchinpgjaddnkaaDoor
