/-
  What draws attributes: contracts of the specification's drawing functions.
-/
import Derived.Test.YtnlacjedamngkaaDoorDrA
import Derived.Deep.RegionHeld3
namespace Go.Proofs.YtnlacjedamngkaaDoor
open Go.ChangeShapes Go.WideShapes Go.ChangeAt Go.RowKit
set_option linter.unusedVariables false
set_option maxRecDepth 100000
variable {B : Nat}

theorem GrowX.stepL {α : Type} {N : Nat} {C : World → (Nat → Prop) → List Value → α → Prop} (hC : Keeps C) {t : TypeId} {base : Nat} {w w2 w' : World} {v v' : Value} {l : List α} {css : List (List Value)} {T : Nat → Nat → Prop} (h : GrowX N C t base w v l css T)
    {U : Nat → Prop} (hb : Turn U w w2) (hU : ∀ k, U k → k < base) {xs : List α} {cx : List (List Value)} (hln : cx.length = xs.length) (hx : ∀ (i : Nat) (x : α) (c : List Value), xs[i]? = some x → cx[i]? = some c → C w2 (fun _ => False) c x ∧ c.length = N)
    (how : w'.ownsRow base t N v' (l.length + xs.length) (css.flatten ++ cx.flatten)) (hg : w2.grownBy w' v.ownBlock) (hv : v'.ownBlock = v.ownBlock ∨ v'.ownBlock = some w2.heap.size) : GrowL N C t base w' v' (l ++ xs) := by
  have ht := grown_turn hg
  have hsz := hb.size
  have hsz2 := hg.size
  refine ⟨css ++ cx, fun i k => i < l.length ∧ T i k, ⟨by simpa using how, by simp [h.len, hln], ?_, ?_, ?_⟩⟩
  · intro i k hk
    have := h.off i k hk.2
    refine ⟨this.1, by omega, fun e => ?_⟩
    rcases hv with hv | hv
    · rw [hv] at e; exact this.2.2 e
    · rw [hv, Option.some.injEq] at e; omega
  · intro i j k hi hj
    exact h.one i j k hi.2 hj.2
  · intro i y hy
    by_cases hi : i < l.length
    · rw [List.getElem?_append_left hi] at hy
      obtain ⟨c, h1, h2, h3⟩ := h.has i y hy
      refine ⟨c, by rw [List.getElem?_append_left (by rw [h.len]; exact hi)]; exact h1, ?_, h3⟩
      have e : (fun k => i < l.length ∧ T i k) = T i := funext fun k => propext ⟨fun h => h.2, fun h => ⟨hi, h⟩⟩
      show C _ (fun k => i < l.length ∧ T i k) c _
      rw [e]
      exact hC w2 w' _ _ c _ ht (fun k hk e => (h.off i k hk).2.2 e) (hC w w2 _ _ c _ hb (fun k hk e => by have := (h.off i k hk).1; have := hU k e; omega) h2)
    · rw [List.getElem?_append_right (by omega)] at hy
      have hlt := (List.getElem?_eq_some_iff.1 hy).1
      have hc : cx[i - l.length]? = some (cx[i - l.length]'(by omega)) := List.getElem?_eq_getElem _
      obtain ⟨g1, g2⟩ := hx _ y _ hy hc
      refine ⟨_, by rw [List.getElem?_append_right (by rw [h.len]; omega), h.len]; exact hc, ?_, g2⟩
      have e : (fun k => i < l.length ∧ T i k) = fun _ => False := funext fun k => propext ⟨fun h => hi h.1, fun h => h.elim⟩
      show C _ (fun k => i < l.length ∧ T i k) _ _
      rw [e]
      exact hC w2 w' _ _ _ y ht (fun k hk => False.elim hk) g1
def acell (x : AttrD) : List Value := [.string x.1, .bool x.2.1, .int .i64 x.2.2.1, .string x.2.2.2]
theorem acells_len (xs : List AttrD) : (xs.flatMap acell).length = xs.length * 4 := by
  induction xs with
  | nil => rfl
  | cons x r ih => simp only [List.flatMap_cons, List.length_append, ih, acell, List.length_cons, List.length_nil]; omega
/-- Some more attributes behind those that were grown: the literal's block, the append. -/
theorem GrowL.appA {base : Nat} {w : World} {v : Value} {l : List AttrD} (h : GrowL 4 attrO 25 base w v l) (hbase : base ≤ w.heap.size) {w2 : World} {U : Nat → Prop} (hb : Turn U w w2) (hU : ∀ k, U k → k < base) (xs : List AttrD) (hx : AllT xs) (hll : l.length + xs.length ≤ 1048576) (n : Nat) (hn : xs.length = n) :
    ∃ a c w', (Builtin.append_ #[27, 27] 27 #[v, .slice (some ⟨w2.heap.size, 0, none⟩) n n]).run Tryd.prog (w2.alloc (.cells (xs.flatMap acell).toArray 25)) = .ok (.slice a (l ++ xs).length c) w' ∧ GrowL 4 attrO 25 base w' (.slice a (l ++ xs).length c) (l ++ xs) ∧ Turn (fun k => base ≤ k) w2 w' := by
  subst hn
  obtain ⟨i0, hi, hz0, hz1, hz2⟩ := info_parts infoAttrZ
  obtain ⟨css, T, gx⟩ := h
  have hz := hb.size
  have hk : Turn U w (w2.alloc (.cells (xs.flatMap acell).toArray 25)) := hb.trans ((Below.turn (bnew _ _)).mono (fun q h => False.elim h))
  have hrow := (gx.keepT attrO_keeps hk hU).row
  obtain ⟨v', w', hr, how, hg, hv⟩ := run_append2 (P := Tryd.prog) (w2.alloc (.cells (xs.flatMap acell).toArray 25)) base 27 27 25 i0 _ 4 48 Tryd.underlying27 hi hz0 hz1 hz2 rfl (by decide) v l.length _ hrow ⟨w2.heap.size, 0, none⟩ xs.length xs.length (xs.flatMap acell) (acells_len xs) (by
    intro j u hj
    have e : (⟨w2.heap.size, 0, none⟩ : Addr).add j = ⟨w2.heap.size, j, none⟩ := by unfold Addr.add; split <;> simp_all
    rw [e, World.cell?_alloc_at _ _ _ _ rfl]
    simpa using hj) (by
    intro u hu
    obtain ⟨x, _, hxu⟩ := List.mem_flatMap.1 hu
    exact one_attr x u hxu) (by unfold maxLen; omega) (by omega) (by simp; omega)
  have hst := gx.stepL attrO_keeps hk hU (xs := xs) (cx := xs.map acell) (by simp) (fun i x c hi hc => by
    rw [List.getElem?_map, hi] at hc
    simp only [Option.map_some, Option.some.injEq] at hc
    subst hc
    exact ⟨tiny_own (hx x (List.mem_of_getElem? hi)), rfl⟩) (by rw [← List.flatMap_def]; exact how) hg hv
  obtain ⟨a, c, rfl⟩ : ∃ a c, v' = .slice a (l ++ xs).length c := by
    rw [List.length_append]
    rcases how.2 with ⟨rfl, h0⟩ | ⟨g, cap, cur, rfl, _⟩
    · exact ⟨none, 0, by rw [h0]⟩
    · exact ⟨_, cap, rfl⟩
  exact ⟨a, c, w', hr, hst, ((Below.turn (bnew w2 _)).mono (fun q h => False.elim h)).trans ((grown_turn hg).mono (fun q e => (gx.row.lt q e).1))⟩
theorem growk {w wa wb : World} {v : Value} {l : List AttrD} {N : Nat} (_ : N ≤ w.heap.size) (h : Hid (w.heap.size ≤ wa.heap.size ∧ GrowL 4 attrO 25 w.heap.size wa v l)) (hb : Below wa.heap.size wa wb) : Hid (w.heap.size ≤ wb.heap.size ∧ GrowL 4 attrO 25 w.heap.size wb v l) :=
  hide ⟨Nat.le_trans (unhide h).1 hb.size, (unhide h).2.keep attrO_keeps hb⟩
theorem growt {w wa wb : World} {v : Value} {l : List AttrD} {b : Nat} (hlt : b < w.heap.size) (h : Hid (w.heap.size ≤ wa.heap.size ∧ GrowL 4 attrO 25 w.heap.size wa v l)) (ht : Turn (fun k => k = b) wa wb) : Hid (w.heap.size ≤ wb.heap.size ∧ GrowL 4 attrO 25 w.heap.size wb v l) :=
  hide ⟨Nat.le_trans (unhide h).1 ht.size, (unhide h).2.keepT attrO_keeps ht (fun k e => by omega)⟩
set_option maxHeartbeats 1000000 in
theorem l2Any_any (b : Nat) (w : World) (hc : Cur B w b) :
    Calls Tryd.prog 37 #[.pointer (some ⟨b, 0, none⟩)] w fun e w' => (∃ v l, e = .returned v ∧ l.length ≤ 9 ∧ AllT l ∧ GrowL 4 attrO 25 w.heap.size w' v l) ∧ Cur B w' b ∧ Turns b w w' := by
  have hlt := hc.lt
  have hB := hc.high
  have hbB := hc.low
  have hc0 := hc
  have T0 := Turns.refl b w
  clear hc
  go_enter Tryd.func37, Tryd.ntmps37
  go_wp2_with fail
  refine (l2Draw_any b w hc0).mono ?_
  rintro e w1 ⟨⟨v0, l, rfl, hl5, ha, g0⟩, hc1, ht1⟩
  have T1 := T0.trans ht1
  have hl1 := hc1.lt
  have hlen : v0.cells.size = 1 := by obtain ⟨css, T, g⟩ := g0; rcases g.row.2 with ⟨rfl, _⟩ | ⟨_, _, _, rfl, _⟩ <;> rfl
  clear hlen
  have HA := hide ha
  clear T0 hc0 ha ht1
  have G1 := hide (And.intro T1.size g0)
  clear g0
  go_wp2_with fail
  refine (l1Below_any b 8 (by omega) w1 hc1).mono ?_
  rintro e w2 ⟨⟨x, rfl, hx0, hx1⟩, hc2, ht⟩
  have T2 := T1.trans ht
  have G2 := growt hlt G1 ht.turn
  have hl2 := hc2.lt
  clear hc1 T1 G1 ht
  by_cases h0 : x = 0
  · subst h0
    go_wp2_with fail
    refine (l1AnyName_any b w2 hc2).mono ?_
    rintro e w3 ⟨⟨n1, rfl, hn1⟩, hc3, ht⟩
    have T3 := T2.trans ht
    have G3 := growt hlt G2 ht.turn
    have hl3 := hc3.lt
    clear hc2 T2 G2 ht
    go_wp2_with fail
    refine (l1Once_any b 2 (by omega) w3 hc3).mono ?_
    rintro e w4 ⟨⟨y, rfl⟩, hc4, ht⟩
    have T4 := T3.trans ht
    have G4 := growt hlt G3 ht.turn
    have hl4 := hc4.lt
    clear hc3 T3 G3 ht
    go_wp2_with fail
    refine (l1Raw_any b w4 hc4).mono ?_
    rintro e w5 ⟨⟨z, rfl, hz⟩, hc5, ht⟩
    have T5 := T4.trans ht
    have G5 := growt hlt G4 ht.turn
    have hl5 := hc5.lt
    clear hc4 T4 G4 ht
    go_wp2_with fail
    refine (l1Plain_any b w5 hc5).mono ?_
    rintro e w6 ⟨⟨n2, rfl, hn2⟩, hc6, ht⟩
    have T6 := T5.trans ht
    have G6 := growt hlt G5 ht.turn
    have hl6 := hc6.lt
    clear hc5 T5 G5 ht
    obtain ⟨gs, gg⟩ := unhide G6
    have hx9 : AllT [(n1, y, z, n2)] := by intro z hz; simp only [List.mem_cons, List.not_mem_nil, or_false] at hz; (first | (subst hz; exact ⟨by assumption, by assumption⟩) | (rcases hz with rfl | rfl | rfl | rfl <;> assumption))
    obtain ⟨a9, c9, w9, hr, g9, t9⟩ := gg.appA gs (Turn.refl (fun _ => False) w6) (fun k h => False.elim h) [(n1, y, z, n2)] hx9 (by simp; omega) 1 rfl
    have c10 := hc6.new t9 (fun q e => by omega)
    have t10 := T6.new t9 (fun q e => e)
    have HF := hide (And.intro g9 (And.intro c10 t10))
    have HX9 : Hid (AllT (l ++ [(n1, y, z, n2)])) := hide (fun z hz => by rcases List.mem_append.1 hz with h | h; exact unhide HA z h; exact hx9 z h)
    have hln9 : (l ++ [(n1, y, z, n2)]).length ≤ 9 := by simp; omega
    generalize hL9 : l ++ [(n1, y, z, n2)] = L9 at *
    clear hL9 hx9 gg g9 t9 c10 t10 hc6 T6 G6
    go_wp2_with (first | (at_builtin; refine wpl_app rfl rfl rfl rfl hr ?_))
    go_ret
    exact ⟨⟨_, L9, rfl, hln9, unhide HX9, (unhide HF).1⟩, (unhide HF).2⟩
  replace h0 : (x == (0 : Int)) = false := beq_eq_false_iff_ne.2 h0
  by_cases h1 : x = 1
  · subst h1
    go_wp2_with fail
    refine (l1Str_any b w2.heap.size [⟨#[97]⟩, ⟨#[122, 111, 111]⟩] 2 _ (hc2.keep (bnew _ _)) (by omega) (by simp) (by simp) (by simp) ?_).mono ?_
    · exact cells_strs w2 9 [⟨#[97]⟩, ⟨#[122, 111, 111]⟩]
    rintro e w3 ⟨⟨n1, rfl, hmn1⟩, hc3, ht⟩
    have HXn1 := hide (short_of (by decide) hmn1)
    clear hmn1
    have T3 := (T2.alloc _).trans ht
    have G3 := growt hlt (growk hB G2 (bnew _ _)) ht.turn
    have hl3 := hc3.lt
    clear hc2 T2 G2 ht
    have hn1 := unhide HXn1
    go_wp2_with fail
    refine (l2One_any b n1 hn1 w3 hc3).mono ?_
    rintro e w4 ⟨⟨y, rfl, hy⟩, hc4, ht⟩
    have T4 := T3.trans ht
    have G4 := growt hlt G3 ht.turn
    have hl4 := hc4.lt
    clear hc3 T3 G3 ht
    obtain ⟨gs, gg⟩ := unhide G4
    have hx9 : AllT [y] := by intro z hz; simp only [List.mem_cons, List.not_mem_nil, or_false] at hz; (first | (subst hz; exact ⟨by assumption, by assumption⟩) | (rcases hz with rfl | rfl | rfl | rfl <;> assumption))
    obtain ⟨a9, c9, w9, hr, g9, t9⟩ := gg.appA gs (Turn.refl (fun _ => False) w4) (fun k h => False.elim h) [y] hx9 (by simp; omega) 1 rfl
    have c10 := hc4.new t9 (fun q e => by omega)
    have t10 := T4.new t9 (fun q e => e)
    have HF := hide (And.intro g9 (And.intro c10 t10))
    have HX9 : Hid (AllT (l ++ [y])) := hide (fun z hz => by rcases List.mem_append.1 hz with h | h; exact unhide HA z h; exact hx9 z h)
    have hln9 : (l ++ [y]).length ≤ 9 := by simp; omega
    generalize hL9 : l ++ [y] = L9 at *
    clear hL9 hx9 gg g9 t9 c10 t10 hc4 T4 G4
    go_wp2_with (first | (at_builtin; refine wpl_app rfl rfl rfl rfl hr ?_))
    go_ret
    exact ⟨⟨_, L9, rfl, hln9, unhide HX9, (unhide HF).1⟩, (unhide HF).2⟩
  replace h1 : (x == (1 : Int)) = false := beq_eq_false_iff_ne.2 h1
  by_cases h2 : x = 2
  · subst h2
    go_wp2_with fail
    refine (l2One_any b ⟨#[118]⟩ (by decide) w2 hc2).mono ?_
    rintro e w3 ⟨⟨y0, rfl, hy0⟩, hc3, ht⟩
    have T3 := T2.trans ht
    have G3 := growt hlt G2 ht.turn
    have hl3 := hc3.lt
    clear hc2 T2 G2 ht
    go_wp2_with fail
    refine (l2One_any b ⟨#[119]⟩ (by decide) w3 hc3).mono ?_
    rintro e w4 ⟨⟨y1, rfl, hy1⟩, hc4, ht⟩
    have T4 := T3.trans ht
    have G4 := growt hlt G3 ht.turn
    have hl4 := hc4.lt
    clear hc3 T3 G3 ht
    go_wp2_with fail
    refine (l2One_any b ⟨#[120]⟩ (by decide) w4 hc4).mono ?_
    rintro e w5 ⟨⟨y2, rfl, hy2⟩, hc5, ht⟩
    have T5 := T4.trans ht
    have G5 := growt hlt G4 ht.turn
    have hl5 := hc5.lt
    clear hc4 T4 G4 ht
    go_wp2_with fail
    refine (l2One_any b ⟨#[121]⟩ (by decide) w5 hc5).mono ?_
    rintro e w6 ⟨⟨y3, rfl, hy3⟩, hc6, ht⟩
    have T6 := T5.trans ht
    have G6 := growt hlt G5 ht.turn
    have hl6 := hc6.lt
    clear hc5 T5 G5 ht
    obtain ⟨gs, gg⟩ := unhide G6
    have hx9 : AllT [y0, y1, y2, y3] := by intro z hz; simp only [List.mem_cons, List.not_mem_nil, or_false] at hz; (first | (subst hz; exact ⟨by assumption, by assumption⟩) | (rcases hz with rfl | rfl | rfl | rfl <;> assumption))
    obtain ⟨a9, c9, w9, hr, g9, t9⟩ := gg.appA gs (Turn.refl (fun _ => False) w6) (fun k h => False.elim h) [y0, y1, y2, y3] hx9 (by simp; omega) 4 rfl
    have c10 := hc6.new t9 (fun q e => by omega)
    have t10 := T6.new t9 (fun q e => e)
    have HF := hide (And.intro g9 (And.intro c10 t10))
    have HX9 : Hid (AllT (l ++ [y0, y1, y2, y3])) := hide (fun z hz => by rcases List.mem_append.1 hz with h | h; exact unhide HA z h; exact hx9 z h)
    have hln9 : (l ++ [y0, y1, y2, y3]).length ≤ 9 := by simp; omega
    generalize hL9 : l ++ [y0, y1, y2, y3] = L9 at *
    clear hL9 hx9 gg g9 t9 c10 t10 hc6 T6 G6
    go_wp2_with (first | (at_builtin; refine wpl_app rfl rfl rfl rfl hr ?_))
    go_ret
    exact ⟨⟨_, L9, rfl, hln9, unhide HX9, (unhide HF).1⟩, (unhide HF).2⟩
  replace h2 : (x == (2 : Int)) = false := beq_eq_false_iff_ne.2 h2
  have HF := hide (And.intro (unhide G2).2 (And.intro hc2 T2))
  clear hc2 T2 G2
  go_wp2
  go_ret
  exact ⟨⟨_, l, rfl, by omega, unhide HA, (unhide HF).1⟩, (unhide HF).2⟩
end Go.Proofs.YtnlacjedamngkaaDoor
