/-
  A walk through rules: its beginning; how many rules there are, and whether one asks for tokens, of the program.
-/
import Derived.Test.YtlhjhnjpmafceaaWk4
import Derived.Deep.LoopGhost
namespace Go.Proofs.Ytlhjhnjpmafceaa
open Go.ChangeShapes Go.WideShapes Go.ChangeAt Go.RowKit
set_option linter.unusedVariables false
set_option maxRecDepth 100000

theorem polXd_lt : ∀ (d : Nat) (w : World) (S : Nat → Prop) (cs : List Value) (x : PolD), polXd d w S cs x → polXd d w (fun k => S k ∧ k < w.heap.size) cs x
  | 0, _, _, _, _, h => h.elim
  | d + 1, w, S, cs, x, h => by
    obtain ⟨s0, e, q0, q1, g⟩ := h
    refine ⟨s0, e, q0, q1, ?_, g.cap, g.plain⟩
    obtain ⟨a, cap, e1, hl, hh⟩ := g.at1
    refine ⟨a, cap, e1, hl, ?_⟩
    rcases hh with hh | ⟨b, o, h1, h2, h3, h4⟩
    · exact .inl hh
    · refine .inr ⟨b, o, h1, h2, ⟨h3, h2⟩, fun i y hy => ?_⟩
      obtain ⟨c, g1, g2⟩ := h4 i y hy
      exact ⟨c, polXd_lt d w S c y g1, g2⟩
theorem polX_lt {w : World} {S : Nat → Prop} {cs : List Value} {x : PolD} (h : polX w S cs x) : polX w (fun k => S k ∧ k < w.heap.size) cs x := by
  obtain ⟨d, h⟩ := h; exact ⟨d, polXd_lt d w S cs x h⟩
theorem polX_len {w : World} {S : Nat → Prop} {cs : List Value} {x : PolD} (h : polX w S cs x) : cs.length = 5 := polR_len (polX_read _ _ _ _ h)
theorem polX_one {w : World} {S : Nat → Prop} {cs : List Value} {x : PolD} (h : polX w S cs x) : One cs := polR_one (polX_read _ _ _ _ h)
def basN : BasD := ⟨0, 0, ⟨#[]⟩, ⟨#[]⟩, 0⟩
set_option maxHeartbeats 1000000 in
theorem implWalkOf (x : PolD) (S : Nat → Prop) (cs : List Value) (w : World) (h : polX w S cs x) (hb : polBulk x ≤ 1048576) (hS : ∀ k, S k → k < w.heap.size) :
    Calls Try.prog 32 #[.agg cs.toArray] w fun e w' => e = .returned (.pointer (some ⟨w.heap.size + 3, 0, none⟩)) ∧ w'.heap.size = w.heap.size + 4 ∧ Below w.heap.size w w' ∧
      WalkS (60, 27) w' (fun k => S k ∨ k = w.heap.size + 1) (fun k => k = w.heap.size + 2 ∨ k = w.heap.size + 3) (w.heap.size + 3) [[x]] basN := by
  have hpb := pre_bulk x
  have key : ∀ w', w' = (((w.alloc (.cells cs.toArray 29)).alloc (.cells cs.toArray 29)).alloc (.cells #[.slice (some ⟨w.heap.size + 1, 0, none⟩) 1 1] 27)).alloc (.cells #[.slice (some ⟨w.heap.size + 2, 0, none⟩) 1 1, .int .i64 0, .int .i64 0, .string ⟨#[]⟩, .string ⟨#[]⟩, .int .i64 0] 60) →
      w'.heap.size = w.heap.size + 4 ∧ Below w.heap.size w w' ∧ WalkS (60, 27) w' (fun k => S k ∨ k = w.heap.size + 1) (fun k => k = w.heap.size + 2 ∨ k = w.heap.size + 3) (w.heap.size + 3) [[x]] basN := by
    intro w' hw
    have b1 := bnew w (.cells cs.toArray 29)
    have b2 := bnew (w.alloc (.cells cs.toArray 29)) (.cells cs.toArray 29)
    have b3 := bnew ((w.alloc (.cells cs.toArray 29)).alloc (.cells cs.toArray 29)) (.cells #[.slice (some ⟨w.heap.size + 1, 0, none⟩) 1 1] 27)
    have b4 := bnew (((w.alloc (.cells cs.toArray 29)).alloc (.cells cs.toArray 29)).alloc (.cells #[.slice (some ⟨w.heap.size + 1, 0, none⟩) 1 1] 27)) (.cells #[.slice (some ⟨w.heap.size + 2, 0, none⟩) 1 1, .int .i64 0, .int .i64 0, .string ⟨#[]⟩, .string ⟨#[]⟩, .int .i64 0] 60)
    have B := bthen (bthen (bthen b1 b2) b3) b4
    have hsz : w'.heap.size = w.heap.size + 4 := by rw [hw]; simp
    have p1 : Plain ((w.alloc (.cells cs.toArray 29)).alloc (.cells cs.toArray 29)) (w.heap.size + 1) := by
      have := Plain.new (w.alloc (.cells cs.toArray 29)) cs.toArray 29
      simpa using this
    have i1 : Held ((w.alloc (.cells cs.toArray 29)).alloc (.cells cs.toArray 29)) (w.heap.size + 1) cs := by
      have := Held.new (w.alloc (.cells cs.toArray 29)) cs 29
      simpa using this
    have r2 : (((w.alloc (.cells cs.toArray 29)).alloc (.cells cs.toArray 29)).alloc (.cells #[.slice (some ⟨w.heap.size + 1, 0, none⟩) 1 1] 27)).heap[w.heap.size + 2]? = some (.cells #[.slice (some ⟨w.heap.size + 1, 0, none⟩) 1 1] 27 (0, 0)) := by
      have := heap_alloc_new ((w.alloc (.cells cs.toArray 29)).alloc (.cells cs.toArray 29)) (.cells #[.slice (some ⟨w.heap.size + 1, 0, none⟩) 1 1] 27)
      simpa using this
    have r3 : w'.heap[w.heap.size + 3]? = some (.cells #[.slice (some ⟨w.heap.size + 2, 0, none⟩) 1 1, .int .i64 0, .int .i64 0, .string ⟨#[]⟩, .string ⟨#[]⟩, .int .i64 0] 60 (0, 0)) := by
      rw [hw]
      have := heap_alloc_new (((w.alloc (.cells cs.toArray 29)).alloc (.cells cs.toArray 29)).alloc (.cells #[.slice (some ⟨w.heap.size + 1, 0, none⟩) 1 1] 27)) (.cells #[.slice (some ⟨w.heap.size + 2, 0, none⟩) 1 1, .int .i64 0, .int .i64 0, .string ⟨#[]⟩, .string ⟨#[]⟩, .int .i64 0] 60)
      simpa using this
    have B34 := bthen b3 b4
    rw [← hw] at B B34 b4
    have p1' := p1.below B34
    have i1' := i1.keep B34
    have r2' := (b4.block (w.heap.size + 2) (by simp)).trans r2
    have hx := polX_keeps _ _ _ _ _ _ (Below.turn B) none_off h
    refine ⟨hsz, B, w.heap.size + 2, 1, #[.slice (some ⟨w.heap.size + 1, 0, none⟩) 1 1], [.slice (some ⟨w.heap.size + 1, 0, none⟩) 1 1], ?_⟩
    exact
      { blk := r3, row := r2', cap1 := Nat.le_refl _, cap2 := by unfold maxLen; omega, size := rfl, take := rfl
        stk := ⟨⟨⟨_, _, rfl, by simp, .inr ⟨w.heap.size + 1, 0, rfl, by omega, .inr rfl, fun i y hy => by
          match i, hy with
          | 0, hy => simp at hy; subst hy; exact ⟨cs, polX_widens _ _ _ _ _ (fun k hk => .inl hk) hx, by simpa using i1'.inB⟩
          | i + 1, hy => simp at hy⟩⟩, CapV.mk (Nat.le_refl _), PlainV.mk p1'⟩, trivial⟩
        chain := trivial, deep := by simp [leftS, leftR, polPres]; omega
        tB := .inr rfl, tg := .inl rfl
        sT := fun k hk e => by rcases hk with hk | hk; · have := hS k hk; omega
                               · omega
        tl := fun k hk => by omega
        sl := fun k hk => by rcases hk with hk | hk; · have := hS k hk; omega
                             · omega }
  have HK := hide key
  have hrw : RowT Try.prog 29 cs.length := by rw [polX_len h]; exact rowIPol
  have P0 := Held.new w cs 29
  have on1 := polX_one h
  have hln := polX_len h
  obtain ⟨s0, rfl, q0, q1, g0⟩ := polX_open h
  obtain ⟨a0, k0, rfl⟩ := g0.form
  clear h key g0 hpb hb hS
  go_enter Try.func32, Try.ntmps32
  go_wp2
  go_ret
  exact ⟨rfl, unhide HK _ rfl⟩
set_option maxHeartbeats 1000000 in
theorem implPolCount (x : PolD) (S0 : Nat → Prop) (cs : List Value) (w : World) (h0 : polX w S0 cs x) (b0 : polBulk x ≤ 1048576) :
    Calls Try.prog 12 #[.agg cs.toArray] w fun e w' => e = .returned (.int .i64 (polPre x).length) ∧ Below w.heap.size w w' := by
  have hpb := pre_bulk x
  have P0 := Held.new w cs 29
  have B0 := bnew w (.cells cs.toArray 29)
  have hrw : RowT Try.prog 29 cs.length := by rw [polX_len h0]; exact rowIPol
  have HW := hide (implWalkOf x (fun k => S0 k ∧ k < w.heap.size) cs (w.alloc (.cells cs.toArray 29)) (polX_keeps _ _ _ _ _ _ (Below.turn B0) none_off (polX_lt h0)) b0 (fun k hk => by have := hk.2; simp; omega))
  have hs0 : (w.alloc (.cells cs.toArray 29)).heap.size = w.heap.size + 1 := by simp
  clear h0
  go_enter Try.func12, Try.ntmps12
  go_upto_region 1 with fail
  generalize w.alloc (.cells cs.toArray 29) = w0 at *
  go_wp2_with (first | (refine wpl_load rfl 29 _ rfl _ 0 rfl cs P0.inB hrw ?_))
  refine (unhide HW).mono ?_
  rintro e w1 ⟨rfl, hs1, hb1, hws⟩
  have B1 := bthen B0 hb1
  have HS := hide (And.intro hs0 hs1)
  have HWS := hide hws
  rw [hs0]
  clear hs0 hs1 hb1 hws HW P0 hrw
  go_wp2
  go_loopw [3] (fun n wr => ∃ (k : Nat) (st : List (List PolD)) (b : BasD) (T : Nat → Prop), n = .int .i64 k ∧ k + (leftS st).length = (polPre x).length ∧ Hid (∃ S, WalkS (60, 27) wr S T (w.heap.size + 1 + 3) st b) ∧ Hid (∀ k, T k → w.heap.size ≤ k) ∧ Below w.heap.size w wr) (fun n _ => (polPre x).length + 1 - (intOf n).toNat)
  case atStart =>
    obtain ⟨hs0, hs1⟩ := unhide HS
    refine ⟨0, [[x]], basN, _, rfl, by simp [leftS, leftR, polPres], hide ⟨_, by have := unhide HWS; rw [hs0] at this; exact this⟩, hide (fun k hk => by omega), B1⟩
  case round =>
    obtain ⟨k, st, b, T, rfl, hk, hws, hT, hbl⟩ := hrel
    clear HS HWS B1
    obtain ⟨S, hw⟩ := unhide hws
    have HN := hide (implNext hw)
    have HW := hide hw
    clear hw hws
    go_wp2_with fail
    refine (unhide HN).mono ?_
    rintro e wn ⟨ht, hcase⟩
    have hbn : Below w.heap.size w wn := hbl.trans (ht.belowFrom hbl.size (unhide hT))
    rcases hcase with ⟨h0, rfl⟩ | ⟨y, r, st', h0, rfl, h1, h2⟩
    · rw [h0] at hk
      simp at hk
      have HK := hide hk
      clear hk HN hbl ht HW
      go_wp2
      go_ret
      exact ⟨ret_int (by have := unhide HK; omega), hbn⟩
    · rw [h0] at hk
      simp at hk
      have H2 := hide (And.intro h1 (And.intro h2 ht.size))
      have hbs := hbl.size
      clear HN hbl ht HW h0 h1 h2
      go_wp2
      go_roundw
      case rel => exact ⟨k + 1, st', basD y, _, by go_num, by rw [(unhide H2).1]; omega, hide ⟨S, (unhide H2).2.1⟩, hide (fun j hj => hj.elim (unhide hT j) (fun hj => by omega)), hbn⟩
      case measure => simp [intOf]; omega
set_option maxHeartbeats 1000000 in
theorem implHasRate (x : PolD) (S0 : Nat → Prop) (cs : List Value) (w : World) (h0 : polX w S0 cs x) (b0 : polBulk x ≤ 1048576) :
    Calls Try.prog 15 #[.agg cs.toArray] w fun e w' => e = .returned (.bool ((polPre x).any (fun y => decide (y.kind = 6)))) ∧ Below w.heap.size w w' := by
  have hpb := pre_bulk x
  have P0 := Held.new w cs 29
  have B0 := bnew w (.cells cs.toArray 29)
  have hrw : RowT Try.prog 29 cs.length := by rw [polX_len h0]; exact rowIPol
  have HW := hide (implWalkOf x (fun k => S0 k ∧ k < w.heap.size) cs (w.alloc (.cells cs.toArray 29)) (polX_keeps _ _ _ _ _ _ (Below.turn B0) none_off (polX_lt h0)) b0 (fun k hk => by have := hk.2; simp; omega))
  have hs0 : (w.alloc (.cells cs.toArray 29)).heap.size = w.heap.size + 1 := by simp
  clear h0
  go_enter Try.func15, Try.ntmps15
  go_upto_region 1 with fail
  generalize w.alloc (.cells cs.toArray 29) = w0 at *
  go_wp2_with (first | (refine wpl_load rfl 29 _ rfl _ 0 rfl cs P0.inB hrw ?_))
  refine (unhide HW).mono ?_
  rintro e w1 ⟨rfl, hs1, hb1, hws⟩
  have B1 := bthen B0 hb1
  have HS := hide (And.intro hs0 hs1)
  have HWS := hide hws
  rw [hs0]
  clear hs0 hs1 hb1 hws HW P0 hrw
  go_wp2
  go_loopg [] (polPre x).length (fun m wr => ∃ (st : List (List PolD)) (b : BasD) (T : Nat → Prop), (leftS st).length = m ∧ Hid ((polPre x).any (fun y => decide (y.kind = 6)) = (leftS st).any (fun y => decide (y.kind = 6))) ∧ Hid (∃ S, WalkS (60, 27) wr S T (w.heap.size + 1 + 3) st b) ∧ Hid (∀ k, T k → w.heap.size ≤ k) ∧ Below w.heap.size w wr)
  case atStart =>
    obtain ⟨hs0, hs1⟩ := unhide HS
    refine ⟨[[x]], basN, _, by simp [leftS, leftR, polPres], hide (by simp [leftS, leftR, polPres]), hide ⟨_, by have := unhide HWS; rw [hs0] at this; exact this⟩, hide (fun k hk => by omega), B1⟩
  case round =>
    obtain ⟨st, b, T, hm, hk, hws, hT, hbl⟩ := hrel
    clear HS HWS B1
    obtain ⟨S, hw⟩ := unhide hws
    have HN := hide (implNext hw)
    have HM := hide hm
    clear hw hws hm
    go_wp2_with fail
    refine (unhide HN).mono ?_
    rintro e wn ⟨ht, hcase⟩
    have hbn : Below w.heap.size w wn := hbl.trans (ht.belowFrom hbl.size (unhide hT))
    rcases hcase with ⟨h0, rfl⟩ | ⟨y, r, st', h0, rfl, h1, h2⟩
    · have HK : Hid ((polPre x).any (fun y => decide (y.kind = 6)) = false) := hide (by rw [unhide hk, h0]; rfl)
      clear hk HN hbl ht
      go_wp2
      go_ret
      exact ⟨ret_bool (unhide HK).symm, hbn⟩
    · have hk2 : Hid ((polPre x).any (fun y => decide (y.kind = 6)) = (decide (y.kind = 6) || r.any (fun y => decide (y.kind = 6)))) := hide (by rw [unhide hk, h0]; rfl)
      have HM2 : Hid (r.length + 1 = gk) := hide (by rw [← unhide HM, h0]; rfl)
      have H2 := hide (And.intro h1 (And.intro h2 ht.size))
      have hbs := hbl.size
      obtain ⟨g, cap, cur, us, hX⟩ := h2
      have c1 := hX.cellB 1 _ rfl
      have hT2 : Hid (∀ k, Grown1 T wr wn k → w.heap.size ≤ k) := hide (fun j hj => hj.elim (unhide hT j) (fun hj => by omega))
      clear hX HN hbl ht h0 h1 hk HM hT
      simp only [basD] at c1
      by_cases e6 : y.kind = 6
      · have q6 : (y.kind == 6) = true := by simpa using e6
        have HK : Hid ((polPre x).any (fun y => decide (y.kind = 6)) = true) := hide (by rw [unhide hk2, decide_eq_true e6]; rfl)
        clear e6 hk2
        go_wp2
        go_ret
        exact ⟨ret_bool (unhide HK).symm, hbn⟩
      · have q6 : (y.kind == 6) = false := by simpa using e6
        have HK : Hid ((polPre x).any (fun y => decide (y.kind = 6)) = r.any (fun y => decide (y.kind = 6))) := hide (by rw [unhide hk2, decide_eq_false e6]; rfl)
        clear e6 hk2
        go_wp2
        go_roundg r.length
        case measure => have := unhide HM2; omega
        case rel => exact ⟨st', basD y, _, by rw [(unhide H2).1], hide (by rw [(unhide H2).1]; exact unhide HK), hide ⟨S, (unhide H2).2.1⟩, hT2, hbn⟩
end Go.Proofs.Ytlhjhnjpmafceaa
