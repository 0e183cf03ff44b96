/-
  A walk through rules: a step of it.
-/
import Derived.Test.YtlhjhnjpmafceaaWk3
import Derived.Test.YtlhjhnjpmafceaaTPol
namespace Go.Proofs.Ytlhjhnjpmafceaa
open Go.ChangeShapes Go.WideShapes Go.ChangeAt Go.RowKit
set_option linter.unusedVariables false
set_option maxRecDepth 100000

section
variable {P : TypeId × TypeId} {w w' : World} {S T U : Nat → Prop} {B g cap : Nat} {cur : Array Value} {us : List Value} {b : BasD}
theorem WalkX.put {st : List (List PolD)} (h : WalkX P w S T B g cap cur us st b) (hP : P.1 ≠ P.2) (c : BasD) : WalkX P (putL B 1 (basC c) 0 w) S T B g cap cur us st c := by
  have ht : Turn (fun k => k = B) w (putL B 1 (basC c) 0 w) := putL_turn _ _ _ _ _
  have hB := h.blk
  have h1 := off_setCell _ _ 1 _ _ (.int .i64 c.kind) hB
  have h2 := off_setCell _ _ 2 _ _ (.int .i64 c.n) h1
  have h3 := off_setCell _ _ 3 _ _ (.string c.key) h2
  have h4 := off_setCell _ _ 4 _ _ (.string c.text) h3
  have h5 := off_setCell _ _ 5 _ _ (.int .i64 c.rules) h4
  have ea : ((((((#[Value.slice (some ⟨g, 0, none⟩) us.length cap] ++ (basC b).toArray).setIfInBounds 1 (.int .i64 c.kind)).setIfInBounds 2 (.int .i64 c.n)).setIfInBounds 3 (.string c.key)).setIfInBounds 4 (.string c.text)).setIfInBounds 5 (.int .i64 c.rules)) = #[Value.slice (some ⟨g, 0, none⟩) us.length cap] ++ (basC c).toArray := by simp [basC]
  rw [ea] at h5
  have ep : putL B 1 (basC c) 0 w = (((((w.setCell ⟨B, 1, none⟩ (.int .i64 c.kind)).setCell ⟨B, 2, none⟩ (.int .i64 c.n)).setCell ⟨B, 3, none⟩ (.string c.key)).setCell ⟨B, 4, none⟩ (.string c.text)).setCell ⟨B, 5, none⟩ (.int .i64 c.rules)) := rfl
  rw [← ep] at h5
  exact { blk := h5, row := (ht.2.2.2.2 g (h.tl g h.tg) (fun e => h.ne hP e.symm)).trans h.row, cap1 := h.cap1, cap2 := h.cap2, size := h.size, take := h.take, stk := h.stk.keep ht (fun k hk e => h.sT k hk (by rw [show k = B from e]; exact h.tB)), chain := h.chain, deep := h.deep, tB := h.tB, tg := h.tg, sT := h.sT, tl := fun k hk => Nat.lt_of_lt_of_le (h.tl k hk) ht.size, sl := fun k hk => Nat.lt_of_lt_of_le (h.sl k hk) ht.size }
def Grown1 (T : Nat → Prop) (w w' : World) : Nat → Prop := fun k => T k ∨ (w.heap.size ≤ k ∧ k < w'.heap.size)
theorem WalkX.owns {st : List (List PolD)} (h : WalkX P w S T B g cap cur us st b) : w.ownsRow 0 P.2 1 (.slice (some ⟨g, 0, none⟩) us.length cap) us.length us.reverse :=
  ⟨by simp, .inr ⟨g, cap, cur, rfl, Nat.zero_le _, h.row, h.cap1, h.cap2, by rw [h.size, Nat.mul_one], by rw [Nat.mul_one]; exact h.take⟩⟩
theorem WalkX.push {x : PolD} {t : List PolD} {st : List (List PolD)} {s0 : Value} {g' cap' : Nat} (h : WalkX P w S T B g cap cur us ((x :: t) :: st) b) (hx : LAtX 5 polX w S s0 x.l)
    (hB : w'.heap[B]? = some (.cells (#[.slice (some ⟨g', 0, none⟩) (us.length + 1) cap'] ++ (basC b).toArray) P.1 (0, 0))) (hr : w'.ownsRow 0 P.2 1 (.slice (some ⟨g', 0, none⟩) (us.length + 1) cap') (us.length + 1) (us.reverse ++ [s0])) (ht : Turn T w w')
    (hg : g' = g ∨ w.heap.size ≤ g') : WalkS P w' S (Grown1 T w w') B (x.l :: (x :: t) :: st) b := by
  rcases hr.2 with ⟨e, _⟩ | ⟨g2, cap2, cur2, e, _, hrow, h1, h2, h3, h4⟩
  · cases e
  injection e with e1 e2 e3
  injection e1 with e1
  injection e1 with e1 _
  subst e1
  subst e3
  have hgl : g' < w'.heap.size := (Array.getElem?_eq_some_iff.1 hrow).1
  exact ⟨g', cap', cur2, s0 :: us,
    { blk := hB, row := hrow, cap1 := h1, cap2 := h2, size := by rw [h3, Nat.mul_one], take := by rw [Nat.mul_one] at h4; rw [List.length_cons, h4, List.reverse_cons]
      stk := ⟨hx.turn polX_keeps ht h.sT, h.stk.keep ht h.sT⟩, chain := chain_push h.chain
      deep := by have := h.deep; rw [leftS_push] at this; rw [List.length_cons] at this ⊢; omega
      tB := .inl h.tB, tg := by exact hg.elim (fun e => .inl (e ▸ h.tg)) (fun e => .inr ⟨e, hgl⟩)
      sT := fun k hk e => e.elim (fun e => h.sT k hk e) (fun e => absurd (h.sl k hk) (by have := e.1; omega))
      tl := fun k hk => hk.elim (fun hk => Nat.lt_of_lt_of_le (h.tl k hk) ht.size) (fun hk => hk.2)
      sl := fun k hk => Nat.lt_of_lt_of_le (h.sl k hk) ht.size }⟩
end
def stkLen (w : World) (B : Nat) : Nat := match w.cell? ⟨B, 0, none⟩ with | some (.slice _ n _) => n | _ => 0
theorem WalkX.wrB {P : TypeId × TypeId} {w : World} {S T : Nat → Prop} {B g cap : Nat} {cur : Array Value} {us : List Value} {st : List (List PolD)} {b : BasD} (h : WalkX P w S T B g cap cur us st b) : WrAt w B 1 5 := by
  refine ⟨h.tl B h.tB, fun j hj => ⟨?_, h.freeB _⟩⟩
  match j, hj with
  | 0, _ => rw [h.cellB 1 _ rfl]; rfl
  | 1, _ => rw [h.cellB 2 _ rfl]; rfl
  | 2, _ => rw [h.cellB 3 _ rfl]; rfl
  | 3, _ => rw [h.cellB 4 _ rfl]; rfl
  | 4, _ => rw [h.cellB 5 _ rfl]; rfl
theorem WalkX.stkLen {P : TypeId × TypeId} {w : World} {S T : Nat → Prop} {B g cap : Nat} {cur : Array Value} {us : List Value} {st : List (List PolD)} {b : BasD} (h : WalkX P w S T B g cap cur us st b) : stkLen w B = us.length := by
  unfold Proofs.Ytlhjhnjpmafceaa.stkLen
  rw [h.cellB 0 _ rfl]
theorem infoPolS : (Try.prog.info? 27).map (fun i => (i.zero, i.size, i.bytes)) = some (some (.slice none 0 0), 1, 24) := by kernel_rfl
theorem wpo_append {P : Program} {w : World} {o : Oper} {a : Act} {K : Act → World → Prop} {Q : Exit → Act → World → Prop} {s x : Operand} {t : TypeId} {v u v' : Value} {w' : World} (ho : o.op = .call { callee := .builtin .append, args := #[s, x], argTypes := #[t, t] })
    (hs : a.eval s = v) (hx : a.eval x = u) (hr : (Builtin.append_ #[t, t] o.type #[v, u]).run P w = .ok v' w') (h : K (a.put o.dst v') w') : Oper.wp P o a w K Q := by
  unfold Oper.wp execOp
  simp only [ho, resolve, invoke, builtin, Sem.run_bind, Sem.run_pure, Result.andThen_ok, List.map_toArray, List.map_cons, List.map_nil, hs, hx, hr]
  exact h
theorem rowIBasic : RowT Try.prog 57 5 := ⟨_, Try.underlying57, rfl, by kernel_rfl⟩
theorem WalkS.wider {P : TypeId × TypeId} {w : World} {S T T' : Nat → Prop} {B : Nat} {st : List (List PolD)} {b : BasD} (h : WalkS P w S T B st b) (h1 : ∀ k, T k → T' k) (h2 : ∀ k, S k → ¬ T' k) (h3 : ∀ k, T' k → k < w.heap.size) : WalkS P w S T' B st b := by
  obtain ⟨g, cap, cur, us, h⟩ := h
  exact ⟨g, cap, cur, us, { blk := h.blk, row := h.row, cap1 := h.cap1, cap2 := h.cap2, size := h.size, take := h.take, stk := h.stk, chain := h.chain, deep := h.deep, tB := h1 _ h.tB, tg := h1 _ h.tg, sT := h2, tl := h3, sl := h.sl }⟩
theorem WalkX.grow {w : World} {S T : Nat → Prop} {B g cap : Nat} {cur : Array Value} {us : List Value} {x : PolD} {t : List PolD} {st : List (List PolD)} {b : BasD} (h : WalkX (60, 27) w S T B g cap cur us ((x :: t) :: st) b)
    {a1 : Option Addr} {n1 k1 : Nat} (hx : LAtX 5 polX w S (.slice a1 n1 k1) x.l) : ∃ g' cap' w4, (Builtin.append_ #[58, 58] 58 #[.slice (some ⟨g, 0, none⟩) us.length cap, .slice (some ⟨w.heap.size, 0, none⟩) 1 1]).run Try.prog (w.drew.alloc (.cells #[.slice a1 n1 k1] 27)) = .ok (.slice (some ⟨g', 0, none⟩) (us.length + 1) cap') w4 ∧
      w4.cell? ⟨B, 0, none⟩ = some (.slice (some ⟨g, 0, none⟩) us.length cap) ∧ w4.frozen? ⟨B, 0, none⟩ = false ∧
      ∀ w5, w5 = w4.setCell ⟨B, 0, none⟩ (.slice (some ⟨g', 0, none⟩) (us.length + 1) cap') → WalkS (60, 27) w5 S (Grown1 T w w5) B (x.l :: (x :: t) :: st) b ∧ Turn T w w5 := by
  have hne := h.ne (by decide)
  have hd := h.deep
  have hb1 : Below w.heap.size w (w.drew.alloc (.cells #[.slice a1 n1 k1] 27)) := (Below.drew (Below.refl _ _)).alloc (Nat.le_refl _) _
  have h2 := h.below hb1
  have ho := h2.owns
  have hsz : (w.drew.alloc (.cells #[.slice a1 n1 k1] 27)).heap.size = w.heap.size + 1 := by simp
  have hcell : (w.drew.alloc (.cells #[.slice a1 n1 k1] 27)).cell? ⟨w.heap.size, 0, none⟩ = some (.slice a1 n1 k1) := by
    exact (Held.new w.drew [.slice a1 n1 k1] 27).2 0 _ rfl
  obtain ⟨i0, hi, hz0, hz1, hz2⟩ := info_parts infoPolS
  obtain ⟨v', w4, hr, how, hg, hv⟩ := run_append2 (P := Try.prog) (w.drew.alloc (.cells #[.slice a1 n1 k1] 27)) 0 58 58 27 i0 _ 1 24 Try.underlying58 hi hz0 hz1 hz2 rfl (by decide) _ _ _ ho ⟨w.heap.size, 0, none⟩ 1 1 [.slice a1 n1 k1] rfl
    (fun j u hj => by
      match j, hj with
      | 0, hj => simp at hj; subst hj; simpa [Addr.add] using hcell
      | j + 1, hj => simp at hj) (by intro u hu; simp at hu; subst hu; rfl) (by unfold maxLen; omega) (by omega) (Nat.zero_le _)
  obtain ⟨g', cap', rfl⟩ := ownsRow_succ how
  have hBl : B < (w.drew.alloc (.cells #[.slice a1 n1 k1] 27)).heap.size := h2.tl B h2.tB
  have hB4 := (hg.block B hBl (fun e => hne (by injection e))).trans h2.blk
  refine ⟨g', cap', w4, hr, by unfold World.cell?; simp only [hB4]; rfl, by unfold World.frozen?; simp [hB4], ?_⟩
  rintro w5 rfl
  have ht : Turn T w (w4.setCell ⟨B, 0, none⟩ (.slice (some ⟨g', 0, none⟩) (us.length + 1) cap')) := by
    refine Turn.setIn (((Below.turn hb1).mono (fun _ e => e.elim)).trans ((grown_turn hg).mono (fun k e => ?_))) h.tB _
    injection e with e
    rw [← e]
    exact h.tg
  refine ⟨h.push (g' := g') (cap' := cap') hx ?_ ?_ ht ?_, ht⟩
  · have := off_setCell _ _ 0 _ _ (.slice (some ⟨g', 0, none⟩) (us.length + 1) cap') hB4
    rw [this]
    simp [basC]
  · refine how.kept (grownBy_setCell' w4 B _) (.inr fun e => ?_)
    injection e with e
    rcases hv with hv | hv
    · injection hv with hv
      exact hne (e.symm.trans hv)
    · injection hv with hv
      have := h.tl B h.tB
      have e2 : g' = w.heap.size + 1 := hv.trans hsz
      omega
  · rcases hv with hv | hv
    · injection hv with hv; exact .inl hv
    · injection hv with hv
      exact .inr (by have e2 : g' = w.heap.size + 1 := hv.trans hsz; omega)
set_option maxHeartbeats 8000000 in
theorem implNext {w : World} {S T : Nat → Prop} {B : Nat} {st : List (List PolD)} {b : BasD} (h : WalkS (60, 27) w S T B st b) :
    Calls Try.prog 33 #[.pointer (some ⟨B, 0, none⟩)] w fun e w' => Turn T w w' ∧ ((leftS st = [] ∧ e = .returned (.bool false)) ∨
      (∃ x r st', leftS st = x :: r ∧ e = .returned (.bool true) ∧ leftS st' = r ∧ WalkS (60, 27) w' S (Grown1 T w w') B st' (basD x))) := by
  go_enter Try.func33, Try.ntmps33
  go_wp2
  go_loopw [3] (fun _ wr => ∃ st2, WalkS (60, 27) wr S T B st2 b ∧ leftS st2 = leftS st ∧ Turn T w wr) (fun _ wr => stkLen wr B)
  case atStart => exact ⟨st, h, rfl, Turn.refl _ _⟩
  case round =>
    obtain ⟨st2, ⟨g, cap, cur, us, hX⟩, hleft, ht⟩ := hrel
    have hS0 : ∀ k, S k → k < w.heap.size := by obtain ⟨_, _, _, _, h⟩ := h; exact h.sl
    have HS0 := hide hS0
    clear h hS0
    match us, st2, hX with
    | [], [], hX =>
      have c0 := hX.cellB 0 _ rfl
      simp only [List.length_nil] at c0
      clear hX
      go_wp2
      go_ret
      exact ⟨ht, .inl ⟨hleft.symm, rfl⟩⟩
    | u :: us, [] :: st3, hX =>
      obtain ⟨a0, k0, rfl⟩ := hX.stk.1.form
      have c0 := hX.cellB 0 _ rfl
      have cg := hX.cellG us.length (by simp)
      have hd := hX.deep
      have hc1 := hX.cap1
      simp at c0 cg hd hc1
      have hm : us.length ≤ 1048578 := by omega
      have HI := hide (implInItself hX)
      have HX := hide hX
      have HL := hide hleft
      clear hX hd hleft
      have m1 : (0 : Int) < (us.length : Int) + 1 := by omega
      have m3 : (us.length : Int) < (us.length : Int) + 1 := by omega
      simp only [List.length_cons] at HI
      go_wp2_with (go_at_call 50; refine (unhide HI).mono ?_; rintro e wi ⟨rfl, hbi⟩; replace c0 := (hbi.cell (p := ⟨B, 0, none⟩) ((unhide HX).tl B (unhide HX).tB)).trans c0; replace cg := (hbi.cell (p := ⟨g, us.length, none⟩) ((unhide HX).tl g (unhide HX).tg)).trans cg)
      have HX2 := hide ((unhide HX).below hbi)
      have HT := hide (ht.trans ((Below.turn hbi).mono (fun _ e => e.elim)))
      clear ht hbi HI
      go_wp2_with (go_at_call 52; refine (implLeave (unhide HX2)).mono ?_; rintro e wl ⟨⟨v, rfl⟩, htl, cur2, us2, st4, hX4, hl4, hn4⟩)
      have H4 := hide (And.intro htl (And.intro hX4 (And.intro hl4 hn4)))
      clear htl hX4 hl4 hn4 c0 cg hc1 hm m1 m3
      go_roundw
      case rel => exact ⟨st4, ⟨g, cap, cur2, us2, (unhide H4).2.1⟩, (unhide H4).2.2.1.trans (unhide HL), (unhide HT).trans (unhide H4).1⟩
      case measure => rw [(unhide H4).2.1.stkLen, (unhide HX).stkLen, (unhide H4).2.2.2]; simp
    | u :: us, (x :: t) :: st3, hX =>
      obtain ⟨b0, o0, k0, cs0, rfl, hk0, hp0, hb0, hS1, hx0, hi0⟩ := hX.stk.1.ptr1
      have c0 := hX.cellB 0 _ rfl
      have cg := hX.cellG us.length (by simp)
      have hd := hX.deep
      have hc1 := hX.cap1
      simp at c0 cg hd hc1
      have hm : us.length ≤ 1048578 := by omega
      have HI := hide (implInItself hX)
      have HX := hide (And.intro hX (And.intro hx0 (And.intro hi0 (And.intro hb0 hS1))))
      have HL := hide hleft
      clear hX hd hleft hx0 hi0 hb0 hS1 hp0
      have m1 : (0 : Int) < (us.length : Int) + 1 := by omega
      have m3 : (us.length : Int) < (us.length : Int) + 1 := by omega
      have m4 : (0 : Int) < (t.length : Int) + 1 := by omega
      simp only [List.length_cons] at HI
      go_upto_region 4 with (first | (go_at_call 50; refine (unhide HI).mono ?_; rintro e wi ⟨rfl, hbi⟩; replace c0 := (hbi.cell (p := ⟨B, 0, none⟩) ((unhide HX).1.tl B (unhide HX).1.tB)).trans c0; replace cg := (hbi.cell (p := ⟨g, us.length, none⟩) ((unhide HX).1.tl g (unhide HX).1.tg)).trans cg))
      have HT := hide (ht.trans ((Below.turn hbi).mono (fun _ e => e.elim)))
      have hin := (unhide HX).2.2.1.turn (unhide HX).2.2.2.1 (Below.turn hbi) (fun e => e)
      have HX2 := hide (And.intro ((unhide HX).1.below hbi) (polX_keeps _ _ _ _ _ _ (Below.turn hbi) none_off (unhide HX).2.1))
      have hln := polRd_len (polX_read _ _ _ _ (unhide HX2).2).choose_spec
      have hrw : RowT Try.prog 29 cs0.length := by rw [hln]; exact rowIPol
      have HB := hide (And.intro ((unhide HX).1.tl B (unhide HX).1.tB) hbi)
      have HB2 := hide (show b0 < wi.heap.size from Nat.lt_of_lt_of_le (unhide HX).2.2.2.1 hbi.size)
      have HNB : Hid (¬ b0 = B) := hide (fun e => (unhide HX).1.sT b0 (unhide HX).2.2.2.2 (e ▸ (unhide HX).1.tB))
      clear ht hbi HI HX hln
      go_upto_region 5 with (first | (refine wpl_load rfl 29 _ rfl _ _ rfl cs0 hin hrw ?_) | (go_at_call 51; refine (implBasicOf x S cs0 _ (polX_read _ _ _ _ (unhide HX2).2)).mono ?_; rintro e wb ⟨rfl, hbb⟩; have hwr : WrAt wb B 1 (basC (basD x)).length := ((unhide HX2).1.below hbb).wrB) | (refine wpl_store_at rfl 57 _ _ rfl B 1 (basC (basD x)) rfl rfl hwr (basC_one _) rowIBasic ?_))
      have X3 := ((unhide HX2).1.below hbb).put (by decide) (basD x)
      have y3 := polX_keeps _ _ _ _ _ _ ((Below.turn hbb).mono (fun k e => (e.elim : k = B))) (fun k hk e => (unhide HX2).1.sT k hk (e ▸ (unhide HX2).1.tB)) (unhide HX2).2
      have HT3 : Hid (Turn T w (putL B 1 (basC (basD x)) 0 wb)) := hide (((unhide HT).trans ((Below.turn hbb).mono (fun _ e => e.elim))).trans ((putL_turn B 1 (basC (basD x)) 0 wb).mono (fun k e => by rw [show k = B from e]; exact (unhide HX2).1.tB)))
      have y3 := polX_keeps _ _ _ _ _ _ (putL_turn B 1 (basC (basD x)) 0 wb) (fun k hk e => (unhide HX2).1.sT k hk ((show k = B from e) ▸ (unhide HX2).1.tB)) y3
      have hin3 := (hin.turn (unhide HB2) (Below.turn hbb) (fun e => e)).turn (Nat.lt_of_lt_of_le (unhide HB2) hbb.size) (putL_turn B 1 (basC (basD x)) 0 wb) (fun e => unhide HNB e)
      generalize putL B 1 (basC (basD x)) 0 wb = w3 at *
      obtain ⟨s0, rfl, _, _, g0⟩ := polX_open y3
      obtain ⟨a1, k1, rfl⟩ := g0.form
      obtain ⟨g', cap', w4, hr, q4, z4, hfin⟩ := X3.grow g0
      have c3 := X3.cellB 0 _ rfl
      have cg3 := X3.cellG us.length (by simp)
      have f3 := X3.freeB 0
      have p4 : w3.cell? ⟨b0, o0 + 4, none⟩ = some (.slice a1 x.l.length k1) := hin3 4 _ rfl
      simp at c3 cg3 hr q4
      have HF := hide hfin
      have c3a : (w3.alloc (.cells #[.slice a1 x.l.length k1] 27)).cell? ⟨B, 0, none⟩ = some (.slice (some ⟨g, 0, none⟩) (us.length + 1) cap) := by rw [World.cell?_alloc_lt _ _ _ (X3.tl B X3.tB)]; exact c3
      have HLP : Hid (leftS st = x :: leftS (x.l :: (x :: t) :: st3)) := hide ((unhide HL).symm.trans (leftS_push x t st3))
      have HWI : Hid (∀ w5, WalkS (60, 27) w5 S (Grown1 T w3 w5) B (x.l :: (x :: t) :: st3) (basD x) ∧ Turn T w3 w5 → WalkS (60, 27) w5 S (Grown1 T w w5) B (x.l :: (x :: t) :: st3) (basD x)) := by
        have e1 := (unhide HT3).size
        have e2 := X3.sT
        have e3 := X3.tl
        refine hide (fun w5 hw => hw.1.wider (fun k hk => hk.elim .inl (fun hk => .inr ⟨by omega, hk.2⟩)) (fun k hk e => e.elim (e2 k hk) (fun e => ?_)) (fun k hk => hk.elim (fun hk => ?_) (fun hk => hk.2)))
        · have := unhide HS0 k hk
          omega
        · have := e3 k hk
          have := hw.2.size
          omega
      clear hfin X3 y3 hin3 g0 hin hwr hbb HX2 HT HB c0 cg
      simp only [Act.put]
      --REG5
      refine wp_region_held_drew (S := fun _ => True) (by kernel_rfl) trivial (fun hHeld => ?_)
      refine wpAnyH_take (i := 0) (oi := ?oo1) (v := ?vv1) ?hi1 (by kernel_rfl) (by kernel_rfl) (by kernel_rfl) ?hQ1 ?hy1 (by assumption) ?rest1
      case hi1 => (simp only [List.getElem?_toArray, List.getElem?_cons_zero]; rfl)
      case hQ1 => exact fun _ _ _ h => h
      case hy1 => exact Or.inl ⟨by rfl, by intro wS hSw; (try dsimp only at hSw); go_simp; try first | (with_reducible rfl) | (simp only [*]; done) | omega⟩
      try simp only [Act.put, List.setIfInBounds_toArray, List.set_cons_zero, List.set_cons_succ]
      refine wpAnyH_take (i := 1) (oi := ?oo2) (v := ?vv2) ?hi2 (by kernel_rfl) (by kernel_rfl) (by kernel_rfl) ?hQ2 ?hy2 (by assumption) ?rest2
      case hi2 => (simp only [List.getElem?_toArray, List.getElem?_cons_zero, List.getElem?_cons_succ]; rfl)
      case hQ2 => exact fun _ _ _ h => h
      case hy2 => exact Or.inl ⟨by rfl, by intro wS hSw; (try dsimp only at hSw); go_simp; try first | (with_reducible rfl) | (simp only [*]; done) | omega⟩
      try simp only [Act.put, List.setIfInBounds_toArray, List.set_cons_zero, List.set_cons_succ]
      refine wpAnyH_take (i := 2) (oi := ?oo3) (v := ?vv3) ?hi3 (by kernel_rfl) (by kernel_rfl) (by kernel_rfl) ?hQ3 ?hy3 (by assumption) ?rest3
      case hi3 => (simp only [List.getElem?_toArray, List.getElem?_cons_zero, List.getElem?_cons_succ]; rfl)
      case hQ3 => exact fun _ _ _ h => h
      case hy3 => exact Or.inl ⟨by rfl, by intro wS hSw; (try dsimp only at hSw); go_simp; try first | (with_reducible rfl) | (simp only [*]; done) | omega⟩
      try simp only [Act.put, List.setIfInBounds_toArray, List.set_cons_zero, List.set_cons_succ]
      refine wpAnyH_take (i := 3) (oi := ?oo4) (v := ?vv4) ?hi4 (by kernel_rfl) (by kernel_rfl) (by kernel_rfl) ?hQ4 ?hy4 (by assumption) ?rest4
      case hi4 => (simp only [List.getElem?_toArray, List.getElem?_cons_zero, List.getElem?_cons_succ]; rfl)
      case hQ4 => exact fun _ _ _ h => h
      case hy4 => exact Or.inl ⟨by rfl, by intro wS hSw; (try dsimp only at hSw); go_simp; try first | (with_reducible rfl) | (simp only [*]; done) | omega⟩
      try simp only [Act.put, List.setIfInBounds_toArray, List.set_cons_zero, List.set_cons_succ]
      refine wpAnyH_take (i := 5) (oi := ?oo5) (v := ?vv5) ?hi5 (by kernel_rfl) (by kernel_rfl) (by kernel_rfl) ?hQ5 ?hy5 (by assumption) ?rest5
      case hi5 => (simp only [List.getElem?_toArray, List.getElem?_cons_zero, List.getElem?_cons_succ]; rfl)
      case hQ5 => exact fun _ _ _ h => h
      case hy5 => exact Or.inl ⟨by rfl, by intro wS hSw; (try dsimp only at hSw); go_simp; try first | (with_reducible rfl) | (simp only [*]; done) | omega⟩
      try simp only [Act.put, List.setIfInBounds_toArray, List.set_cons_zero, List.set_cons_succ]
      refine wpAnyH_take (i := 6) (oi := ?oo6) (v := ?vv6) ?hi6 (by kernel_rfl) (by kernel_rfl) (by kernel_rfl) ?hQ6 ?hy6 (by assumption) ?rest6
      case hi6 => (simp only [List.getElem?_toArray, List.getElem?_cons_zero, List.getElem?_cons_succ]; rfl)
      case hQ6 => exact fun _ _ _ h => h
      case hy6 => exact Or.inl ⟨by rfl, by intro wS hSw; (try dsimp only at hSw); go_simp; try first | (with_reducible rfl) | (simp only [*]; done) | omega⟩
      try simp only [Act.put, List.setIfInBounds_toArray, List.set_cons_zero, List.set_cons_succ]
      refine wpAnyH_take (i := 7) (oi := ?oo7) (v := ?vv7) ?hi7 (by kernel_rfl) (by kernel_rfl) (by kernel_rfl) ?hQ7 ?hy7 (by assumption) ?rest7
      case hi7 => (simp only [List.getElem?_toArray, List.getElem?_cons_zero, List.getElem?_cons_succ]; rfl)
      case hQ7 => exact fun _ _ _ h => h
      case hy7 => exact Or.inl ⟨by rfl, by intro wS hSw; (try dsimp only at hSw); go_simp; try first | (with_reducible rfl) | (simp only [*]; done) | omega⟩
      try simp only [Act.put, List.setIfInBounds_toArray, List.set_cons_zero, List.set_cons_succ]
      refine wpAnyH_take (i := 9) (oi := ?oo8) (v := ?vv8) ?hi8 (by kernel_rfl) (by kernel_rfl) (by kernel_rfl) ?hQ8 ?hy8 (by assumption) ?rest8
      case hi8 => (simp only [List.getElem?_toArray, List.getElem?_cons_zero, List.getElem?_cons_succ]; rfl)
      case hQ8 => exact fun _ _ _ h => h
      case hy8 => exact Or.inl ⟨by rfl, by intro wS hSw; (try dsimp only at hSw); go_simp; try first | (with_reducible rfl) | (simp only [*]; done) | omega⟩
      try simp only [Act.put, List.setIfInBounds_toArray, List.set_cons_zero, List.set_cons_succ]
      refine wpAnyH_ready (rs := [4, 8]) (by kernel_rfl) (by simp) ?_
      refine (AllReadyH.cons (o := ?bo9n4) ?bh9n4 (fun K hK => ?br9n4) (AllReadyH.cons (o := ?bo9n8) ?bh9n8 (fun K hK => ?br9n8) AllReadyH.nil))
      case bh9n4 => (simp only [List.getElem?_toArray, List.getElem?_cons_zero, List.getElem?_cons_succ]; rfl)
      case bh9n8 => (simp only [List.getElem?_toArray, List.getElem?_cons_zero, List.getElem?_cons_succ]; rfl)
      case br9n4 =>
        go_simp
        refine hK.out _ _ (trivial) (fun hHeld => ?_)
        clear hK
        refine wpAnyH_ready (rs := [8]) (by kernel_rfl) (by simp) ?_
        refine (AllReadyH.cons (o := ?bo10n8) ?bh10n8 (fun K hK => ?br10n8) AllReadyH.nil)
        case bh10n8 => (simp only [List.getElem?_toArray, List.getElem?_cons_zero, List.getElem?_cons_succ]; rfl)
        case br10n8 =>
          go_simp
          refine hK.out _ _ (trivial) (fun hHeld => ?_)
          clear hK
          refine wpAnyH_take (i := 10) (oi := ?oo11) (v := ?vv11) ?hi11 (by kernel_rfl) (by kernel_rfl) (by kernel_rfl) ?hQ11 ?hy11 (by assumption) ?rest11
          case hi11 => (simp only [List.getElem?_toArray, List.getElem?_cons_zero, List.getElem?_cons_succ]; rfl)
          case hQ11 => exact fun _ _ _ h => h
          case hy11 => exact Or.inl ⟨by rfl, by intro wS hSw; (try dsimp only at hSw); go_simp; try first | (with_reducible rfl) | (simp only [*]; done) | omega⟩
          try simp only [Act.put, List.setIfInBounds_toArray, List.set_cons_zero, List.set_cons_succ]
          refine wpAnyH_ready (rs := [11]) (by kernel_rfl) (by simp) ?_
          refine (AllReadyH.cons (o := ?bo12n11) ?bh12n11 (fun K hK => ?br12n11) AllReadyH.nil)
          case bh12n11 => (simp only [List.getElem?_toArray, List.getElem?_cons_zero, List.getElem?_cons_succ]; rfl)
          case br12n11 =>
            go_simp
            refine hK.out _ _ (trivial) (fun hHeld => ?_)
            clear hK
            refine wpAnyH_take (i := 12) (oi := ?oo13) (v := ?vv13) ?hi13 (by kernel_rfl) (by kernel_rfl) (by kernel_rfl) ?hQ13 ?hy13 (by assumption) ?rest13
            case hi13 => (simp only [List.getElem?_toArray, List.getElem?_cons_zero, List.getElem?_cons_succ]; rfl)
            case hQ13 => exact fun _ _ _ h => h
            case hy13 => exact Or.inl ⟨by rfl, by intro wS hSw; (try dsimp only at hSw); go_simp; try first | (with_reducible rfl) | (simp only [*]; done) | omega⟩
            try simp only [Act.put, List.setIfInBounds_toArray, List.set_cons_zero, List.set_cons_succ]
            refine wpAnyH_take (i := 13) (oi := ?oo14) (v := ?vv14) ?hi14 (by kernel_rfl) (by kernel_rfl) (by kernel_rfl) ?hQ14 ?hy14 (by assumption) ?rest14
            case hi14 => (simp only [List.getElem?_toArray, List.getElem?_cons_zero, List.getElem?_cons_succ]; rfl)
            case hQ14 => exact fun _ _ _ h => h
            case hy14 => exact Or.inl ⟨by rfl, by intro wS hSw; (try dsimp only at hSw); go_simp; try first | (with_reducible rfl) | (simp only [*]; done) | omega⟩
            try simp only [Act.put, List.setIfInBounds_toArray, List.set_cons_zero, List.set_cons_succ]
            refine wpAnyH_ready (rs := [14]) (by kernel_rfl) (by simp) ?_
            refine (AllReadyH.cons (o := ?bo15n14) ?bh15n14 (fun K hK => ?br15n14) AllReadyH.nil)
            case bh15n14 => (simp only [List.getElem?_toArray, List.getElem?_cons_zero, List.getElem?_cons_succ]; rfl)
            case br15n14 =>
              go_simp
              refine hK.out _ _ (trivial) (fun hHeld => ?_)
              clear hK
              refine wpAnyH_ready (rs := [15]) (by kernel_rfl) (by simp) ?_
              refine (AllReadyH.cons (o := ?bo16n15) ?bh16n15 (fun K hK => ?br16n15) AllReadyH.nil)
              case bh16n15 => (simp only [List.getElem?_toArray, List.getElem?_cons_zero, List.getElem?_cons_succ]; rfl)
              case br16n15 =>
                go_simp
                refine hK.out _ _ (trivial) (fun hHeld => ?_)
                clear hK
                refine wpAnyH_ready (rs := [16]) (by kernel_rfl) (by simp) ?_
                refine (AllReadyH.cons (o := ?bo17n16) ?bh17n16 (fun K hK => ?br17n16) AllReadyH.nil)
                case bh17n16 => (simp only [List.getElem?_toArray, List.getElem?_cons_zero, List.getElem?_cons_succ]; rfl)
                case br17n16 =>
                  rw [if_pos (by rfl)]
                  refine wpo_append (s := .tmp 50) (x := .tmp 61) (t := 58) (by rfl) (by rfl) (by rfl) hr ?_
                  refine hK.out _ _ (trivial) (fun hHeld => ?_)
                  clear hK
                  refine wpAnyH_take (i := 17) (oi := ?oo18) (v := ?vv18) ?hi18 (by kernel_rfl) (by kernel_rfl) (by kernel_rfl) ?hQ18 ?hy18 (by assumption) ?rest18
                  case hi18 => (simp only [List.getElem?_toArray, List.getElem?_cons_zero, List.getElem?_cons_succ]; rfl)
                  case hQ18 => exact fun _ _ _ h => h
                  case hy18 => exact Or.inl ⟨by rfl, by intro wS hSw; (try dsimp only at hSw); go_simp; try first | (with_reducible rfl) | (simp only [*]; done) | omega⟩
                  try simp only [Act.put, List.setIfInBounds_toArray, List.set_cons_zero, List.set_cons_succ]
                  refine wpAnyH_take (i := 18) (oi := ?oo19) (v := ?vv19) ?hi19 (by kernel_rfl) (by kernel_rfl) (by kernel_rfl) ?hQ19 ?hy19 (by assumption) ?rest19
                  case hi19 => (simp only [List.getElem?_toArray, List.getElem?_cons_zero, List.getElem?_cons_succ]; rfl)
                  case hQ19 => exact fun _ _ _ h => h
                  case hy19 => exact Or.inl ⟨by rfl, by intro wS hSw; (try dsimp only at hSw); go_simp; try first | (with_reducible rfl) | (simp only [*]; done) | omega⟩
                  try simp only [Act.put, List.setIfInBounds_toArray, List.set_cons_zero, List.set_cons_succ]
                  refine wpAnyH_ready (rs := [19]) (by kernel_rfl) (by simp) ?_
                  refine (AllReadyH.cons (o := ?bo20n19) ?bh20n19 (fun K hK => ?br20n19) AllReadyH.nil)
                  case bh20n19 => (simp only [List.getElem?_toArray, List.getElem?_cons_zero, List.getElem?_cons_succ]; rfl)
                  case br20n19 =>
                    go_simp
                    refine hK.out _ _ (trivial) (fun hHeld => ?_)
                    clear hK
                    refine wpAnyH_done (by kernel_rfl) ?_ _
                    go_wp2
                    go_ret
                    exact ⟨(unhide HT3).trans (unhide HF _ rfl).2, .inr ⟨x, _, _, unhide HLP, rfl, rfl, unhide HWI _ (unhide HF _ rfl)⟩⟩
      case br9n8 =>
        go_simp
        refine hK.out _ _ (trivial) (fun hHeld => ?_)
        clear hK
        refine wpAnyH_take (i := 10) (oi := ?oo21) (v := ?vv21) ?hi21 (by kernel_rfl) (by kernel_rfl) (by kernel_rfl) ?hQ21 ?hy21 (by assumption) ?rest21
        case hi21 => (simp only [List.getElem?_toArray, List.getElem?_cons_zero, List.getElem?_cons_succ]; rfl)
        case hQ21 => exact fun _ _ _ h => h
        case hy21 => exact Or.inl ⟨by rfl, by intro wS hSw; (try dsimp only at hSw); go_simp; try first | (with_reducible rfl) | (simp only [*]; done) | omega⟩
        try simp only [Act.put, List.setIfInBounds_toArray, List.set_cons_zero, List.set_cons_succ]
        refine wpAnyH_ready (rs := [4, 11]) (by kernel_rfl) (by simp) ?_
        refine (AllReadyH.cons (o := ?bo22n4) ?bh22n4 (fun K hK => ?br22n4) (AllReadyH.cons (o := ?bo22n11) ?bh22n11 (fun K hK => ?br22n11) AllReadyH.nil))
        case bh22n4 => (simp only [List.getElem?_toArray, List.getElem?_cons_zero, List.getElem?_cons_succ]; rfl)
        case bh22n11 => (simp only [List.getElem?_toArray, List.getElem?_cons_zero, List.getElem?_cons_succ]; rfl)
        case br22n4 =>
          go_simp
          refine hK.out _ _ (trivial) (fun hHeld => ?_)
          clear hK
          refine wpAnyH_ready (rs := [11]) (by kernel_rfl) (by simp) ?_
          refine (AllReadyH.cons (o := ?bo23n11) ?bh23n11 (fun K hK => ?br23n11) AllReadyH.nil)
          case bh23n11 => (simp only [List.getElem?_toArray, List.getElem?_cons_zero, List.getElem?_cons_succ]; rfl)
          case br23n11 =>
            go_simp
            refine hK.out _ _ (trivial) (fun hHeld => ?_)
            clear hK
            refine wpAnyH_take (i := 12) (oi := ?oo24) (v := ?vv24) ?hi24 (by kernel_rfl) (by kernel_rfl) (by kernel_rfl) ?hQ24 ?hy24 (by assumption) ?rest24
            case hi24 => (simp only [List.getElem?_toArray, List.getElem?_cons_zero, List.getElem?_cons_succ]; rfl)
            case hQ24 => exact fun _ _ _ h => h
            case hy24 => exact Or.inl ⟨by rfl, by intro wS hSw; (try dsimp only at hSw); go_simp; try first | (with_reducible rfl) | (simp only [*]; done) | omega⟩
            try simp only [Act.put, List.setIfInBounds_toArray, List.set_cons_zero, List.set_cons_succ]
            refine wpAnyH_take (i := 13) (oi := ?oo25) (v := ?vv25) ?hi25 (by kernel_rfl) (by kernel_rfl) (by kernel_rfl) ?hQ25 ?hy25 (by assumption) ?rest25
            case hi25 => (simp only [List.getElem?_toArray, List.getElem?_cons_zero, List.getElem?_cons_succ]; rfl)
            case hQ25 => exact fun _ _ _ h => h
            case hy25 => exact Or.inl ⟨by rfl, by intro wS hSw; (try dsimp only at hSw); go_simp; try first | (with_reducible rfl) | (simp only [*]; done) | omega⟩
            try simp only [Act.put, List.setIfInBounds_toArray, List.set_cons_zero, List.set_cons_succ]
            refine wpAnyH_ready (rs := [14]) (by kernel_rfl) (by simp) ?_
            refine (AllReadyH.cons (o := ?bo26n14) ?bh26n14 (fun K hK => ?br26n14) AllReadyH.nil)
            case bh26n14 => (simp only [List.getElem?_toArray, List.getElem?_cons_zero, List.getElem?_cons_succ]; rfl)
            case br26n14 =>
              go_simp
              refine hK.out _ _ (trivial) (fun hHeld => ?_)
              clear hK
              refine wpAnyH_ready (rs := [15]) (by kernel_rfl) (by simp) ?_
              refine (AllReadyH.cons (o := ?bo27n15) ?bh27n15 (fun K hK => ?br27n15) AllReadyH.nil)
              case bh27n15 => (simp only [List.getElem?_toArray, List.getElem?_cons_zero, List.getElem?_cons_succ]; rfl)
              case br27n15 =>
                go_simp
                refine hK.out _ _ (trivial) (fun hHeld => ?_)
                clear hK
                refine wpAnyH_ready (rs := [16]) (by kernel_rfl) (by simp) ?_
                refine (AllReadyH.cons (o := ?bo28n16) ?bh28n16 (fun K hK => ?br28n16) AllReadyH.nil)
                case bh28n16 => (simp only [List.getElem?_toArray, List.getElem?_cons_zero, List.getElem?_cons_succ]; rfl)
                case br28n16 =>
                  rw [if_pos (by rfl)]
                  refine wpo_append (s := .tmp 50) (x := .tmp 61) (t := 58) (by rfl) (by rfl) (by rfl) hr ?_
                  refine hK.out _ _ (trivial) (fun hHeld => ?_)
                  clear hK
                  refine wpAnyH_take (i := 17) (oi := ?oo29) (v := ?vv29) ?hi29 (by kernel_rfl) (by kernel_rfl) (by kernel_rfl) ?hQ29 ?hy29 (by assumption) ?rest29
                  case hi29 => (simp only [List.getElem?_toArray, List.getElem?_cons_zero, List.getElem?_cons_succ]; rfl)
                  case hQ29 => exact fun _ _ _ h => h
                  case hy29 => exact Or.inl ⟨by rfl, by intro wS hSw; (try dsimp only at hSw); go_simp; try first | (with_reducible rfl) | (simp only [*]; done) | omega⟩
                  try simp only [Act.put, List.setIfInBounds_toArray, List.set_cons_zero, List.set_cons_succ]
                  refine wpAnyH_take (i := 18) (oi := ?oo30) (v := ?vv30) ?hi30 (by kernel_rfl) (by kernel_rfl) (by kernel_rfl) ?hQ30 ?hy30 (by assumption) ?rest30
                  case hi30 => (simp only [List.getElem?_toArray, List.getElem?_cons_zero, List.getElem?_cons_succ]; rfl)
                  case hQ30 => exact fun _ _ _ h => h
                  case hy30 => exact Or.inl ⟨by rfl, by intro wS hSw; (try dsimp only at hSw); go_simp; try first | (with_reducible rfl) | (simp only [*]; done) | omega⟩
                  try simp only [Act.put, List.setIfInBounds_toArray, List.set_cons_zero, List.set_cons_succ]
                  refine wpAnyH_ready (rs := [19]) (by kernel_rfl) (by simp) ?_
                  refine (AllReadyH.cons (o := ?bo31n19) ?bh31n19 (fun K hK => ?br31n19) AllReadyH.nil)
                  case bh31n19 => (simp only [List.getElem?_toArray, List.getElem?_cons_zero, List.getElem?_cons_succ]; rfl)
                  case br31n19 =>
                    go_simp
                    refine hK.out _ _ (trivial) (fun hHeld => ?_)
                    clear hK
                    refine wpAnyH_done (by kernel_rfl) ?_ _
                    go_wp2
                    go_ret
                    exact ⟨(unhide HT3).trans (unhide HF _ rfl).2, .inr ⟨x, _, _, unhide HLP, rfl, rfl, unhide HWI _ (unhide HF _ rfl)⟩⟩
        case br22n11 =>
          go_simp
          refine hK.out _ _ (trivial) (fun hHeld => ?_)
          clear hK
          refine wpAnyH_take (i := 12) (oi := ?oo32) (v := ?vv32) ?hi32 (by kernel_rfl) (by kernel_rfl) (by kernel_rfl) ?hQ32 ?hy32 (by assumption) ?rest32
          case hi32 => (simp only [List.getElem?_toArray, List.getElem?_cons_zero, List.getElem?_cons_succ]; rfl)
          case hQ32 => exact fun _ _ _ h => h
          case hy32 => exact Or.inl ⟨by rfl, by intro wS hSw; (try dsimp only at hSw); go_simp; try first | (with_reducible rfl) | (simp only [*]; done) | omega⟩
          try simp only [Act.put, List.setIfInBounds_toArray, List.set_cons_zero, List.set_cons_succ]
          refine wpAnyH_take (i := 13) (oi := ?oo33) (v := ?vv33) ?hi33 (by kernel_rfl) (by kernel_rfl) (by kernel_rfl) ?hQ33 ?hy33 (by assumption) ?rest33
          case hi33 => (simp only [List.getElem?_toArray, List.getElem?_cons_zero, List.getElem?_cons_succ]; rfl)
          case hQ33 => exact fun _ _ _ h => h
          case hy33 => exact Or.inl ⟨by rfl, by intro wS hSw; (try dsimp only at hSw); go_simp; try first | (with_reducible rfl) | (simp only [*]; done) | omega⟩
          try simp only [Act.put, List.setIfInBounds_toArray, List.set_cons_zero, List.set_cons_succ]
          refine wpAnyH_ready (rs := [4, 14]) (by kernel_rfl) (by simp) ?_
          refine (AllReadyH.cons (o := ?bo34n4) ?bh34n4 (fun K hK => ?br34n4) (AllReadyH.cons (o := ?bo34n14) ?bh34n14 (fun K hK => ?br34n14) AllReadyH.nil))
          case bh34n4 => (simp only [List.getElem?_toArray, List.getElem?_cons_zero, List.getElem?_cons_succ]; rfl)
          case bh34n14 => (simp only [List.getElem?_toArray, List.getElem?_cons_zero, List.getElem?_cons_succ]; rfl)
          case br34n4 =>
            go_simp
            refine hK.out _ _ (trivial) (fun hHeld => ?_)
            clear hK
            refine wpAnyH_ready (rs := [14]) (by kernel_rfl) (by simp) ?_
            refine (AllReadyH.cons (o := ?bo35n14) ?bh35n14 (fun K hK => ?br35n14) AllReadyH.nil)
            case bh35n14 => (simp only [List.getElem?_toArray, List.getElem?_cons_zero, List.getElem?_cons_succ]; rfl)
            case br35n14 =>
              go_simp
              refine hK.out _ _ (trivial) (fun hHeld => ?_)
              clear hK
              refine wpAnyH_ready (rs := [15]) (by kernel_rfl) (by simp) ?_
              refine (AllReadyH.cons (o := ?bo36n15) ?bh36n15 (fun K hK => ?br36n15) AllReadyH.nil)
              case bh36n15 => (simp only [List.getElem?_toArray, List.getElem?_cons_zero, List.getElem?_cons_succ]; rfl)
              case br36n15 =>
                go_simp
                refine hK.out _ _ (trivial) (fun hHeld => ?_)
                clear hK
                refine wpAnyH_ready (rs := [16]) (by kernel_rfl) (by simp) ?_
                refine (AllReadyH.cons (o := ?bo37n16) ?bh37n16 (fun K hK => ?br37n16) AllReadyH.nil)
                case bh37n16 => (simp only [List.getElem?_toArray, List.getElem?_cons_zero, List.getElem?_cons_succ]; rfl)
                case br37n16 =>
                  rw [if_pos (by rfl)]
                  refine wpo_append (s := .tmp 50) (x := .tmp 61) (t := 58) (by rfl) (by rfl) (by rfl) hr ?_
                  refine hK.out _ _ (trivial) (fun hHeld => ?_)
                  clear hK
                  refine wpAnyH_take (i := 17) (oi := ?oo38) (v := ?vv38) ?hi38 (by kernel_rfl) (by kernel_rfl) (by kernel_rfl) ?hQ38 ?hy38 (by assumption) ?rest38
                  case hi38 => (simp only [List.getElem?_toArray, List.getElem?_cons_zero, List.getElem?_cons_succ]; rfl)
                  case hQ38 => exact fun _ _ _ h => h
                  case hy38 => exact Or.inl ⟨by rfl, by intro wS hSw; (try dsimp only at hSw); go_simp; try first | (with_reducible rfl) | (simp only [*]; done) | omega⟩
                  try simp only [Act.put, List.setIfInBounds_toArray, List.set_cons_zero, List.set_cons_succ]
                  refine wpAnyH_take (i := 18) (oi := ?oo39) (v := ?vv39) ?hi39 (by kernel_rfl) (by kernel_rfl) (by kernel_rfl) ?hQ39 ?hy39 (by assumption) ?rest39
                  case hi39 => (simp only [List.getElem?_toArray, List.getElem?_cons_zero, List.getElem?_cons_succ]; rfl)
                  case hQ39 => exact fun _ _ _ h => h
                  case hy39 => exact Or.inl ⟨by rfl, by intro wS hSw; (try dsimp only at hSw); go_simp; try first | (with_reducible rfl) | (simp only [*]; done) | omega⟩
                  try simp only [Act.put, List.setIfInBounds_toArray, List.set_cons_zero, List.set_cons_succ]
                  refine wpAnyH_ready (rs := [19]) (by kernel_rfl) (by simp) ?_
                  refine (AllReadyH.cons (o := ?bo40n19) ?bh40n19 (fun K hK => ?br40n19) AllReadyH.nil)
                  case bh40n19 => (simp only [List.getElem?_toArray, List.getElem?_cons_zero, List.getElem?_cons_succ]; rfl)
                  case br40n19 =>
                    go_simp
                    refine hK.out _ _ (trivial) (fun hHeld => ?_)
                    clear hK
                    refine wpAnyH_done (by kernel_rfl) ?_ _
                    go_wp2
                    go_ret
                    exact ⟨(unhide HT3).trans (unhide HF _ rfl).2, .inr ⟨x, _, _, unhide HLP, rfl, rfl, unhide HWI _ (unhide HF _ rfl)⟩⟩
          case br34n14 =>
            go_simp
            refine hK.out _ _ (trivial) (fun hHeld => ?_)
            clear hK
            refine wpAnyH_ready (rs := [4, 15]) (by kernel_rfl) (by simp) ?_
            refine (AllReadyH.cons (o := ?bo41n4) ?bh41n4 (fun K hK => ?br41n4) (AllReadyH.cons (o := ?bo41n15) ?bh41n15 (fun K hK => ?br41n15) AllReadyH.nil))
            case bh41n4 => (simp only [List.getElem?_toArray, List.getElem?_cons_zero, List.getElem?_cons_succ]; rfl)
            case bh41n15 => (simp only [List.getElem?_toArray, List.getElem?_cons_zero, List.getElem?_cons_succ]; rfl)
            case br41n4 =>
              go_simp
              refine hK.out _ _ (trivial) (fun hHeld => ?_)
              clear hK
              refine wpAnyH_ready (rs := [15]) (by kernel_rfl) (by simp) ?_
              refine (AllReadyH.cons (o := ?bo42n15) ?bh42n15 (fun K hK => ?br42n15) AllReadyH.nil)
              case bh42n15 => (simp only [List.getElem?_toArray, List.getElem?_cons_zero, List.getElem?_cons_succ]; rfl)
              case br42n15 =>
                go_simp
                refine hK.out _ _ (trivial) (fun hHeld => ?_)
                clear hK
                refine wpAnyH_ready (rs := [16]) (by kernel_rfl) (by simp) ?_
                refine (AllReadyH.cons (o := ?bo43n16) ?bh43n16 (fun K hK => ?br43n16) AllReadyH.nil)
                case bh43n16 => (simp only [List.getElem?_toArray, List.getElem?_cons_zero, List.getElem?_cons_succ]; rfl)
                case br43n16 =>
                  rw [if_pos (by rfl)]
                  refine wpo_append (s := .tmp 50) (x := .tmp 61) (t := 58) (by rfl) (by rfl) (by rfl) hr ?_
                  refine hK.out _ _ (trivial) (fun hHeld => ?_)
                  clear hK
                  refine wpAnyH_take (i := 17) (oi := ?oo44) (v := ?vv44) ?hi44 (by kernel_rfl) (by kernel_rfl) (by kernel_rfl) ?hQ44 ?hy44 (by assumption) ?rest44
                  case hi44 => (simp only [List.getElem?_toArray, List.getElem?_cons_zero, List.getElem?_cons_succ]; rfl)
                  case hQ44 => exact fun _ _ _ h => h
                  case hy44 => exact Or.inl ⟨by rfl, by intro wS hSw; (try dsimp only at hSw); go_simp; try first | (with_reducible rfl) | (simp only [*]; done) | omega⟩
                  try simp only [Act.put, List.setIfInBounds_toArray, List.set_cons_zero, List.set_cons_succ]
                  refine wpAnyH_take (i := 18) (oi := ?oo45) (v := ?vv45) ?hi45 (by kernel_rfl) (by kernel_rfl) (by kernel_rfl) ?hQ45 ?hy45 (by assumption) ?rest45
                  case hi45 => (simp only [List.getElem?_toArray, List.getElem?_cons_zero, List.getElem?_cons_succ]; rfl)
                  case hQ45 => exact fun _ _ _ h => h
                  case hy45 => exact Or.inl ⟨by rfl, by intro wS hSw; (try dsimp only at hSw); go_simp; try first | (with_reducible rfl) | (simp only [*]; done) | omega⟩
                  try simp only [Act.put, List.setIfInBounds_toArray, List.set_cons_zero, List.set_cons_succ]
                  refine wpAnyH_ready (rs := [19]) (by kernel_rfl) (by simp) ?_
                  refine (AllReadyH.cons (o := ?bo46n19) ?bh46n19 (fun K hK => ?br46n19) AllReadyH.nil)
                  case bh46n19 => (simp only [List.getElem?_toArray, List.getElem?_cons_zero, List.getElem?_cons_succ]; rfl)
                  case br46n19 =>
                    go_simp
                    refine hK.out _ _ (trivial) (fun hHeld => ?_)
                    clear hK
                    refine wpAnyH_done (by kernel_rfl) ?_ _
                    go_wp2
                    go_ret
                    exact ⟨(unhide HT3).trans (unhide HF _ rfl).2, .inr ⟨x, _, _, unhide HLP, rfl, rfl, unhide HWI _ (unhide HF _ rfl)⟩⟩
            case br41n15 =>
              go_simp
              refine hK.out _ _ (trivial) (fun hHeld => ?_)
              clear hK
              refine wpAnyH_ready (rs := [4]) (by kernel_rfl) (by simp) ?_
              refine (AllReadyH.cons (o := ?bo47n4) ?bh47n4 (fun K hK => ?br47n4) AllReadyH.nil)
              case bh47n4 => (simp only [List.getElem?_toArray, List.getElem?_cons_zero, List.getElem?_cons_succ]; rfl)
              case br47n4 =>
                go_simp
                refine hK.out _ _ (trivial) (fun hHeld => ?_)
                clear hK
                refine wpAnyH_ready (rs := [16]) (by kernel_rfl) (by simp) ?_
                refine (AllReadyH.cons (o := ?bo48n16) ?bh48n16 (fun K hK => ?br48n16) AllReadyH.nil)
                case bh48n16 => (simp only [List.getElem?_toArray, List.getElem?_cons_zero, List.getElem?_cons_succ]; rfl)
                case br48n16 =>
                  rw [if_pos (by rfl)]
                  refine wpo_append (s := .tmp 50) (x := .tmp 61) (t := 58) (by rfl) (by rfl) (by rfl) hr ?_
                  refine hK.out _ _ (trivial) (fun hHeld => ?_)
                  clear hK
                  refine wpAnyH_take (i := 17) (oi := ?oo49) (v := ?vv49) ?hi49 (by kernel_rfl) (by kernel_rfl) (by kernel_rfl) ?hQ49 ?hy49 (by assumption) ?rest49
                  case hi49 => (simp only [List.getElem?_toArray, List.getElem?_cons_zero, List.getElem?_cons_succ]; rfl)
                  case hQ49 => exact fun _ _ _ h => h
                  case hy49 => exact Or.inl ⟨by rfl, by intro wS hSw; (try dsimp only at hSw); go_simp; try first | (with_reducible rfl) | (simp only [*]; done) | omega⟩
                  try simp only [Act.put, List.setIfInBounds_toArray, List.set_cons_zero, List.set_cons_succ]
                  refine wpAnyH_take (i := 18) (oi := ?oo50) (v := ?vv50) ?hi50 (by kernel_rfl) (by kernel_rfl) (by kernel_rfl) ?hQ50 ?hy50 (by assumption) ?rest50
                  case hi50 => (simp only [List.getElem?_toArray, List.getElem?_cons_zero, List.getElem?_cons_succ]; rfl)
                  case hQ50 => exact fun _ _ _ h => h
                  case hy50 => exact Or.inl ⟨by rfl, by intro wS hSw; (try dsimp only at hSw); go_simp; try first | (with_reducible rfl) | (simp only [*]; done) | omega⟩
                  try simp only [Act.put, List.setIfInBounds_toArray, List.set_cons_zero, List.set_cons_succ]
                  refine wpAnyH_ready (rs := [19]) (by kernel_rfl) (by simp) ?_
                  refine (AllReadyH.cons (o := ?bo51n19) ?bh51n19 (fun K hK => ?br51n19) AllReadyH.nil)
                  case bh51n19 => (simp only [List.getElem?_toArray, List.getElem?_cons_zero, List.getElem?_cons_succ]; rfl)
                  case br51n19 =>
                    go_simp
                    refine hK.out _ _ (trivial) (fun hHeld => ?_)
                    clear hK
                    refine wpAnyH_done (by kernel_rfl) ?_ _
                    go_wp2
                    go_ret
                    exact ⟨(unhide HT3).trans (unhide HF _ rfl).2, .inr ⟨x, _, _, unhide HLP, rfl, rfl, unhide HWI _ (unhide HF _ rfl)⟩⟩
      --REG5END
end Go.Proofs.Ytlhjhnjpmafceaa
