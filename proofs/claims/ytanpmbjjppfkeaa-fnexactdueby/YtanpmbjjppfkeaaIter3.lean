/-
  Timers of the program: all that is in a wheel, slot by slot.
-/
import Derived.Test.YtanpmbjjppfkeaaIter2
import Derived.Test.YtanpmbjjppfkeaaGrow2
import Derived.Maps.AppendAt
namespace Go.Proofs.Ytanpmbjjppfkeaa
open Go.RowKit Go.Shelf
set_option linter.unusedVariables false
set_option maxRecDepth 100000
attribute [local go_sem] Oper.semAt_some

def timerC (x : TimerD) : List Value := [.int .i64 x.id, .int .i64 x.trace, .int .i64 x.due]
def cellsT (l : List TimerD) : List Value := l.flatMap timerC
theorem cellsT_snoc (l : List TimerD) (x : TimerD) : cellsT (l ++ [x]) = cellsT l ++ timerC x := by simp [cellsT]
def tl {w0 : World} {S : Nat → Prop} (pre : List (Int × Int × Slot w0 S)) : List TimerD := pre.flatMap (fun x => x.2.2.1.2)
theorem tl_snoc {w0 : World} {S : Nat → Prop} (pre : List (Int × Int × Slot w0 S)) (x : Int × Int × Slot w0 S) : tl (pre ++ [x]) = tl pre ++ x.2.2.1.2 := by simp [tl]
theorem tl_len {w0 : World} {S : Nat → Prop} (pre : List (Int × Int × Slot w0 S)) : (tl pre).length ≤ pre.length * 1048576 := by
  unfold tl
  induction pre with
  | nil => simp
  | cons x r ih =>
    rw [List.flatMap_cons, List.length_append, List.length_cons]
    have := x.2.2.2.2
    omega
/-- A block of cells that is no row of timers stays as long as rows of timers grow. -/
def Lies (W : World) (B : Nat) (C : Array Value) (t : TypeId) : Prop := W.heap[B]? = some (.cells C t (0, 0))
theorem lies_own {β : Type} (B : Nat) (C : Array Value) (t : TypeId) : Own (fun (_ : β) W => Lies W B C t) := fun _ X Y row hs hg hrow =>
  (hg.block B (Array.getElem?_eq_some_iff.1 hs).1 (fun e => by obtain ⟨o, ho, hc⟩ := hrow B e.symm; rw [show X.heap[B]? = _ from hs] at ho; cases ho; cases hc)).trans hs
theorem Lies.alloc {W : World} {B : Nat} {C : Array Value} {t : TypeId} (h : Lies W B C t) (o : Obj) : Lies (W.alloc o) B C t := (heap_alloc_old W o B (Array.getElem?_eq_some_iff.1 h).1).trans h
theorem Lies.set {W : World} {B B' : Nat} {C : Array Value} {t : TypeId} (h : Lies W B C t) (hne : B ≠ B') (v : Value) : Lies (W.setCell ⟨B', 0, none⟩ v) B C t := (Below.heap_setCell _ _ _ _ hne).trans h
theorem Lies.grown {W W' : World} {B n0 k : Nat} {C : Array Value} {t e : TypeId} {size : Nat} {v : Value} {xs : List Value} (h : Lies W B C t) (hte : t ≠ e) (hrow : W.ownsRow n0 e size v k xs) (hg : W.grownBy W' v.ownBlock) : Lies W' B C t := by
  refine (hg.block B (Array.getElem?_eq_some_iff.1 h).1 (fun e' => ?_)).trans h
  rcases hrow.2 with ⟨rfl, _⟩ | ⟨g, cap, cur, rfl, _, hgb, _⟩
  · simp [Value.ownBlock] at e'
  · simp [Value.ownBlock] at e'
    subst e'
    rw [show W.heap[B]? = _ from h] at hgb
    injection hgb with h1
    injection h1 with _ h2 _
    exact hte h2
theorem Lies.cell {W : World} {B : Nat} {C : Array Value} {t : TypeId} (h : Lies W B C t) (i : Nat) (v : Value) (hv : C[i]? = some v) : W.cell? ⟨B, i, none⟩ = some v := by simp [World.cell?, show W.heap[B]? = _ from h, hv]
theorem lit_cells5 (w : World) (cs : List Value) (t : TypeId) : ∀ j u, cs[j]? = some u → (w.alloc (.cells cs.toArray t)).cell? ((⟨w.heap.size, 0, none⟩ : Addr).add j) = some u := by
  intro j u hu
  have e : (⟨w.heap.size, 0, none⟩ : Addr).add j = ⟨w.heap.size, j, none⟩ := by unfold Addr.add; split <;> simp_all
  rw [e, World.cell?_alloc_at _ _ _ _ rfl]
  simpa using hu
theorem infoTimer : (Try.prog.info? 73).map (fun i => (i.zero, i.size, i.bytes)) = some (some (.agg #[.int .i64 0, .int .i64 0, .int .i64 0]), 3, 24) := by kernel_rfl
theorem kpB_t {n B : Nat} {X Y Z : World} (h : KpB n B X Y) (k : KpB n B Y Z) : KpB n B X Z := h.trans k
theorem kpB_b {n B : Nat} {w : World} (hn : n ≤ w.heap.size) (hB : B < w.heap.size) (W : World) (l : Nat) (o o' : Obj) (hl : w.heap.size ≤ l) (h : W.heap[l]? = some o) (h1 : o.isCells = false) (h2 : o.isWalk = false) : KpB n B W (W.putObj l o') :=
  ⟨belowK_b hn W l o o' hl h h1 h2, World.putObj_heap_other (fun e => by omega)⟩
set_option maxRecDepth 100000 in
set_option maxHeartbeats 8000000 in
theorem Timers_in (F : Fence) (n : Nat) (h25 : F.fn 45) (h47 : F.fn 66) (h58 : F.fn 84) (h48 : F.fn 67) (h59 : F.fn 85) (hro : F.round = none) (hn : 6 ≤ n)
    (now : Int) (aN aF aR : Option Addr) (mN cN mF cF mR cR : Nat) (S : Nat → Prop) (w : World) (nS fS : List (Slot w S)) (rS : Slot w S) (eR : rS.1.1 = .slice aR mR cR)
    (hmN : mN = nS.length) (hmF : mF = fS.length) (hlN : mN ≤ 1048576) (hlF : mF ≤ 1048576)
    (hN : ∀ (k : Nat) (hk : k < nS.length), ∃ b o, aN = some ⟨b, o, none⟩ ∧ b < w.heap.size ∧ w.cell? ⟨b, o + k, none⟩ = some nS[k].1.1)
    (hF : ∀ (k : Nat) (hk : k < fS.length), ∃ b o, aF = some ⟨b, o, none⟩ ∧ b < w.heap.size ∧ w.cell? ⟨b, o + k, none⟩ = some fS[k].1.1) :
    CallsIn F n Try.prog 45 #[.agg #[.int .i64 now, .slice aN mN cN, .slice aF mF cF, .slice aR mR cR]] w fun e W' => ∃ v, e = .returned v ∧ W'.ownsRow w.heap.size 73 3 v (tl (places 0 nS ++ places 1 fS ++ [(2, 0, rS)])).length (cellsT (tl (places 0 nS ++ places 1 fS ++ [(2, 0, rS)]))) ∧ Below w.heap.size w W' := by
  have h1 : 1 ≤ n := by omega
  obtain ⟨i0, hi, hz0, hz1, hz2⟩ := info_parts infoTimer
  have HM := hide (And.intro hmN (And.intro hmF eR))
  have hnl : nS.length + fS.length + 1 ≤ 2097153 := by omega
  clear hmN hmF eR
  refine callsIn_of_wp_marks Try.func45 rfl h25 ?_ hro
  simp only [Try.ntmps45, List.size_toArray, List.length_cons, List.length_nil, Nat.reduceAdd, Nat.reduceSub, Array.replicate_succ, Array.replicate_zero, List.push_toArray, List.append_toArray, List.nil_append, List.cons_append]
  gi_wp2_with (gi_at_call 66; refine (slotsOf_in F (n - 1) h47 hro _ _ _ _ _ _ _ _ _ _ _).mono ?_; rintro e w' ⟨rfl, rfl⟩)
  obtain ⟨C, hC⟩ : ∃ C : Array Value, #[Value.int .i64 now, .slice aN mN cN, .slice aF mF cF, .slice aR mR cR] = C := ⟨_, rfl⟩
  have hCc : ∀ (i : Nat) (v : Value), [Value.int .i64 now, .slice aN mN cN, .slice aF mF cF, rS.1.1][i]? = some v → C[i]? = some v := by rw [← hC, (unhide HM).2.2]; intro i v hv; simpa using hv
  have bO := (Boxed.new ((w.alloc (.cells C 32)).alloc (.cells #[] 73)) 30 (.slice (some ⟨w.heap.size + 1, 0, none⟩) 0 0)).alloc (.cells C 32)
  have lN : Lies ((((w.alloc (.cells C 32)).alloc (.cells #[] 73)).alloc (.cells #[.slice (some ⟨w.heap.size + 1, 0, none⟩) 0 0] 30)).alloc (.cells C 32)) (w.heap.size + 1 + 1 + 1) C 32 := by
    have := heap_alloc_new (((w.alloc (.cells C 32)).alloc (.cells #[] 73)).alloc (.cells #[.slice (some ⟨w.heap.size + 1, 0, none⟩) 0 0] 30)) (.cells C 32)
    rw [show (((w.alloc (.cells C 32)).alloc (.cells #[] 73)).alloc (.cells #[.slice (some ⟨w.heap.size + 1, 0, none⟩) 0 0] 30)).heap.size = w.heap.size + 1 + 1 + 1 by simp] at this
    exact this
  have hrow0 : ((((w.alloc (.cells C 32)).alloc (.cells #[] 73)).alloc (.cells #[.slice (some ⟨w.heap.size + 1, 0, none⟩) 0 0] 30)).alloc (.cells C 32)).ownsRow w.heap.size 73 3 (.slice (some ⟨w.heap.size + 1, 0, none⟩) 0 0) 0 [] := by
    have := World.ownsRow_made (base := w.heap.size) (e := 73) (size := 3) (w.alloc (.cells C 32)) #[] 0 (by simp) (by unfold maxLen; omega) rfl
    rw [show (w.alloc (.cells C 32)).heap.size = w.heap.size + 1 by simp] at this
    exact (this.alloc _).alloc _
  have hB0 : Below w.heap.size w ((((w.alloc (.cells C 32)).alloc (.cells #[] 73)).alloc (.cells #[.slice (some ⟨w.heap.size + 1, 0, none⟩) 0 0] 30)).alloc (.cells C 32)) := bthen (bthen (bthen (bnew _ _) (bnew _ _)) (bnew _ _)) (bnew _ _)
  have hsz : ((((w.alloc (.cells C 32)).alloc (.cells #[] 73)).alloc (.cells #[.slice (some ⟨w.heap.size + 1, 0, none⟩) 0 0] 30)).alloc (.cells C 32)).heap.size = w.heap.size + 4 := by simp
  simp only [World.size_alloc] at bO
  rw [hC]
  obtain ⟨W0, hW0⟩ : ∃ W0, (((w.alloc (.cells C 32)).alloc (.cells #[] 73)).alloc (.cells #[.slice (some ⟨w.heap.size + 1, 0, none⟩) 0 0] 30)).alloc (.cells C 32) = W0 := ⟨_, rfl⟩
  rw [hW0] at bO lN hrow0 hB0 hsz ⊢
  clear hW0
  have hHe : Held W0 (w.heap.size + 1 + 1 + 1) [.int .i64 now, .slice aN mN cN, .slice aF mF cF, rS.1.1] := ⟨by omega, fun i v hv => lN.cell i v (hCc i v hv)⟩
  clear hC hCc
  refine wpIn_rangeFunc_ownH hro h1 (gf := 84) (lb := #[.pointer (some ⟨w.heap.size + 1 + 1 + 1, 0, none⟩)]) rfl h58 (enters_of Try.func84 (by kernel_rfl) rfl)
    (slots_stops F (n - 1) h58 hro (by omega) (w.heap.size + 1 + 1 + 1) w S now aN aF mN cN mF cF nS fS rS (unhide HM).1 (unhide HM).2.1 hlN hlF hN hF W0 hB0 hHe) kpB_t (kpB_b (by omega) (by omega)) (Below.refl _ _) (fun _ => rfl)
    (fun pre W => ((∃ v, Boxed W (w.heap.size + 1 + 1) 30 v ∧ W.ownsRow w.heap.size 73 3 v (tl pre).length (cellsT (tl pre)) ∧ True) ∧ Lies W (w.heap.size + 1 + 1 + 1) C 32) ∧ Below w.heap.size w W)
    (fun _ _ _ => False)
    (OwnFrom.and (OwnFrom.and (Own.from (holdsRow_own w.heap.size (w.heap.size + 1 + 1) 30 73 3 (fun pre => (tl pre).length) (fun pre => cellsT (tl pre)) (fun _ _ => True)) _) (Own.from (lies_own _ _ _) _)) (ownFrom_below (Nat.le_refl _) (by omega)))
    (fun _ _ _ _ _ hs _ _ => hs)
    ⟨⟨⟨_, bO, hrow0, trivial⟩, lN⟩, hB0⟩
    (fun x a' _ => a' = { tmps := #[.agg C, .pointer (some ⟨w.heap.size, 0, none⟩), .slice none 0 0, .pointer (some ⟨w.heap.size + 1 + 1, 0, none⟩), undef, x.2.2.1.1, undef, .slice (some ⟨w.heap.size + 1, 0, none⟩) 0 0, .agg C, .func (.func 84) #[] #[.pointer (some ⟨w.heap.size + 1 + 1 + 1, 0, none⟩)], .agg #[.int .i64 x.1, .int .i64 x.2.1], x.2.2.1.1, undef, undef, undef, undef, undef, undef, undef, undef], defers := [] })
    (fun _ _ _ _ _ _ hs _ _ => hs)
    ?assign ?body ?done ?stop
  case assign =>
    rintro l pre x W K hI hK
    dsimp only [slotE]
    gi_wp2
    exact hK _ _ (KeepsFrom.refl _ _) (KpB.refl _ _ _) hI rfl
  case body =>
    rintro l pre ⟨p, i, ⟨⟨sv, zs⟩, hA, hzl⟩⟩ a' W hl ⟨r, hr⟩ ⟨⟨⟨v, bO1, hrow1, _⟩, lN1⟩, hB1⟩ rfl hlt
    dsimp only at hA hzl ⊢
    obtain ⟨aX, cX, rfl⟩ := hA.form
    have htl := tl_len pre
    have h1' : 1 ≤ n - 1 - 1 := by omega
    have hsW := hB1.size
    have hml : (4398046511104 : Nat) ≤ maxLen := by unfold maxLen; omega
    gi_wp2_with (gi_at_call 67; refine (CallsIn.inRound l (each_in F (n - 1 - 1 - 1) h48 hro _ _ _ _ rfl _)).mono ?_; rintro e w' ⟨rfl, rfl⟩)
    have hr' : (W.alloc (.cells #[.slice aX zs.length cX] 110)).heap[l]? = some (.loop r) := (Below.heap_alloc W _ l (Array.getElem?_eq_some_iff.1 hr).1).trans hr
    have bN := Boxed.new W 110 (.slice aX zs.length cX)
    refine wpIn_rangeFunc_ownN (l₀ := l) (r₀ := r) rfl hr' h1' (gf := 85) (lb := #[.pointer (some ⟨W.heap.size, 0, none⟩)]) rfl h59 (enters_of Try.func85 (by kernel_rfl) rfl)
      ((each_stops F (n - 1 - 1 - 1) h59 hro (by omega) W.heap.size w S _ zs hA _ (hB1.trans ((bnew W _).mono hsW)) (by simp) bN.cell).inRound l) belowK_t (belowK_b (by simp; omega)) (Below.refl _ _) (fun _ => rfl)
      (fun pre' W' => ((∃ v, Boxed W' (w.heap.size + 1 + 1) 30 v ∧ W'.ownsRow w.heap.size 73 3 v (tl pre ++ pre').length (cellsT (tl pre ++ pre')) ∧ True) ∧ Lies W' (w.heap.size + 1 + 1 + 1) C 32) ∧ (Below w.heap.size W W' ∧ KeepsFrom W0.heap.size W W'))
      (fun _ _ _ => False)
      (OwnFrom.and (OwnFrom.and (Own.from (holdsRow_own w.heap.size (w.heap.size + 1 + 1) 30 73 3 (fun pre' => (tl pre ++ pre').length) (fun pre' => cellsT (tl pre ++ pre')) (fun _ _ => True)) _) (Own.from (lies_own _ _ _) _)) (OwnFrom.and (ownFrom_below hsW (by simp; omega)) (ownFrom_keepsFrom (by simp))))
      (fun _ _ _ _ _ hs _ _ => hs)
      ⟨⟨⟨v, bO1.alloc _, by rw [List.append_nil]; exact hrow1.alloc _, trivial⟩, lN1.alloc _⟩, (Below.refl _ W).alloc hsW _, (KeepsOthers.alloc _ _).from _⟩
      (fun t a'' W' => ∃ Bx, W'.heap[Bx]? = some (.cells #[.int .i64 t.id, .int .i64 t.trace, .int .i64 t.due] 73 (0, 0)) ∧ a'' = { tmps := #[.agg C, .pointer (some ⟨w.heap.size, 0, none⟩), .slice none 0 0, .pointer (some ⟨w.heap.size + 1 + 1, 0, none⟩), undef, .slice aX zs.length cX, .pointer (some ⟨Bx, 0, none⟩), .slice (some ⟨w.heap.size + 1, 0, none⟩) 0 0, .agg C, .func (.func 84) #[] #[.pointer (some ⟨w.heap.size + 1 + 1 + 1, 0, none⟩)], .agg #[.int .i64 p, .int .i64 i], .slice aX zs.length cX, .slice aX zs.length cX, .func (.func 85) #[] #[.pointer (some ⟨W.heap.size, 0, none⟩)], .agg #[.int .i64 t.id, .int .i64 t.trace, .int .i64 t.due], undef, undef, undef, undef, undef], defers := [] })
      (fun t a'' _ X Y row hs hg hr => by obtain ⟨Bx, h2, h3⟩ := hs; exact ⟨Bx, lies_own (β := Unit) Bx _ _ () X Y row h2 hg (fun r e => (hr r e).2), h3⟩)
      ?assign2 ?body2 ?done2 ?stop2
    case assign2 =>
      rintro l2 pre' t W' K ⟨⟨⟨v2, bO2, hrow2, _⟩, lN2⟩, hBW, hKF⟩ hK
      gi_wp2
      exact hK _ _ ((KeepsOthers.alloc _ _).from _) ((Below.refl _ W').alloc (Nat.le_trans hsW hBW.size) _) ⟨⟨⟨v2, bO2.alloc _, hrow2.alloc _, trivial⟩, lN2.alloc _⟩, hBW.alloc (Nat.le_trans hsW hBW.size) _, hKF.trans ((KeepsOthers.alloc _ _).from _)⟩ ⟨W'.heap.size, heap_alloc_new W' _, rfl⟩
    case body2 =>
      rintro l2 pre' t a'' W' _ _ ⟨⟨⟨v2, bO2, hrow2, _⟩, lN2⟩, hBW, hKF⟩ ⟨Bx, hX, rfl⟩ hlt2
      have cO := bO2.cell
      have d0 := Lies.cell hX 0 _ rfl
      have d1 := Lies.cell hX 1 _ rfl
      have d2 := Lies.cell hX 2 _ rfl
      have hs2 := Nat.le_trans hsW hBW.size
      have hpl : (tl pre ++ pre').length + 1 ≤ 4398046511104 := by rw [List.length_append]; omega
      gi_wp2_with (gi_at_builtin; refine wpListIn_append_own _ rfl _ _ 30 rfl w.heap.size 73 i0 (.agg #[.int .i64 0, .int .i64 0, .int .i64 0]) 3 24 Try.underlying30 hi hz0 hz1 hz2 rfl (by decide) _ _ _ rfl (hrow2.alloc _) ⟨W'.heap.size, 0, none⟩ 1 1 (timerC t) rfl rfl (lit_cells5 W' (timerC t) 73) (by intro u hu; simp only [timerC, List.mem_cons, List.not_mem_nil, or_false] at hu; rcases hu with rfl | rfl | rfl <;> rfl) (by omega) (by omega) (by simp; omega) ?_; intro v' w1 hown' hgrow _; obtain ⟨g', cap', rfl⟩ := ownsRow_succ hown'; obtain ⟨hv1, hv2, hr2, hk2, hb2⟩ := bO2.appended (by decide) hrow2 hs2 (by omega) hown' hgrow; have hc1 := hv1.cell; have hf1 := hv1.frozen)
      have lN3 := ((lN2.alloc _).grown (by decide) (hrow2.alloc _) hgrow).set (B' := w.heap.size + 1 + 1) (by omega) (.slice (some ⟨g', 0, none⟩) ((tl pre).length + pre'.length + 1) cap')
      simp only [List.length_append] at hv2 hr2 hk2 hb2
      exact ⟨hk2.from _, hb2, ⟨⟨⟨_, hv2, by rw [← List.append_assoc, cellsT_snoc]; simpa [Nat.add_assoc] using hr2, trivial⟩, lN3⟩, hBW.trans hb2, hKF.trans (hk2.from _)⟩⟩
    case done2 =>
      rintro ys' W' rfl ⟨⟨⟨v2, bO2, hrow2, _⟩, lN2⟩, hBW, hKF⟩
      gi_wp2
      exact ⟨hKF, ⟨hBW, lN2.trans lN1.symm⟩, ⟨⟨v2, bO2, by rw [tl_snoc]; exact hrow2, trivial⟩, lN2⟩, hB1.trans hBW⟩
    case stop2 =>
      rintro c pre' W' _ h
      exact h.elim
  case done =>
    rintro D zs W hD rfl ⟨⟨⟨v, bO1, hrow1, _⟩, lN1⟩, hB1⟩ hK
    have cO := bO1.cell
    gi_wp2
    refine ⟨by simp, .inl ⟨_, _, rfl, run_takeDeferred hK, ?_⟩⟩
    exact ⟨_, results_tmp rfl _ _ _, v, rfl, ownsRow_putObj hrow1 _ hK rfl, hB1.trans (belowK_b (w := w) (Nat.le_refl _) W D _ _ (by omega) hK rfl rfl)⟩
  case stop =>
    rintro D c pre W _ _ h _
    exact h.elim
end Go.Proofs.Ytanpmbjjppfkeaa
