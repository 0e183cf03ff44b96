/-
  WheelNew of the specification.
-/
import Derived.Test.YtombdjcgopfieabWNew0
namespace Go.Proofs.Ytombdjcgopfieab
open Go.ChangeShapes Go.WideShapes Go.ChangeAt Go.RowKit
set_option linter.unusedVariables false
set_option maxRecDepth 100000

/-- An empty list, wherever it lies. -/
def nilC (w : World) (S : Nat → Prop) (cs : List Value) (x : List TimerD) : Prop := x = [] ∧ ∃ a k, cs = [.slice a 0 k]
theorem nilC_keeps : Keeps nilC := fun _ _ _ _ _ _ _ _ h => h
theorem nilC_read (w : World) (S : Nat → Prop) (cs : List Value) (x : List TimerD) (h : nilC w S cs x) : timerSR w S cs x := by
  obtain ⟨rfl, a, k, rfl⟩ := h
  exact ⟨_, rfl, LAt.nil _ _ _ _ _ _⟩
theorem GrowX.other {t : TypeId} {base : Nat} {w w' : World} {v : Value} {l : List (List TimerD)} {css : List (List Value)} {T : Nat → Nat → Prop} {row : Option Nat} (h : GrowX 1 nilC t base w v l css T) (hg : w.grownBy w' row) (hne : v.ownBlock = none ∨ v.ownBlock ≠ row) : GrowX 1 nilC t base w' v l css T :=
  ⟨h.row.kept hg hne, h.len, fun i k hk => ⟨(h.off i k hk).1, Nat.lt_of_lt_of_le (h.off i k hk).2.1 hg.size, (h.off i k hk).2.2⟩, h.one, h.has⟩
theorem GrowL.other {t : TypeId} {base : Nat} {w w' : World} {v : Value} {l : List (List TimerD)} {row : Option Nat} (h : GrowL 1 nilC t base w v l) (hg : w.grownBy w' row) (hne : v.ownBlock = none ∨ v.ownBlock ≠ row) : GrowL 1 nilC t base w' v l := by
  obtain ⟨css, T, h⟩ := h
  exact ⟨css, T, h.other hg hne⟩
theorem GrowL.lt {t : TypeId} {base : Nat} {w : World} {v : Value} {l : List (List TimerD)} (h : GrowL 1 nilC t base w v l) : ∀ k, v.ownBlock = some k → base ≤ k ∧ k < w.heap.size := by
  obtain ⟨css, T, h⟩ := h
  exact h.row.lt
theorem GrowL.form {t : TypeId} {base : Nat} {w : World} {v : Value} {l : List (List TimerD)} (h : GrowL 1 nilC t base w v l) : ∃ a c, v = .slice a l.length c := by
  obtain ⟨css, T, h⟩ := h
  rcases h.row.2 with ⟨rfl, h0⟩ | ⟨g, cap, cur, rfl, _⟩
  · exact ⟨none, 0, by rw [h0]⟩
  · exact ⟨_, _, rfl⟩
theorem grown_set (w : World) (p : Addr) (u : Value) : w.grownBy (w.setCell p u) (some p.block) :=
  ⟨rfl, rfl, rfl, by simp [World.setCell], fun k hk hne => Below.heap_setCell _ _ _ _ (fun e => hne (by rw [e]))⟩
theorem nils_snoc (k : Nat) : nils k ++ [[]] = nils (k + 1) := by
  unfold nils
  rw [List.replicate_succ']
/-- Both lists of a wheel that is being made. -/
def Made (w wk : World) (k : Nat) : Prop := ∃ vN vF : Value, Held wk (w.heap.size + 1) [.int .i64 0, vN, vF, .slice none 0 0] ∧ WrAt wk (w.heap.size + 1) 0 4 ∧ WrAt wk w.heap.size 0 4 ∧
  GrowL 1 nilC 45 (w.heap.size + 2) wk vN (nils k) ∧ GrowL 1 nilC 45 (w.heap.size + 2) wk vF (nils k) ∧ (∀ g, vN.ownBlock = some g → vF.ownBlock ≠ some g) ∧ Below w.heap.size w wk
theorem infoTS1 : (Try.prog.info? 45).map (fun i => (i.zero, i.size, i.bytes)) = some (some (.slice none 0 0), 1, 24) := by kernel_rfl
theorem lit_cells3 (w : World) (cs : List Value) (t : TypeId) : ∀ j u, cs[j]? = some u → (w.alloc (.cells cs.toArray t)).cell? ((⟨w.heap.size, 0, none⟩ : Addr).add j) = some u := by
  intro j u hu
  have e : (⟨w.heap.size, 0, none⟩ : Addr).add j = ⟨w.heap.size, j, none⟩ := by unfold Addr.add; split <;> simp_all
  rw [e, World.cell?_alloc_at _ _ _ _ rfl]
  simpa using hu
/-- One append of an empty list, told whole: v grows, u stays. -/
theorem grow_one (w : World) (base k : Nat) (v u : Value) (hk : k ≤ 8) (hb : base ≤ w.heap.size) (hv : GrowL 1 nilC 45 base w v (nils k)) {m : Nat} (hu : GrowL 1 nilC 45 base w u (nils m)) (hd : ∀ g, v.ownBlock = some g → u.ownBlock ≠ some g) (ty : TypeId) :
    ∃ v' w', (Builtin.append_ #[47, 47] ty #[v, .slice (some ⟨w.heap.size + 1, 0, none⟩) 1 1]).run Try.prog ((w.alloc (.cells #[] 84)).alloc (.cells #[.slice (some ⟨w.heap.size, 0, none⟩) 0 0] 45)) = .ok v' w' ∧
      GrowL 1 nilC 45 base w' v' (nils (k + 1)) ∧ GrowL 1 nilC 45 base w' u (nils m) ∧ (∀ g, v'.ownBlock = some g → u.ownBlock ≠ some g) ∧ w.grownBy w' v.ownBlock := by
  obtain ⟨i, hi, hz, h2, h3⟩ := info_parts infoTS1
  have bb := bthen (bnew w (.cells #[] 84)) (bnew _ (.cells #[.slice (some ⟨w.heap.size, 0, none⟩) 0 0] 45))
  have hsz : ((w.alloc (.cells #[] 84)).alloc (.cells #[.slice (some ⟨w.heap.size, 0, none⟩) 0 0] 45)).heap.size = w.heap.size + 2 := by simp
  have hlit := lit_cells3 (w.alloc (.cells #[] 84)) [.slice (some ⟨w.heap.size, 0, none⟩) 0 0] 45
  rw [show (w.alloc (.cells #[] 84)).heap.size = w.heap.size + 1 by simp] at hlit
  generalize hW : (w.alloc (.cells #[] 84)).alloc (.cells #[.slice (some ⟨w.heap.size, 0, none⟩) 0 0] 45) = w2 at *
  obtain ⟨css, T, gx⟩ := hv
  have hml : (9 : Nat) ≤ maxLen := by unfold maxLen; omega
  have hln := nils_len k
  obtain ⟨v', w', hr, how, hg, hown⟩ := run_append2 (P := Try.prog) w2 base 47 ty 45 i _ 1 24 Try.underlying47 hi hz h2 h3 rfl (by omega) v (nils k).length css.flatten (owns_below gx.row bb) ⟨w.heap.size + 1, 0, none⟩ 1 1 [.slice (some ⟨w.heap.size, 0, none⟩) 0 0] rfl hlit (by intro q hq; simp at hq; subst hq; rfl) (by omega) (by omega) (by omega)
  have hst := GrowX.step nilC_keeps gx hb bb (S := fun _ => False) (x := []) ⟨rfl, _, _, rfl⟩ (fun _ e => e.elim) rfl how hg hown
  rw [nils_snoc] at hst
  have hne : u.ownBlock = none ∨ u.ownBlock ≠ v.ownBlock := by
    cases hu' : u.ownBlock with
    | none => exact .inl rfl
    | some g => exact .inr (fun e => hd g e.symm hu')
  have hu2 := hu.keep nilC_keeps bb
  refine ⟨v', w', hr, hst, hu2.other hg hne, fun g e => ?_, ⟨hg.os.trans bb.os, hg.tape.trans bb.tape, hg.output.trans bb.output, Nat.le_trans bb.size hg.size, fun q hq hn => (hg.block q (Nat.lt_of_lt_of_le hq bb.size) hn).trans (bb.block q hq)⟩⟩
  rcases hown with h | h
  · exact hd g (by rw [← h]; exact e)
  · intro e2
    rw [h, Option.some.injEq] at e
    have := (hu.lt g e2).2
    omega
theorem held_grown {w w' : World} {row : Option Nat} {b : Nat} {cs : List Value} (h : Held w b cs) (hg : w.grownBy w' row) (hne : row ≠ some b) : Held w' b cs := h.turn (grown_turn hg) hne
theorem wr_grown {w w' : World} {row : Option Nat} {b o n : Nat} (h : WrAt w b o n) (hg : w.grownBy w' row) (hne : row ≠ some b) : WrAt w' b o n := h.turn (grown_turn hg) hne
theorem wpl_append_run3 {P : Program} (w : World) {ops : Array Oper} {rest : List Oper} {o : Oper} {a : Act} {Q : Exit → Act → World → Prop} (hgd : o.guard = none) (s x : Operand) (t : TypeId)
    (ho : o.op = .call { callee := .builtin .append, args := #[s, x], argTypes := #[t, t] }) (v u : Value) (hs : a.eval s = v) (hx : a.eval x = u) {v' : Value} {w' : World}
    (hr : (Builtin.append_ #[t, t] o.type #[v, u]).run P w = .ok v' w') (h : wpList P ops Q rest (a.put o.dst v') w') : wpList P ops Q (o :: rest) a w := by
  refine wpList_plain hgd fun K hK => ?_
  unfold Oper.wp execOp
  simp only [ho, resolve, invoke, builtin, Sem.run_bind, Sem.run_pure, Result.andThen_ok, List.map_toArray, List.map_cons, List.map_nil, hs, hx, hr]
  exact hK _ _ h
set_option maxHeartbeats 4000000 in
theorem specWheelNew (w : World) :
    Calls Try.prog 33 #[] w fun e w' => ∃ cs', e = .returned (.agg cs'.toArray) ∧ wheelR w' (Within w.heap.size w'.heap.size) cs' newWheel ∧ Below w.heap.size w w' := by
  have hm0 : Hid (Made w ((w.alloc (.cells #[.int .i64 0, .slice none 0 0, .slice none 0 0, .slice none 0 0] 49)).alloc (.cells #[.int .i64 0, .slice none 0 0, .slice none 0 0, .slice none 0 0] 49)) 0) := by
    refine hide ⟨.slice none 0 0, .slice none 0 0, ?_, ?_, ?_, ⟨[], fun _ _ => False, ?_⟩, ⟨[], fun _ _ => False, ?_⟩, fun g e => by simp [Value.ownBlock] at e, bthen (bnew _ _) (bnew _ _)⟩
    · have := Held.new (w.alloc (.cells #[.int .i64 0, .slice none 0 0, .slice none 0 0, .slice none 0 0] 49)) [.int .i64 0, .slice none 0 0, .slice none 0 0, .slice none 0 0] 49; simpa using this
    · have := WrAt.new (w.alloc (.cells #[.int .i64 0, .slice none 0 0, .slice none 0 0, .slice none 0 0] 49)) #[.int .i64 0, .slice none 0 0, .slice none 0 0, .slice none 0 0] 49 4 rfl; simpa using this
    · exact (WrAt.new w #[.int .i64 0, .slice none 0 0, .slice none 0 0, .slice none 0 0] 49 4 rfl).keep (bnew _ _)
    · exact ⟨World.ownsRow_nil _ _ _ _, rfl, fun _ _ e => e.elim, fun _ _ _ e => e.elim, fun i x h => by simp [nils] at h⟩
    · exact ⟨World.ownsRow_nil _ _ _ _, rfl, fun _ _ e => e.elim, fun _ _ _ e => e.elim, fun i x h => by simp [nils] at h⟩
  go_enter Try.func33, Try.ntmps33
  go_wp2
  go_loopw [2] (fun i wk => ∃ k : Nat, k ≤ 8 ∧ i = .int .i64 k ∧ Hid (Made w wk k)) (fun i _ => 8 - (intOf i).toNat)
  case atStart => exact ⟨0, by omega, rfl, hm0⟩
  case round =>
    obtain ⟨k, hk, rfl, hm⟩ := hrel
    clear hm0
    by_cases hlt : k < 8
    · have hki : (k : Int) < 8 := by omega
      obtain ⟨vN, vF, P, V, R, GN, GF, hd, B⟩ := unhide hm
      obtain ⟨aN, cN, rfl⟩ := GN.form
      obtain ⟨aF, cF, rfl⟩ := GF.form
      have hbs := P.1
      have lN := GN.lt
      have lF := GF.lt
      obtain ⟨vN1, w1, hr1, GN1, GF1, hd1, hg1⟩ := grow_one wr (w.heap.size + 2) k _ _ (by omega) (by omega) GN GF hd 47
      obtain ⟨aN1, cN1, rfl⟩ := GN1.form
      simp only [nils_len] at *
      have nB : (Value.slice aN k cN).ownBlock ≠ some (w.heap.size + 1) := fun e => by have := (lN _ e).1; omega
      have nR : (Value.slice aN k cN).ownBlock ≠ some w.heap.size := fun e => by have := (lN _ e).1; omega
      have P1 := held_grown P hg1 nB
      have V1 := wr_grown V hg1 nB
      have R1 := wr_grown R hg1 nR
      have B1 := grown_below B hg1 (fun q e => by have := (lN q e).1; omega) (by omega)
      have q0 : ((wr.alloc (.cells #[] 84)).alloc (.cells #[.slice (some ⟨wr.heap.size, 0, none⟩) 0 0] 45)).cell? ⟨w.heap.size + 1, 1, none⟩ = some (.slice aN k cN) := by
        have bb := bthen (bnew wr (.cells #[] 84)) (bnew _ (.cells #[.slice (some ⟨wr.heap.size, 0, none⟩) 0 0] 45))
        exact (P.keep bb).2 1 _ rfl
      have q1 := P.2 1 _ rfl
      have q2 := P1.2 1 _ rfl
      have f2 := V1.free 1 (by omega)
      rw [Nat.zero_add] at f2
      have HM := hide (And.intro P1 (And.intro V1 (And.intro R1 (And.intro GN1 (And.intro GF1 (And.intro hd1 B1))))))
      clear P V R GN GF hd B lN lF P1 V1 R1 GN1 GF1 hd1 hg1 B1 hm nB nR
      go_upto_region 6 with (first | (at_builtin; refine wpl_append_run3 _ rfl (.tmp 9) (.tmp 11) 47 rfl _ _ rfl rfl hr1 ?_))
      clear q0 q1 q2 f2 hr1
      obtain ⟨P1, V1, R1, GN1, GF1, hd1, B1⟩ := unhide HM
      have hset := grown_set w1 ⟨w.heap.size + 1, 1, none⟩ (.slice aN1 (k + 1) cN1)
      have P2 : Held (w1.setCell ⟨w.heap.size + 1, 1, none⟩ (.slice aN1 (k + 1) cN1)) (w.heap.size + 1) [.int .i64 0, (.slice aN1 (k + 1) cN1), .slice aF k cF, .slice none 0 0] := P1.set 1 (.slice aN1 (k + 1) cN1) (by simp)
      have V2 := V1.set ⟨w.heap.size + 1, 1, none⟩ (.slice aN1 (k + 1) cN1)
      have R2 := wr_grown R1 hset (by simp)
      have lN := GN1.lt
      have lF := GF1.lt
      have off2 : ∀ u : Value, (∀ q, u.ownBlock = some q → w.heap.size + 2 ≤ q ∧ q < w1.heap.size) → u.ownBlock = none ∨ u.ownBlock ≠ some (w.heap.size + 1) := fun u h => by
        cases e : u.ownBlock with
        | none => exact .inl rfl
        | some g => exact .inr (fun e2 => by rw [Option.some.injEq] at e2; have := (h g e).1; omega)
      have GN2 := GN1.other hset (off2 _ lN)
      have GF2 := GF1.other hset (off2 _ lF)
      have B2 := grown_below B1 hset (fun q e => by rw [Option.some.injEq] at e; have : w.heap.size + 1 = q := e; omega) (by have := P1.1; omega)
      generalize hW2 : World.setCell w1 ⟨w.heap.size + 1, 1, none⟩ (.slice aN1 (k + 1) cN1) = w2 at *
      have hbs2 := P2.1
      have lN2 := GN2.lt
      have lF2 := GF2.lt
      obtain ⟨vF3, w3, hr3, GF3, GN3, hd3, hg3⟩ := grow_one w2 (w.heap.size + 2) k _ _ (by omega) (by omega) GF2 GN2 (fun g e e2 => hd1 g e2 e) 47
      obtain ⟨aF3, cF3, rfl⟩ := GF3.form
      simp only [nils_len] at *
      have nB : (Value.slice aF k cF).ownBlock ≠ some (w.heap.size + 1) := fun e => by have := (lF2 _ e).1; omega
      have nR : (Value.slice aF k cF).ownBlock ≠ some w.heap.size := fun e => by have := (lF2 _ e).1; omega
      have P3 := held_grown P2 hg3 nB
      have V3 := wr_grown V2 hg3 nB
      have R3 := wr_grown R2 hg3 nR
      have B3 := grown_below B2 hg3 (fun q e => by have := (lF2 q e).1; omega) (by omega)
      have q0 : ((w2.alloc (.cells #[] 84)).alloc (.cells #[.slice (some ⟨w2.heap.size, 0, none⟩) 0 0] 45)).cell? ⟨w.heap.size + 1, 2, none⟩ = some (.slice aF k cF) := by
        have bb := bthen (bnew w2 (.cells #[] 84)) (bnew _ (.cells #[.slice (some ⟨w2.heap.size, 0, none⟩) 0 0] 45))
        exact (P2.keep bb).2 2 _ rfl
      have q1 := P2.2 2 _ rfl
      have q2 := P3.2 2 _ rfl
      have f2 := V3.free 2 (by omega)
      rw [Nat.zero_add] at f2
      have HM3 := hide (And.intro P3 (And.intro V3 (And.intro R3 (And.intro GN3 (And.intro GF3 (And.intro hd3 B3))))))
      clear P1 V1 R1 GN1 GF1 hd1 B1 P2 V2 R2 GN2 GF2 B2 lN lF off2 hset lN2 lF2 P3 V3 R3 GN3 GF3 hd3 B3 hg3 nB nR HM hW2
      go_wp2_with (first | (at_builtin; refine wpl_append_run3 _ rfl (.tmp 15) (.tmp 17) 47 rfl _ _ rfl rfl hr3 ?_))
      go_roundw
      case rel =>
        obtain ⟨P3, V3, R3, GN3, GF3, hd3, B3⟩ := unhide HM3
        have hset := grown_set w3 ⟨w.heap.size + 1, 2, none⟩ (.slice aF3 (k + 1) cF3)
        have lN := GN3.lt
        have lF := GF3.lt
        have off3 : ∀ u : Value, (∀ q, u.ownBlock = some q → w.heap.size + 2 ≤ q ∧ q < w3.heap.size) → u.ownBlock = none ∨ u.ownBlock ≠ some (w.heap.size + 1) := fun u h => by
          cases e : u.ownBlock with
          | none => exact .inl rfl
          | some g => exact .inr (fun e2 => by rw [Option.some.injEq] at e2; have := (h g e).1; omega)
        exact ⟨k + 1, by omega, by go_num, hide ⟨(.slice aN1 (k + 1) cN1), (.slice aF3 (k + 1) cF3), P3.set 2 (.slice aF3 (k + 1) cF3) (by simp), V3.set _ _, wr_grown R3 hset (by simp), GN3.other hset (off3 _ lN), GF3.other hset (off3 _ lF), fun g e e2 => hd3 g e2 e, grown_below B3 hset (fun q e => by rw [Option.some.injEq] at e; have : w.heap.size + 1 = q := e; omega) (by have := P3.1; omega)⟩⟩
      case measure => simp [intOf]; omega
    · have hki : ¬ (k : Int) < 8 := by omega
      obtain rfl : k = 8 := by omega
      obtain ⟨vN, vF, P, V, R, GN, GF, hd, B⟩ := unhide hm
      have yN := (GN.done (by simp [nils])).read timerSR_widens nilC_read
      have yF := (GF.done (by simp [nils])).read timerSR_widens nilC_read
      obtain ⟨aN, kN, rfl⟩ := yN.form
      obtain ⟨aF, kF, rfl⟩ := yF.form
      simp only [nils_len] at *
      have tt := putL_turn w.heap.size 0 [.int .i64 0, .slice aN 8 kN, .slice aF 8 kF, .slice none 0 0] 0 wr
      have i6 := putL_at (b := w.heap.size) (o := 0) [.int .i64 0, .slice aN 8 kN, .slice aF 8 kF, .slice none 0 0] 0 R (by omega) (by simp)
      have zN := yN.turn timerSR_keeps tt (fun q hq e => by have := hq.1; omega)
      have zF := yF.turn timerSR_keeps tt (fun q hq e => by have := hq.1; omega)
      have B6 := B.trans (tt.belowFrom B.size (fun q hq => by omega))
      have hz := tt.size
      have HF := hide (And.intro i6 (And.intro zN (And.intro zF B6)))
      have c1 := P.inB
      clear tt i6 zN zF B6 yN yF GN GF hd B V hm P
      go_wp2_with (first | (refine wpl_load rfl 49 _ rfl _ 0 rfl _ c1 rowIWheel ?_) | (refine wpl_store_at rfl 49 _ _ rfl _ 0 [.int .i64 0, .slice aN 8 kN, .slice aF 8 kF, .slice none 0 0] rfl rfl R (by intro v hv; simp only [List.mem_cons, List.not_mem_nil, or_false] at hv; rcases hv with rfl | rfl | rfl | rfl <;> rfl) rowIWheel ?_))
      obtain ⟨i6, zN, zF, B6⟩ := unhide HF
      refine bodyPost_ret (v := .agg #[.int .i64 0, .slice aN 8 kN, .slice aF 8 kF, .slice none 0 0]) (res_row (t := 0) (cs := [.int .i64 0, .slice aN 8 kN, .slice aF 8 kF, .slice none 0 0]) rfl rfl i6 rowIWheel) rfl ⟨_, rfl, ⟨_, _, _, rfl, ?_, ?_, LAt.nil _ _ _ _ _ _⟩, B6⟩
      · exact zN.widens timerSR_widens (fun q hq => ⟨by have := hq.1; omega, by have := hq.2; omega⟩)
      · exact zF.widens timerSR_widens (fun q hq => ⟨by have := hq.1; omega, by have := hq.2; omega⟩)
end Go.Proofs.Ytombdjcgopfieab
