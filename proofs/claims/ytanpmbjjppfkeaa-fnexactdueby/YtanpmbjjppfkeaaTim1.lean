/-
  Timers of the specification.
-/
import Derived.Test.YtanpmbjjppfkeaaTim0
namespace Go.Proofs.Ytanpmbjjppfkeaa
open Go.ChangeShapes Go.WideShapes Go.ChangeAt Go.RowKit
set_option linter.unusedVariables false
set_option maxRecDepth 100000

theorem infoTimer2 : (Try.prog.info? 73).map (fun i => (i.zero, i.size, i.bytes)) = some (some (.agg #[.int .i64 0, .int .i64 0, .int .i64 0]), 3, 24) := by kernel_rfl
theorem timers_src {w : World} {S : Nat → Prop} {a : Option Addr} {n k : Nat} {l : List TimerD} (h : LAt 3 timerR w S (.slice a n k) l) : l = [] ∨ ∃ b o, a = some ⟨b, o, none⟩ ∧ b < w.heap.size ∧ ∀ j u, (l.flatMap timerC)[j]? = some u → w.cell? ((⟨b, o, none⟩ : Addr).add j) = some u := by
  obtain ⟨a', cap', e, hl, h⟩ := h
  injection e with e1 e2 e3
  subst e1
  rcases h with h | ⟨b, o, h1, h2, h3, h4⟩
  · exact .inl h
  · refine .inr ⟨b, o, h1, h2, flat_src (N := 3) timerC_len (by omega) (fun i x hx => ?_)⟩
    obtain ⟨cs, rfl, hin⟩ := h4 i x hx
    exact hin
theorem timers_one (l : List TimerD) : One (l.flatMap timerC) := by
  intro v hv
  obtain ⟨x, _, hx⟩ := List.mem_flatMap.1 hv
  simp only [timerC, List.mem_cons, List.not_mem_nil, or_false] at hx
  rcases hx with rfl | rfl | rfl <;> rfl
theorem run_appendN {P : Program} (w : World) (base : Nat) (t ty e : TypeId) (i : TypeInfo) (size : Nat) (ht : P.underlying t = some (.slice e)) (hi : P.info? e = some i) (v : Value) (n : Nat) (xs : List Value) (hown : w.ownsRow base e size v n xs) (k : Nat) :
    (Builtin.append_ #[t, t] ty #[v, .slice none 0 k]).run P w = .ok v w := by
  rcases hown.2 with ⟨rfl, _⟩ | ⟨g, cap, cur, rfl, _, _, hnc, _⟩
  · simp [Builtin.append_, run_underlying ht, sizeOf, typeInfo, hi, Builtin.lenOf, Builtin.firstCells]
  · simp [Builtin.append_, run_underlying ht, sizeOf, typeInfo, hi, Builtin.lenOf, Builtin.firstCells, loadCells, storeCells, hnc]
/-- A list of timers behind those that are there. -/
theorem app_all (w : World) (base : Nat) (S : Nat → Prop) (v : Value) (zs l : List TimerD) (a : Option Addr) (k : Nat) (hown : w.ownsRow base 73 3 v zs.length (cellsT zs)) (h : LAt 3 timerR w S (.slice a l.length k) l) (hn : zs.length + l.length ≤ 3145728) (hb : base ≤ w.heap.size) (ty : TypeId) :
    ∃ v' w', (Builtin.append_ #[30, 30] ty #[v, .slice a l.length k]).run Try.prog w = .ok v' w' ∧ w'.ownsRow base 73 3 v' (zs ++ l).length (cellsT (zs ++ l)) ∧ w.grownBy w' v.ownBlock := by
  obtain ⟨i, hi, hz, h2, h3⟩ := info_parts infoTimer2
  have hml : (3145728 : Nat) ≤ maxLen := by unfold maxLen; omega
  have ec : cellsT (zs ++ l) = cellsT zs ++ l.flatMap timerC := by simp [cellsT]
  rw [List.length_append, ec]
  rcases timers_src h with rfl | ⟨b, o, rfl, hbk, hsrc⟩
  · cases a with
    | none => exact ⟨v, w, run_appendN w base _ _ _ i 3 Try.underlying30 hi v _ _ hown k, by simpa using hown, ⟨rfl, rfl, rfl, Nat.le_refl _, fun _ _ _ => rfl⟩⟩
    | some ad =>
      obtain ⟨v', w', hr, how, hg, _⟩ := run_append2 (P := Try.prog) w base 30 ty 73 i _ 3 24 Try.underlying30 hi hz h2 h3 rfl (by omega) v zs.length (cellsT zs) hown ad 0 k [] rfl (by simp) (by simp) (by omega) (by omega) hb
      exact ⟨v', w', hr, by simpa using how, hg⟩
  · obtain ⟨v', w', hr, how, hg, _⟩ := run_append2 (P := Try.prog) w base 30 ty 73 i _ 3 24 Try.underlying30 hi hz h2 h3 rfl (by omega) v zs.length (cellsT zs) hown ⟨b, o, none⟩ l.length k (l.flatMap timerC) (flatMap_len _ _ timerC_len) hsrc (timers_one l) (by omega) (by omega) hb
    exact ⟨v', w', hr, how, hg⟩
theorem wpl_append_run4 {P : Program} (w : World) {ops : Array Oper} {rest : List Oper} {o : Oper} {a : Act} {Q : Exit → Act → World → Prop} (hgd : o.guard = none) (s x : Operand) (t : TypeId)
    (ho : o.op = .call { callee := .builtin .append, args := #[s, x], argTypes := #[t, t] }) (v u : Value) (hs : a.eval s = v) (hx : a.eval x = u) {v' : Value} {w' : World}
    (hr : (Builtin.append_ #[t, t] o.type #[v, u]).run P w = .ok v' w') (h : wpList P ops Q rest (a.put o.dst v') w') : wpList P ops Q (o :: rest) a w := by
  refine wpList_plain hgd fun K hK => ?_
  unfold Oper.wp execOp
  simp only [ho, resolve, invoke, builtin, Sem.run_bind, Sem.run_pure, Result.andThen_ok, List.map_toArray, List.map_cons, List.map_nil, hs, hx, hr]
  exact hK _ _ h
theorem flat_take {l : List (List TimerD)} {k : Nat} (h : k < l.length) : (l.take (k + 1)).flatten = (l.take k).flatten ++ l[k] := by
  rw [List.take_succ_eq_append_getElem h, List.flatten_append]
  simp
theorem flat_le (l : List (List TimerD)) (k : Nat) : (l.take k).flatten.length ≤ l.flatten.length := by
  have e : l.flatten = (l.take k).flatten ++ (l.drop k).flatten := by rw [← List.flatten_append, List.take_append_drop]
  rw [e, List.length_append]
  omega
/-- The wheel's box, and what has been laid together so far. -/
def LaidT (w wk : World) (cs : List Value) (o : Value) (zs : List TimerD) : Prop := wk.ownsRow (w.heap.size + 1) 73 3 o zs.length (cellsT zs) ∧ Held wk w.heap.size cs ∧ Below w.heap.size w wk
theorem LaidT.step {w wk w' : World} {cs : List Value} {o v' : Value} {zs ys : List TimerD} (h : LaidT w wk cs o zs) (how : w'.ownsRow (w.heap.size + 1) 73 3 v' ys.length (cellsT ys)) (hg : wk.grownBy w' o.ownBlock) : LaidT w w' cs v' ys :=
  ⟨how, h.2.1.turn (grown_turn hg) (fun e => by have := (h.1.lt _ e).1; omega), grown_below h.2.2 hg (fun q e => by have := (h.1.lt q e).1; omega) h.2.2.size⟩
set_option maxHeartbeats 4000000 in
theorem specTimers (x : WheelD) (S : Nat → Prop) (cs : List Value) (w : World) (h0 : wheelR w S cs x) (b0 : wheelBulk x ≤ 1048576) :
    Calls Try.prog 42 #[.agg cs.toArray] w fun e w' => ∃ v', e = .returned v' ∧ LOw 3 timerO w' (Within w.heap.size w'.heap.size) v' (allT x) ∧ Below w.heap.size w w' := by
  have hall := allT_len x b0
  obtain ⟨s0, s1, s2, rfl, g0, g1, g2⟩ := h0
  obtain ⟨a0, k0, rfl⟩ := g0.form
  obtain ⟨a1, k1, rfl⟩ := g1.form
  obtain ⟨a2, k2, rfl⟩ := g2.form
  have hl0 := bulkL_len timerSBulk x.near
  have hl1 := bulkL_len timerSBulk x.far
  have hln0 : x.near.length ≤ 1048576 := by unfold wheelBulk at b0; omega
  have hln1 : x.far.length ≤ 1048576 := by unfold wheelBulk at b0; omega
  have hAL : (allT x).length = x.near.flatten.length + x.far.flatten.length + x.rest.length := by unfold allT; rw [List.length_append, List.length_append]
  rw [hAL] at hall
  have HAL := hide hAL
  have H0 := hide g0
  have H1 := hide g1
  have H2 := hide g2
  clear g0 g1 g2 hAL hl0 hl1 b0
  have hst : Hid (LaidT w ((w.alloc (.cells #[.int .i64 x.now, .slice a0 x.near.length k0, .slice a1 x.far.length k1, .slice a2 x.rest.length k2] 32)).alloc (.cells #[] 73)) [.int .i64 x.now, .slice a0 x.near.length k0, .slice a1 x.far.length k1, .slice a2 x.rest.length k2] (.slice (some ⟨w.heap.size + 1, 0, none⟩) 0 0) []) := by
    have h1 := World.ownsRow_made (base := w.heap.size + 1) (e := 73) (size := 3) (w.alloc (.cells #[.int .i64 x.now, .slice a0 x.near.length k0, .slice a1 x.far.length k1, .slice a2 x.rest.length k2] 32)) #[] 0 (by simp) (by unfold maxLen; omega) rfl
    rw [show (w.alloc (.cells #[.int .i64 x.now, .slice a0 x.near.length k0, .slice a1 x.far.length k1, .slice a2 x.rest.length k2] 32)).heap.size = w.heap.size + 1 by simp] at h1
    exact hide ⟨h1, (Held.new w [.int .i64 x.now, .slice a0 x.near.length k0, .slice a1 x.far.length k1, .slice a2 x.rest.length k2] 32).keep (bnew _ _), bthen (bnew _ _) (bnew _ _)⟩
  go_enter Try.func42, Try.ntmps42
  go_wp2
  generalize hCS : [Value.int .i64 x.now, .slice a0 x.near.length k0, .slice a1 x.far.length k1, .slice a2 x.rest.length k2] = CS at hst
  have HCS := hide hCS
  clear hCS
  go_loopw [3, 4] (fun o i wk => ∃ k : Nat, k ≤ x.near.length ∧ i = .int .i64 k ∧ Hid (LaidT w wk CS o (x.near.take k).flatten)) (fun _ i _ => x.near.length - (intOf i).toNat)
  case atStart => exact ⟨0, Nat.zero_le _, rfl, hst⟩
  case round =>
    obtain ⟨k, hk, rfl, hgr⟩ := hrel
    clear hst
    obtain ⟨hown, hhe, hbl⟩ := unhide hgr
    have p1 : wr.cell? ⟨w.heap.size, 1, none⟩ = some (.slice a0 x.near.length k0) := hhe.2 1 _ (by rw [← unhide HCS]; rfl)
    have p2 : wr.cell? ⟨w.heap.size, 2, none⟩ = some (.slice a1 x.far.length k1) := hhe.2 2 _ (by rw [← unhide HCS]; rfl)
    have hbs := hhe.1
    by_cases hlt : k < x.near.length
    · have hki : (k : Int) < (x.near.length : Int) := by omega
      obtain ⟨b, o, cs, rfl, hbk, hSb, hcs, hin⟩ := (unhide H0).at k hlt
      have hin := hin.turn hbk (Below.turn hbl) (fun e => e)
      have HS := hide (flat_take hlt)
      have hfl := flat_le x.near (k + 1)
      rw [unhide HS, List.length_append] at hfl
      generalize x.near[k] = X at *
      obtain ⟨s3, rfl, y3⟩ := hcs
      obtain ⟨a3, k3, rfl⟩ := y3.form
      have c0 : wr.cell? ⟨b, o + k, none⟩ = some (.slice a3 X.length k3) := by have h := hin 0 _ rfl; simpa using h
      obtain ⟨v', w', hr, how, hg⟩ := app_all wr (w.heap.size + 1) S _ _ X a3 k3 hown (y3.keep timerR_keeps hbl) (by omega) (by omega) 30
      have HL := hide ((unhide hgr).step how hg)
      clear hin y3 how hg hown hhe hbl hgr hfl
      go_wp2_with (first | (at_builtin; refine wpl_append_run4 _ rfl (.tmp 14) (.tmp 19) 30 rfl _ _ rfl rfl hr ?_))
      go_roundw
      case rel => exact ⟨k + 1, by omega, by go_num, by rw [unhide HS]; exact HL⟩
      case measure => simp [intOf]; omega
    · have hki : ¬ (k : Int) < (x.near.length : Int) := by omega
      obtain rfl : k = x.near.length := by omega
      have hgr2 : Hid (LaidT w wr CS u3 (x.near.flatten ++ (x.far.take 0).flatten)) := hide (by have h := unhide hgr; rw [List.take_length] at h; simpa using h)
      clear hgr hown hhe hbl
      go_wp2
      clear p1 p2
      go_loopw [3, 5] (fun o i wk => ∃ k : Nat, k ≤ x.far.length ∧ i = .int .i64 k ∧ Hid (LaidT w wk CS o (x.near.flatten ++ (x.far.take k).flatten))) (fun _ i _ => x.far.length - (intOf i).toNat)
      case atStart => exact ⟨0, Nat.zero_le _, rfl, hgr2⟩
      case round =>
        obtain ⟨k, hk, rfl, hgr⟩ := hrel
        clear hgr2
        obtain ⟨hown, hhe, hbl⟩ := unhide hgr
        have p2 : wr.cell? ⟨w.heap.size, 2, none⟩ = some (.slice a1 x.far.length k1) := hhe.2 2 _ (by rw [← unhide HCS]; rfl)
        have p3 : wr.cell? ⟨w.heap.size, 3, none⟩ = some (.slice a2 x.rest.length k2) := hhe.2 3 _ (by rw [← unhide HCS]; rfl)
        have hbs := hhe.1
        by_cases hlt : k < x.far.length
        · have hki : (k : Int) < (x.far.length : Int) := by omega
          obtain ⟨b, o, cs, rfl, hbk, hSb, hcs, hin⟩ := (unhide H1).at k hlt
          have hin := hin.turn hbk (Below.turn hbl) (fun e => e)
          have HS := hide (flat_take hlt)
          have hfl := flat_le x.far (k + 1)
          rw [unhide HS, List.length_append] at hfl
          generalize x.far[k] = X at *
          obtain ⟨s3, rfl, y3⟩ := hcs
          obtain ⟨a3, k3, rfl⟩ := y3.form
          have c0 : wr.cell? ⟨b, o + k, none⟩ = some (.slice a3 X.length k3) := by have h := hin 0 _ rfl; simpa using h
          obtain ⟨v', w', hr, how, hg⟩ := app_all wr (w.heap.size + 1) S _ _ X a3 k3 hown (y3.keep timerR_keeps hbl) (by rw [List.length_append]; omega) (by omega) 30
          have HL := hide ((unhide hgr).step how hg)
          clear hin y3 how hg hown hhe hbl hgr hfl
          go_wp2_with (first | (at_builtin; refine wpl_append_run4 _ rfl (.tmp 28) (.tmp 33) 30 rfl _ _ rfl rfl hr ?_))
          go_roundw
          case rel => exact ⟨k + 1, by omega, by go_num, by rw [unhide HS, ← List.append_assoc]; exact HL⟩
          case measure => simp [intOf]; omega
        · have hki : ¬ (k : Int) < (x.far.length : Int) := by omega
          obtain rfl : k = x.far.length := by omega
          rw [List.take_length] at hown
          obtain ⟨v', w', hr, how, hg⟩ := app_all wr (w.heap.size + 1) S _ _ x.rest a2 k2 hown ((unhide H2).keep timerR_keeps hbl) (by rw [List.length_append]; omega) (by omega) 30
          have HL := hide ((unhide hgr).step how hg)
          clear how hg hown hhe hbl hgr
          go_wp2_with (first | (at_builtin; refine wpl_append_run4 _ rfl (.tmp 35) (.tmp 37) 30 rfl _ _ rfl rfl hr ?_))
          go_ret
          obtain ⟨how, _, hb⟩ := unhide HL
          exact ⟨_, rfl, (timers_done (zs := allT x) how (by rw [unhide HAL]; omega)).widens (fun q hq => ⟨by have := hq.1; omega, hq.2⟩), hb⟩
end Go.Proofs.Ytanpmbjjppfkeaa
