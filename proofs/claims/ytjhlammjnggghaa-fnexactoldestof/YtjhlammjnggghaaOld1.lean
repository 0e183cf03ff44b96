/-
  What adds a trail to the heap of OldestOf: the row grows by one, which then goes up past all that it is truly older than.
-/
import Derived.Test.YtjhlammjnggghaaOld0
import Derived.Test.YtjhlammjnggghaaQLoad
import Derived.RangeFuncBox
namespace Go.Proofs.Ytjhlammjnggghaa
open Go.ChangeShapes Go.WideShapes Go.ChangeAt Go.RowKit Go.Sort
set_option linter.unusedVariables false
set_option maxRecDepth 100000

theorem infoTrailO : (Try.prog.info? 44).map (fun i => (i.zero, i.size, i.bytes)) = some (some (.agg #[.int .i64 0, .int .i64 0, .int .i64 0, .slice none 0 0]), 4, 48) := by kernel_rfl
theorem plainTrailsO : PlainT Try.prog 28 := fun w a v h => by simp [loadVar, go_sem, h]
theorem wpo_loadO {P : Program} {op : Oper} {a : Act} {w : World} {K : Act → World → Prop} {Q : Exit → Act → World → Prop} (ty : TypeId) (x : Operand) (ho : op.op = .load ty x) (b o : Nat) (hx : a.eval x = .pointer (some ⟨b, o, none⟩)) (cs : List Value) (hh : InB w b o cs) (ht : RowT P ty cs.length)
    (h : K (a.put op.dst (.agg cs.toArray)) w) : Oper.wp P op a w K Q := by
  obtain ⟨d, hu, hd, hi⟩ := ht
  exact wp_load_mid ty x ho b o hx cs d hh hu hd hi h
theorem wpo_storeO {P : Program} {op : Oper} {a : Act} {w : World} {K : Act → World → Prop} {Q : Exit → Act → World → Prop} (ty : TypeId) (x y : Operand) (ho : op.op = .store ty x y)
    (b o : Nat) (cs : List Value) (hx : a.eval x = .pointer (some ⟨b, o, none⟩)) (hy : a.eval y = .agg cs.toArray) (hw : WrAt w b o cs.length) (h1 : One cs) (hi : RowT P ty cs.length)
    (h : K (a.put op.dst undef) (putL b o cs 0 w)) : Oper.wp P op a w K Q := by
  obtain ⟨d, hu, hd, hi⟩ := hi
  refine wp_store_mid ty x y ho b o cs.toArray hx hy (fun j hj => hw.2 j (by simpa using hj)) (by simpa using hi) (all_oneCell_toArray h1) ?_
  have e : ∀ (vs : List Value) (j : Nat) (w : World), w.setCells b (o + j) vs = putL b o vs j w := by
    intro vs
    induction vs with
    | nil => intro j w; rfl
    | cons v r ih => intro j w; exact ih (j + 1) _
  have e0 := e cs 0 w
  rw [Nat.add_zero] at e0
  simpa [e0] using h
theorem wpo_appendO {P : Program} {w : World} {o : Oper} {a : Act} {K : Act → World → Prop} {Q : Exit → Act → World → Prop} {s x : Operand} {t : TypeId} {v u v' : Value} {w' : World} (ho : o.op = .call { callee := .builtin .append, args := #[s, x], argTypes := #[t, t] })
    (hs : a.eval s = v) (hx : a.eval x = u) (hr : (Builtin.append_ #[t, t] o.type #[v, u]).run P w = .ok v' w') (h : K (a.put o.dst v') w') : Oper.wp P o a w K Q := by
  unfold Oper.wp execOp
  simp only [ho, resolve, invoke, builtin, Sem.run_bind, Sem.run_pure, Result.andThen_ok, List.map_toArray, List.map_cons, List.map_nil, hs, hx, hr]
  exact h
theorem lit_cellsO (w : World) (cs : List Value) (t : TypeId) : ∀ j u, cs[j]? = some u → (w.alloc (.cells cs.toArray t)).cell? ((⟨w.heap.size, 0, none⟩ : Addr).add j) = some u := by
  intro j u hu
  have e : (⟨w.heap.size, 0, none⟩ : Addr).add j = ⟨w.heap.size, j, none⟩ := by unfold Addr.add; split <;> simp_all
  rw [e, World.cell?_alloc_at _ _ _ _ rfl]
  simpa using hu
/-- A store into a row that the call owns. -/
theorem owns_setIn {w : World} {base : Nat} {e : TypeId} {size g n cap i : Nat} {xs : List Value} (h : w.ownsRow base e size (.slice (some ⟨g, 0, none⟩) n cap) n xs) (u : Value) :
    (w.setCell ⟨g, i, none⟩ u).ownsRow base e size (.slice (some ⟨g, 0, none⟩) n cap) n (xs.set i u) := by
  obtain ⟨h1, h2⟩ := h
  refine ⟨by rw [List.length_set]; exact h1, ?_⟩
  rcases h2 with ⟨h2, _⟩ | ⟨g2, cap2, cur, hv, hg, hh, hn, hc, hs, hx⟩
  · injection h2 with h2; cases h2
  · injection hv with hv1 hv2 hv3
    injection hv1 with hv1
    injection hv1 with hv1
    subst hv1
    subst hv3
    refine .inr ⟨g, cap, cur.setIfInBounds i u, rfl, hg, ?_, hn, hc, by simpa using hs, ?_⟩
    · obtain ⟨hlt, hk⟩ := Array.getElem?_eq_some_iff.1 hh
      show (w.heap.modify g _)[g]? = _
      rw [Array.getElem?_eq_getElem (by rw [Array.size_modify]; exact hlt), Array.getElem_modify_self, hk]
      rfl
    · rw [Array.toList_setIfInBounds, List.take_set, hx]
theorem owns_put4 {w : World} {base : Nat} {e : TypeId} {g n cap k : Nat} {ps : List (TrailD × Value)} (h : w.ownsRow base e 4 (.slice (some ⟨g, 0, none⟩) n cap) n (cellsP ps)) (p : TrailD × Value) (hk : k < ps.length) :
    (putL g (k * 4) (tc p) 0 w).ownsRow base e 4 (.slice (some ⟨g, 0, none⟩) n cap) n (cellsP (ps.set k p)) := by
  rw [← cellsP_set ps k p hk]
  exact owns_setIn (owns_setIn (owns_setIn (owns_setIn h (i := k * 4 + 0) (.int .i64 p.1.id)) (i := k * 4 + 1) (.int .i64 p.1.stamp)) (i := k * 4 + 2) (.int .i64 p.1.first)) (i := k * 4 + 3) p.2
theorem owns_in {w : World} {base : Nat} {e : TypeId} {g n cap k : Nat} {ps : List (TrailD × Value)} (h : w.ownsRow base e 4 (.slice (some ⟨g, 0, none⟩) n cap) n (cellsP ps)) {p : TrailD × Value} (hp : ps[k]? = some p) : InB w g (k * 4) (tc p) := by
  intro j u hu
  have hc := cellsP_at ps k p j u hp hu
  rcases h.2 with ⟨h2, _⟩ | ⟨g2, cap2, cur, hv, hg, hh, hn, hcp, hs, hx⟩
  · injection h2 with h2; cases h2
  · injection hv with hv1 hv2 hv3
    injection hv1 with hv1
    injection hv1 with hv1
    subst hv1
    rw [← hx] at hc
    rw [List.getElem?_take] at hc
    split at hc
    · rw [Array.getElem?_toList] at hc
      simp [World.cell?, hh, hc]
    · cases hc
theorem owns_wr {w : World} {base : Nat} {e : TypeId} {g n cap : Nat} {xs : List Value} (h : w.ownsRow base e 4 (.slice (some ⟨g, 0, none⟩) n cap) n xs) {k : Nat} (hk : k < n) : WrAt w g (k * 4) 4 := by
  rcases h.2 with ⟨h2, _⟩ | ⟨g2, cap2, cur, hv, hg, hh, hn, hcp, hs, hx⟩
  · injection h2 with h2; cases h2
  · injection hv with hv1 hv2 hv3
    injection hv1 with hv1
    injection hv1 with hv1
    subst hv1
    subst hv3
    refine ⟨(Array.getElem?_eq_some_iff.1 hh).1, fun j hj => ⟨?_, ?_⟩⟩
    · have hlt : k * 4 + j < cur.size := by rw [hs]; omega
      simp [World.cell?, hh, hlt]
    · simp [World.frozen?, hh]
theorem owns_lt {w : World} {base : Nat} {e : TypeId} {g n cap size : Nat} {xs : List Value} (h : w.ownsRow base e size (.slice (some ⟨g, 0, none⟩) n cap) n xs) : base ≤ g ∧ g < w.heap.size ∧ n ≤ cap ∧ cap ≤ maxLen := by
  rcases h.2 with ⟨h2, _⟩ | ⟨g2, cap2, cur, hv, hg, hh, hn, hcp, hs, hx⟩
  · injection h2 with h2; cases h2
  · injection hv with hv1 hv2 hv3
    injection hv1 with hv1
    injection hv1 with hv1
    subst hv1
    subst hv3
    exact ⟨hg, (Array.getElem?_eq_some_iff.1 hh).1, hn, hcp⟩
theorem owns_formO {w : World} {base : Nat} {e : TypeId} {size n : Nat} {v : Value} {xs : List Value} (h : w.ownsRow base e size v n xs) : ∃ a cap, v = .slice a n cap := by
  rcases h.2 with ⟨rfl, rfl⟩ | ⟨g, cap, _, rfl, _⟩
  · exact ⟨_, _, rfl⟩
  · exact ⟨_, _, rfl⟩
/-- What the row's trails are. -/
def Known (w0 : World) (S0 : Nat → Prop) (ps : List (TrailD × Value)) : Prop := ∀ p ∈ ps, LAt 6 spanR w0 S0 p.2 p.1.spans ∧ trailBulk p.1 ≤ 1048576
theorem Known.rd {w0 : World} {S0 : Nat → Prop} {ps : List (TrailD × Value)} (h : Known w0 S0 ps) {k : Nat} {p : TrailD × Value} (hp : ps[k]? = some p) {w : World} (hb : Below w0.heap.size w0 w) : trailR w S0 (tc p) p.1 ∧ trailBulk p.1 ≤ 1048576 := by
  have h1 := h p (List.mem_of_getElem? hp)
  exact ⟨trailR_keeps _ _ S0 None1 _ _ (Below.turn hb) none_off ⟨p.2, rfl, h1.1⟩, h1.2⟩
theorem Known.snoc {w0 : World} {S0 : Nat → Prop} {ps : List (TrailD × Value)} (h : Known w0 S0 ps) {p : TrailD × Value} (h1 : LAt 6 spanR w0 S0 p.2 p.1.spans) (h2 : trailBulk p.1 ≤ 1048576) : Known w0 S0 (ps ++ [p]) := by
  intro q hq
  rcases List.mem_append.1 hq with hq | hq
  · exact h q hq
  · rw [List.mem_singleton] at hq; subst hq; exact ⟨h1, h2⟩
theorem Known.set {w0 : World} {S0 : Nat → Prop} {ps : List (TrailD × Value)} (h : Known w0 S0 ps) {k : Nat} {p : TrailD × Value} (h1 : LAt 6 spanR w0 S0 p.2 p.1.spans) (h2 : trailBulk p.1 ≤ 1048576) : Known w0 S0 (ps.set k p) := by
  intro q hq
  rcases List.mem_or_eq_of_mem_set hq with hq | hq
  · exact h q hq
  · subst hq; exact ⟨h1, h2⟩
def AgeM (bp lo : Nat) (S0 : Nat → Prop) (w0 w : World) (ts : List TrailD) : Prop := lo ≤ bp ∧ ∃ v ps, Boxed w bp 145 v ∧ w.ownsRow lo 44 4 v ts.length (cellsP ps) ∧ ps.length = ts.length ∧ Known w0 S0 ps ∧ Rooted Prod.fst ps (bestL ts)
theorem AgeM.keep {bp lo : Nat} {S0 : Nat → Prop} {w0 w w' : World} {ts : List TrailD} (h : AgeM bp lo S0 w0 w ts) (hb : Below w.heap.size w w') : AgeM bp lo S0 w0 w' ts := by
  obtain ⟨h1, v, ps, h2, h3, h4, h5, h6⟩ := h
  exact ⟨h1, v, ps, (hb.block bp h2.lt).trans h2, owns_below h3 hb, h4, h5, h6⟩
def StO (bp lo n g cap : Nat) (S0 : Nat → Prop) (w0 wk : World) (ps : List (TrailD × Value)) (p : TrailD × Value) (qs : List (TrailD × Value)) (k : Nat) : Prop :=
  Boxed wk bp 145 (.slice (some ⟨g, 0, none⟩) (n + 1) cap) ∧ wk.ownsRow lo 44 4 (.slice (some ⟨g, 0, none⟩) (n + 1) cap) (n + 1) (cellsP qs) ∧ Below w0.heap.size w0 wk ∧ Known w0 S0 qs ∧ Going Prod.fst ps p qs k
theorem StO.fin {bp lo n g cap : Nat} {S0 : Nat → Prop} {w0 wk : World} {ts : List TrailD} {ps qs : List (TrailD × Value)} {p : TrailD × Value} {k : Nat} (h : StO bp lo n g cap S0 w0 wk ps p qs k) (hn : n = ts.length) (hpl : ps.length = ts.length) (hlo : lo ≤ bp) (hr : Rooted Prod.fst ps (bestL ts))
    (hs : k = 0 ∨ ∃ (a : Nat) (qa : TrailD × Value), a < k ∧ qs[a]? = some qa ∧ olderB p.1 qa.1 = false) : AgeM bp lo S0 w0 wk (ts ++ [p.1]) := by
  obtain ⟨h1, h2, h3, h4, h5⟩ := h
  subst hn
  refine ⟨hlo, _, qs, h1, by rw [List.length_append]; exact h2, by rw [h5.1, hpl, List.length_append]; rfl, h4, ?_⟩
  rw [bestL_snoc]
  exact h5.stop hr hs
theorem StO.keep {bp lo n g cap : Nat} {S0 : Nat → Prop} {w0 wk w' : World} {ps qs : List (TrailD × Value)} {p : TrailD × Value} {k : Nat} (h : StO bp lo n g cap S0 w0 wk ps p qs k) (hb : Below wk.heap.size wk w') : StO bp lo n g cap S0 w0 w' ps p qs k :=
  ⟨(hb.block bp h.1.lt).trans h.1, owns_below h.2.1 hb, h.2.2.1.trans (hb.mono h.2.2.1.size), h.2.2.2.1, h.2.2.2.2⟩
theorem StO.swap {bp lo n g cap : Nat} {S0 : Nat → Prop} {w0 wk : World} {ps qs : List (TrailD × Value)} {p qa : TrailD × Value} {k a : Nat} (h : StO bp lo n g cap S0 w0 wk ps p qs k) (hlo : w0.heap.size ≤ lo) (ha : a < k) (hk : k < n + 1) (hq : qs[a]? = some qa) (hpl : ps.length = n) (ho : olderB p.1 qa.1 = true) :
    StO bp lo n g cap S0 w0 (putL g (a * 4) (tc p) 0 (putL g (k * 4) (tc qa) 0 wk)) ps p ((qs.set k qa).set a p) a ∧
    (putL g (k * 4) (tc qa) 0 wk).cell? ⟨bp, 0, none⟩ = some (.slice (some ⟨g, 0, none⟩) (n + 1) cap) ∧ (putL g (a * 4) (tc p) 0 (putL g (k * 4) (tc qa) 0 wk)).cell? ⟨bp, 0, none⟩ = some (.slice (some ⟨g, 0, none⟩) (n + 1) cap) ∧
    WrAt (putL g (k * 4) (tc qa) 0 wk) g (a * 4) 4 := by
  obtain ⟨h1, h2, h3, h4, h5⟩ := h
  have hl : qs.length = n + 1 := by rw [h5.1, hpl]
  have hne : ¬ bp = g := fun e => h1.not_row (by decide) h2 (by rw [e]; rfl)
  have t1 := putL_turn g (k * 4) (tc qa) 0 wk
  have t2 := putL_turn g (a * 4) (tc p) 0 (putL g (k * 4) (tc qa) 0 wk)
  have r1 := owns_put4 h2 qa (by omega : k < qs.length)
  have r2 := owns_put4 r1 p (by rw [List.length_set]; omega : a < (qs.set k qa).length)
  have q1 := owns_lt h2
  have x1 : Boxed (putL g (k * 4) (tc qa) 0 wk) bp 145 (.slice (some ⟨g, 0, none⟩) (n + 1) cap) := (t1.2.2.2.2 bp h1.lt hne).trans h1
  have x2 : Boxed (putL g (a * 4) (tc p) 0 (putL g (k * 4) (tc qa) 0 wk)) bp 145 (.slice (some ⟨g, 0, none⟩) (n + 1) cap) := (t2.2.2.2.2 bp x1.lt hne).trans x1
  have hw := h3.size
  have b1 := h3.trans (t1.belowFrom hw (fun q e => by have e2 : q = g := e; omega))
  have b2 := b1.trans (t2.belowFrom b1.size (fun q e => by have e2 : q = g := e; omega))
  have kp := h4 p (List.mem_of_getElem? h5.2.2.1)
  have kq := h4 qa (List.mem_of_getElem? hq)
  exact ⟨⟨x2, r2, b2, (h4.set kq.1 kq.2).set kp.1 kp.2, h5.step (by omega) ha hq ho⟩, x1.cell, x2.cell, putL_wr _ _ (owns_wr h2 (by omega))⟩
def snocO (s : List TrailD) (t : TrailD) : List TrailD := s ++ [t]
set_option maxHeartbeats 4000000 in
theorem implAgesAdd (t : TrailD) (s : Value) (S0 : Nat → Prop) (bp : Nat) (w0 w : World) (ts : List TrailD) (h0 : LAt 6 spanR w0 S0 s t.spans) (b0 : trailBulk t ≤ 1048576) (hi : AgeM bp w0.heap.size S0 w0 w ts) (hb : Below w0.heap.size w0 w) (hlen : ts.length + 1 ≤ 1048577) :
    Calls Try.prog 113 #[.pointer (some ⟨bp, 0, none⟩), .agg (tc (t, s)).toArray] w fun e w' => e = .returned (.tuple #[]) ∧ AgeM bp w0.heap.size S0 w0 w' (snocO ts t) ∧ Below w0.heap.size w0 w' := by
  obtain ⟨sa, sk, rfl⟩ := h0.form
  have hone : One [.int .i64 t.id, .int .i64 t.stamp, .int .i64 t.first, .slice sa t.spans.length sk] := trailR_one (w := w0) (S := S0) (x := t) ⟨_, rfl, h0⟩
  have P0 := Held.new w [.int .i64 t.id, .int .i64 t.stamp, .int .i64 t.first, .slice sa t.spans.length sk] 44
  have b1 := bnew w (.cells [.int .i64 t.id, .int .i64 t.stamp, .int .i64 t.first, .slice sa t.spans.length sk].toArray 44)
  have hi1 := hi.keep b1
  have hbs := hb.size
  have hb1 := hb.trans (b1.mono hbs)
  have hmx : (1048577 : Nat) ≤ maxLen := by unfold maxLen; omega
  have HS := hide h0
  clear h0 hi hb
  unfold tc
  go_enter Try.func113, Try.ntmps113
  go_upto_region 1 with fail
  generalize w.alloc (.cells [.int .i64 t.id, .int .i64 t.stamp, .int .i64 t.first, .slice sa t.spans.length sk].toArray 44) = w1 at *
  obtain ⟨hlo, v, ps, hB, hrow, hpl, hkn, hroot⟩ := hi1
  have hdr : Below w1.heap.size w1 w1.drew := Below.drew (Below.refl _ _)
  have hs1 := b1.size
  have hP : Held w1.drew w.heap.size [.int .i64 t.id, .int .i64 t.stamp, .int .i64 t.first, .slice sa t.spans.length sk] := P0.keep hdr
  have hB1 : Boxed w1.drew bp 145 v := (hdr.block bp hB.lt).trans hB
  have hrow1 := owns_below hrow hdr
  have hbd := hb1.trans (hdr.mono (by omega))
  have HRT := hide (And.intro hpl (And.intro hlo hroot))
  go_cut [6] from 6 to 15 (fun c wc => c = .pointer (some ⟨bp, 0, none⟩) ∧ Hid (∃ g cap, StO bp w0.heap.size ts.length g cap S0 w0 wc ps (t, .slice sa t.spans.length sk) (ps ++ [(t, .slice sa t.spans.length sk)]) ps.length))
  case first =>
    refine wp_region_held_drew (S := fun _ => True) (by kernel_rfl) trivial (fun hHeld => ?_)
    generalize w.heap.size = pb at *
    generalize hD : w1.drew = wd at *
    clear hD hdr hB hrow P0 hb1 hs1 b1
    obtain ⟨av, kv, rfl⟩ := owns_formO hrow1
    have c0 := hB1.cell
    have c0a : (wd.alloc (.cells #[.int .i64 t.id, .int .i64 t.stamp, .int .i64 t.first, .slice sa t.spans.length sk] 44)).cell? ⟨bp, 0, none⟩ = some (.slice av ts.length kv) := by rw [World.cell?_alloc_lt _ _ _ hB1.lt]; exact c0
    have hPa : Held (wd.alloc (.cells #[.int .i64 t.id, .int .i64 t.stamp, .int .i64 t.first, .slice sa t.spans.length sk] 44)) pb [.int .i64 t.id, .int .i64 t.stamp, .int .i64 t.first, .slice sa t.spans.length sk] := hP.keep (bnew wd _)
    have hrow2 := owns_below hrow1 (bnew wd (.cells #[.int .i64 t.id, .int .i64 t.stamp, .int .i64 t.first, .slice sa t.spans.length sk] 44))
    obtain ⟨i0, hi, hz0, hz1, hz2⟩ := info_parts infoTrailO
    have hbds := hbd.size
    obtain ⟨v', w3, hr, how, hg, hv⟩ := run_append2 (P := Try.prog) (wd.alloc (.cells #[.int .i64 t.id, .int .i64 t.stamp, .int .i64 t.first, .slice sa t.spans.length sk] 44)) w0.heap.size 28 28 44 i0 _ 4 48 Try.underlying28 hi hz0 hz1 hz2 rfl (by decide) _ _ _ hrow2 ⟨wd.heap.size, 0, none⟩ 1 1 [.int .i64 t.id, .int .i64 t.stamp, .int .i64 t.first, .slice sa t.spans.length sk] rfl
      (lit_cellsO wd [.int .i64 t.id, .int .i64 t.stamp, .int .i64 t.first, .slice sa t.spans.length sk] 44) hone (by omega) (by omega) (by have := (bnew wd (.cells #[.int .i64 t.id, .int .i64 t.stamp, .int .i64 t.first, .slice sa t.spans.length sk] 44)).size; omega)
    rw [show cellsP ps ++ [.int .i64 t.id, .int .i64 t.stamp, .int .i64 t.first, .slice sa t.spans.length sk] = cellsP (ps ++ [(t, .slice sa t.spans.length sk)]) from (cellsP_snoc ps (t, .slice sa t.spans.length sk)).symm] at how
    obtain ⟨g, cap, rfl⟩ := ownsRow_succ how
    obtain ⟨hv1, hv2, hr2, _, hb2⟩ := hB1.appended (by decide) hrow1 (by omega) hlo how hg
    have c3 := hv1.cell
    have f3 := hv1.frozen
    have hbe := hbd.trans hb2
    have hgo := Going.start (f := Prod.fst) (t, Value.slice sa t.spans.length sk) hroot
    have hkn2 := hkn.snoc (p := (t, .slice sa t.spans.length sk)) (unhide HS) b0
    have HST : Hid (StO bp w0.heap.size ts.length g cap S0 w0 (w3.setCell ⟨bp, 0, none⟩ (.slice (some ⟨g, 0, none⟩) (ts.length + 1) cap)) ps (t, .slice sa t.spans.length sk) (ps ++ [(t, .slice sa t.spans.length sk)]) ps.length) := hide ⟨hv2, hr2, hbe, hkn2, hgo⟩
    clear hv1 hv2 hr2 how hg hv hrow1 hrow2 hB1 hbd hbe hgo hkn2 hkn hb2 hi hz0 hz1 hz2 hbds
    refine wpAnyH_take (i := 0) (oi := ?oo1) (v := ?vv1) ?hi1 (by kernel_rfl) (by kernel_rfl) (by kernel_rfl) ?hQ1 ?hy1 (by assumption) ?rest1
    case hi1 => (simp only [List.getElem?_toArray, List.getElem?_cons_zero]; rfl)
    case hQ1 => exact fun _ _ _ h => h
    case hy1 => exact Or.inl ⟨by rfl, by intro wS hSw; (try dsimp only at hSw); go_simp; try first | (with_reducible rfl) | (simp only [*]; done) | omega⟩
    try simp only [Act.put, List.setIfInBounds_toArray, List.set_cons_zero, List.set_cons_succ]
    refine wpAnyH_take (i := 1) (oi := ?oo2) (v := ?vv2) ?hi2 (by kernel_rfl) (by kernel_rfl) (by kernel_rfl) ?hQ2 ?hy2 (by assumption) ?rest2
    case hi2 => (simp only [List.getElem?_toArray, List.getElem?_cons_zero, List.getElem?_cons_succ]; rfl)
    case hQ2 => exact fun _ _ _ h => h
    case hy2 => exact Or.inl ⟨by rfl, by intro wS hSw; (try dsimp only at hSw); go_simp; try first | (with_reducible rfl) | (simp only [*]; done) | omega⟩
    try simp only [Act.put, List.setIfInBounds_toArray, List.set_cons_zero, List.set_cons_succ]
    refine wpAnyH_take (i := 2) (oi := ?oo3) (v := ?vv3) ?hi3 (by kernel_rfl) (by kernel_rfl) (by kernel_rfl) ?hQ3 ?hy3 (by assumption) ?rest3
    case hi3 => (simp only [List.getElem?_toArray, List.getElem?_cons_zero, List.getElem?_cons_succ]; rfl)
    case hQ3 => exact fun _ _ _ h => h
    case hy3 => exact Or.inl ⟨by rfl, by intro wS hSw; (try dsimp only at hSw); go_simp; try first | (with_reducible rfl) | (simp only [*]; done) | omega⟩
    try simp only [Act.put, List.setIfInBounds_toArray, List.set_cons_zero, List.set_cons_succ]
    refine wpAnyH_take (i := 3) (oi := ?oo4) (v := ?vv4) ?hi4 (by kernel_rfl) (by kernel_rfl) (by kernel_rfl) ?hQ4 ?hy4 (by assumption) ?rest4
    case hi4 => (simp only [List.getElem?_toArray, List.getElem?_cons_zero, List.getElem?_cons_succ]; rfl)
    case hQ4 => exact fun _ _ _ h => h
    case hy4 => exact Or.inl ⟨by rfl, by intro wS hSw; (try dsimp only at hSw); go_simp; try first | (with_reducible rfl) | (simp only [*]; done) | omega⟩
    try simp only [Act.put, List.setIfInBounds_toArray, List.set_cons_zero, List.set_cons_succ]
    refine wpAnyH_ready (rs := [4, 5]) (by kernel_rfl) (by simp) ?_
    refine (AllReadyH.cons (o := ?bo5n4) ?bh5n4 (fun K hK => ?br5n4) (AllReadyH.cons (o := ?bo5n5) ?bh5n5 (fun K hK => ?br5n5) AllReadyH.nil))
    case bh5n4 => (simp only [List.getElem?_toArray, List.getElem?_cons_zero, List.getElem?_cons_succ]; rfl)
    case bh5n5 => (simp only [List.getElem?_toArray, List.getElem?_cons_zero, List.getElem?_cons_succ]; rfl)
    case br5n4 =>
      go_simp
      refine hK.out _ _ (trivial) (fun hHeld => ?_)
      clear hK
      refine wpAnyH_ready (rs := [5]) (by kernel_rfl) (by simp) ?_
      refine (AllReadyH.cons (o := ?bo6n5) ?bh6n5 (fun K hK => ?br6n5) AllReadyH.nil)
      case bh6n5 => (simp only [List.getElem?_toArray, List.getElem?_cons_zero, List.getElem?_cons_succ]; rfl)
      case br6n5 =>
        rw [if_pos (by rfl)]
        refine wpo_loadO 44 _ rfl pb 0 rfl [.int .i64 t.id, .int .i64 t.stamp, .int .i64 t.first, .slice sa t.spans.length sk] (Held.inB (by assumption)) rowITrail ?_
        refine hK.out _ _ (trivial) (fun hHeld => ?_)
        clear hK
        refine wpAnyH_ready (rs := [6]) (by kernel_rfl) (by simp) ?_
        refine (AllReadyH.cons (o := ?bo7n6) ?bh7n6 (fun K hK => ?br7n6) AllReadyH.nil)
        case bh7n6 => (simp only [List.getElem?_toArray, List.getElem?_cons_zero, List.getElem?_cons_succ]; rfl)
        case br7n6 =>
          go_simp
          refine hK.out _ _ (trivial) (fun hHeld => ?_)
          clear hK
          refine wpAnyH_ready (rs := [7]) (by kernel_rfl) (by simp) ?_
          refine (AllReadyH.cons (o := ?bo8n7) ?bh8n7 (fun K hK => ?br8n7) AllReadyH.nil)
          case bh8n7 => (simp only [List.getElem?_toArray, List.getElem?_cons_zero, List.getElem?_cons_succ]; rfl)
          case br8n7 =>
            rw [if_pos (by rfl)]
            refine wpo_appendO (s := .tmp 10) (x := .tmp 12) (t := 28) (by rfl) (by rfl) (by rfl) hr ?_
            refine hK.out _ _ (trivial) (fun hHeld => ?_)
            clear hK
            refine wpAnyH_take (i := 8) (oi := ?oo9) (v := ?vv9) ?hi9 (by kernel_rfl) (by kernel_rfl) (by kernel_rfl) ?hQ9 ?hy9 (by assumption) ?rest9
            case hi9 => (simp only [List.getElem?_toArray, List.getElem?_cons_zero, List.getElem?_cons_succ]; rfl)
            case hQ9 => exact fun _ _ _ h => h
            case hy9 => exact Or.inl ⟨by rfl, by intro wS hSw; (try dsimp only at hSw); go_simp; try first | (with_reducible rfl) | (simp only [*]; done) | omega⟩
            try simp only [Act.put, List.setIfInBounds_toArray, List.set_cons_zero, List.set_cons_succ]
            refine wpAnyH_take (i := 9) (oi := ?oo10) (v := ?vv10) ?hi10 (by kernel_rfl) (by kernel_rfl) (by kernel_rfl) ?hQ10 ?hy10 (by assumption) ?rest10
            case hi10 => (simp only [List.getElem?_toArray, List.getElem?_cons_zero, List.getElem?_cons_succ]; rfl)
            case hQ10 => exact fun _ _ _ h => h
            case hy10 => exact Or.inl ⟨by rfl, by intro wS hSw; (try dsimp only at hSw); go_simp; try first | (with_reducible rfl) | (simp only [*]; done) | omega⟩
            try simp only [Act.put, List.setIfInBounds_toArray, List.set_cons_zero, List.set_cons_succ]
            refine wpAnyH_ready (rs := [10]) (by kernel_rfl) (by simp) ?_
            refine (AllReadyH.cons (o := ?bo11n10) ?bh11n10 (fun K hK => ?br11n10) AllReadyH.nil)
            case bh11n10 => (simp only [List.getElem?_toArray, List.getElem?_cons_zero, List.getElem?_cons_succ]; rfl)
            case br11n10 =>
              go_simp
              refine hK.out _ _ (trivial) (fun hHeld => ?_)
              clear hK
              refine wpAnyH_done (by kernel_rfl) ?_ _
              clear hr c0 c0a hP hPa
              go_wp2
              go_meet
              exact ⟨rfl, hide ⟨g, cap, unhide HST⟩⟩
    case br5n5 =>
      rw [if_pos (by rfl)]
      refine wpo_loadO 44 _ rfl pb 0 rfl [.int .i64 t.id, .int .i64 t.stamp, .int .i64 t.first, .slice sa t.spans.length sk] (Held.inB (by assumption)) rowITrail ?_
      refine hK.out _ _ (trivial) (fun hHeld => ?_)
      clear hK
      refine wpAnyH_ready (rs := [4, 6]) (by kernel_rfl) (by simp) ?_
      refine (AllReadyH.cons (o := ?bo12n4) ?bh12n4 (fun K hK => ?br12n4) (AllReadyH.cons (o := ?bo12n6) ?bh12n6 (fun K hK => ?br12n6) AllReadyH.nil))
      case bh12n4 => (simp only [List.getElem?_toArray, List.getElem?_cons_zero, List.getElem?_cons_succ]; rfl)
      case bh12n6 => (simp only [List.getElem?_toArray, List.getElem?_cons_zero, List.getElem?_cons_succ]; rfl)
      case br12n4 =>
        go_simp
        refine hK.out _ _ (trivial) (fun hHeld => ?_)
        clear hK
        refine wpAnyH_ready (rs := [6]) (by kernel_rfl) (by simp) ?_
        refine (AllReadyH.cons (o := ?bo13n6) ?bh13n6 (fun K hK => ?br13n6) AllReadyH.nil)
        case bh13n6 => (simp only [List.getElem?_toArray, List.getElem?_cons_zero, List.getElem?_cons_succ]; rfl)
        case br13n6 =>
          go_simp
          refine hK.out _ _ (trivial) (fun hHeld => ?_)
          clear hK
          refine wpAnyH_ready (rs := [7]) (by kernel_rfl) (by simp) ?_
          refine (AllReadyH.cons (o := ?bo14n7) ?bh14n7 (fun K hK => ?br14n7) AllReadyH.nil)
          case bh14n7 => (simp only [List.getElem?_toArray, List.getElem?_cons_zero, List.getElem?_cons_succ]; rfl)
          case br14n7 =>
            rw [if_pos (by rfl)]
            refine wpo_appendO (s := .tmp 10) (x := .tmp 12) (t := 28) (by rfl) (by rfl) (by rfl) hr ?_
            refine hK.out _ _ (trivial) (fun hHeld => ?_)
            clear hK
            refine wpAnyH_take (i := 8) (oi := ?oo15) (v := ?vv15) ?hi15 (by kernel_rfl) (by kernel_rfl) (by kernel_rfl) ?hQ15 ?hy15 (by assumption) ?rest15
            case hi15 => (simp only [List.getElem?_toArray, List.getElem?_cons_zero, List.getElem?_cons_succ]; rfl)
            case hQ15 => exact fun _ _ _ h => h
            case hy15 => exact Or.inl ⟨by rfl, by intro wS hSw; (try dsimp only at hSw); go_simp; try first | (with_reducible rfl) | (simp only [*]; done) | omega⟩
            try simp only [Act.put, List.setIfInBounds_toArray, List.set_cons_zero, List.set_cons_succ]
            refine wpAnyH_take (i := 9) (oi := ?oo16) (v := ?vv16) ?hi16 (by kernel_rfl) (by kernel_rfl) (by kernel_rfl) ?hQ16 ?hy16 (by assumption) ?rest16
            case hi16 => (simp only [List.getElem?_toArray, List.getElem?_cons_zero, List.getElem?_cons_succ]; rfl)
            case hQ16 => exact fun _ _ _ h => h
            case hy16 => exact Or.inl ⟨by rfl, by intro wS hSw; (try dsimp only at hSw); go_simp; try first | (with_reducible rfl) | (simp only [*]; done) | omega⟩
            try simp only [Act.put, List.setIfInBounds_toArray, List.set_cons_zero, List.set_cons_succ]
            refine wpAnyH_ready (rs := [10]) (by kernel_rfl) (by simp) ?_
            refine (AllReadyH.cons (o := ?bo17n10) ?bh17n10 (fun K hK => ?br17n10) AllReadyH.nil)
            case bh17n10 => (simp only [List.getElem?_toArray, List.getElem?_cons_zero, List.getElem?_cons_succ]; rfl)
            case br17n10 =>
              go_simp
              refine hK.out _ _ (trivial) (fun hHeld => ?_)
              clear hK
              refine wpAnyH_done (by kernel_rfl) ?_ _
              clear hr c0 c0a hP hPa
              go_wp2
              go_meet
              exact ⟨rfl, hide ⟨g, cap, unhide HST⟩⟩
      case br12n6 =>
        go_simp
        refine hK.out _ _ (trivial) (fun hHeld => ?_)
        clear hK
        refine wpAnyH_ready (rs := [4]) (by kernel_rfl) (by simp) ?_
        refine (AllReadyH.cons (o := ?bo18n4) ?bh18n4 (fun K hK => ?br18n4) AllReadyH.nil)
        case bh18n4 => (simp only [List.getElem?_toArray, List.getElem?_cons_zero, List.getElem?_cons_succ]; rfl)
        case br18n4 =>
          go_simp
          refine hK.out _ _ (trivial) (fun hHeld => ?_)
          clear hK
          refine wpAnyH_ready (rs := [7]) (by kernel_rfl) (by simp) ?_
          refine (AllReadyH.cons (o := ?bo19n7) ?bh19n7 (fun K hK => ?br19n7) AllReadyH.nil)
          case bh19n7 => (simp only [List.getElem?_toArray, List.getElem?_cons_zero, List.getElem?_cons_succ]; rfl)
          case br19n7 =>
            rw [if_pos (by rfl)]
            refine wpo_appendO (s := .tmp 10) (x := .tmp 12) (t := 28) (by rfl) (by rfl) (by rfl) hr ?_
            refine hK.out _ _ (trivial) (fun hHeld => ?_)
            clear hK
            refine wpAnyH_take (i := 8) (oi := ?oo20) (v := ?vv20) ?hi20 (by kernel_rfl) (by kernel_rfl) (by kernel_rfl) ?hQ20 ?hy20 (by assumption) ?rest20
            case hi20 => (simp only [List.getElem?_toArray, List.getElem?_cons_zero, List.getElem?_cons_succ]; rfl)
            case hQ20 => exact fun _ _ _ h => h
            case hy20 => exact Or.inl ⟨by rfl, by intro wS hSw; (try dsimp only at hSw); go_simp; try first | (with_reducible rfl) | (simp only [*]; done) | omega⟩
            try simp only [Act.put, List.setIfInBounds_toArray, List.set_cons_zero, List.set_cons_succ]
            refine wpAnyH_take (i := 9) (oi := ?oo21) (v := ?vv21) ?hi21 (by kernel_rfl) (by kernel_rfl) (by kernel_rfl) ?hQ21 ?hy21 (by assumption) ?rest21
            case hi21 => (simp only [List.getElem?_toArray, List.getElem?_cons_zero, List.getElem?_cons_succ]; rfl)
            case hQ21 => exact fun _ _ _ h => h
            case hy21 => exact Or.inl ⟨by rfl, by intro wS hSw; (try dsimp only at hSw); go_simp; try first | (with_reducible rfl) | (simp only [*]; done) | omega⟩
            try simp only [Act.put, List.setIfInBounds_toArray, List.set_cons_zero, List.set_cons_succ]
            refine wpAnyH_ready (rs := [10]) (by kernel_rfl) (by simp) ?_
            refine (AllReadyH.cons (o := ?bo22n10) ?bh22n10 (fun K hK => ?br22n10) AllReadyH.nil)
            case bh22n10 => (simp only [List.getElem?_toArray, List.getElem?_cons_zero, List.getElem?_cons_succ]; rfl)
            case br22n10 =>
              go_simp
              refine hK.out _ _ (trivial) (fun hHeld => ?_)
              clear hK
              refine wpAnyH_done (by kernel_rfl) ?_ _
              clear hr c0 c0a hP hPa
              go_wp2
              go_meet
              exact ⟨rfl, hide ⟨g, cap, unhide HST⟩⟩
  case rest =>
  obtain ⟨rfl, hst⟩ := hcut
  obtain ⟨g, cap, hst⟩ := unhide hst
  have mixed : Try.prog.follows .mixedOrders = true := by kernel_rfl
  have hpl := (unhide HRT).1
  clear hroot hlo hB hrow hkn P0 b1 hs1 hdr hP hB1 hrow1 hbd hb1 hbs
  have cz := hst.1.cell
  have HST := hide hst
  clear hst
  go_wp2
  go_loopw [4] (fun i wk => ∃ (k : Nat) (qs : List (TrailD × Value)), i = .int .i64 k ∧ k ≤ ts.length ∧ Hid (StO bp w0.heap.size ts.length g cap S0 w0 wk ps (t, .slice sa t.spans.length sk) qs k)) (fun i _ => (intOf i).toNat)
  case atStart => exact ⟨ps.length, _, by rw [hpl], by omega, HST⟩
  case round =>
    obtain ⟨k, qs, rfl, hkn, hst⟩ := hrel
    clear HST cz
    have cz := (unhide hst).1.cell
    by_cases hk0 : k = 0
    · have hkz : ¬ (0 : Int) < (k : Int) := by omega
      have HF : Hid (AgeM bp w0.heap.size S0 w0 wr (snocO ts t) ∧ Below w0.heap.size w0 wr) := hide ⟨(unhide hst).fin rfl (unhide HRT).1 (unhide HRT).2.1 (unhide HRT).2.2 (.inl hk0), (unhide hst).2.2.1⟩
      clear hst
      go_wp2
      go_end0
      exact ⟨rfl, unhide HF⟩
    · have hkz : (0 : Int) < (k : Int) := by omega
      obtain ⟨a, zh⟩ : ∃ a : Nat, ((k : Int) - 1) / 2 = (a : Int) := ⟨(k - 1) / 2, by omega⟩
      have hak : a < k := by omega
      have ZH := hide zh
      have hst2 := unhide hst
      obtain ⟨hBx, hrw, hbl, hkw, hgo⟩ := hst2
      have hqs : qs.length = ts.length + 1 := by rw [hgo.1, hpl]
      obtain ⟨qa, hqa⟩ : ∃ qa, qs[a]? = some qa := ⟨qs[a], List.getElem?_eq_getElem (by omega)⟩
      have hik := owns_in hrw hgo.2.2.1
      have hia := owns_in hrw hqa
      have hlt := owns_lt hrw
      have hra := fun (wx : World) (hb : Below w0.heap.size w0 wx) => hkw.rd hqa hb
      have hrt := fun (wx : World) (hb : Below w0.heap.size w0 wx) => hkw.rd hgo.2.2.1 hb
      obtain ⟨x, sx⟩ := qa
      obtain ⟨ax, kx, hsx⟩ := (hkw (x, sx) (List.mem_of_getElem? hqa)).1.form
      simp only at hsx
      subst hsx
      have honea : One [.int .i64 x.id, .int .i64 x.stamp, .int .i64 x.first, .slice ax x.spans.length kx] := trailR_one (hra _ hbl).1
      simp only [tc] at hik hia hra hrt
      have CO := hide (fun wx (hb : Below wr.heap.size wr wx) => implOlder t x S0 [.int .i64 t.id, .int .i64 t.stamp, .int .i64 t.first, .slice sa t.spans.length sk] S0 [.int .i64 x.id, .int .i64 x.stamp, .int .i64 x.first, .slice ax x.spans.length kx] wx (hrt _ (hbl.trans (hb.mono hbl.size))).1 (hrt _ (hbl.trans (hb.mono hbl.size))).2 (hra _ (hbl.trans (hb.mono hbl.size))).1 (hra _ (hbl.trans (hb.mono hbl.size))).2)
      have HQA := hide hqa
      have HIK := hide hik
      have HIA := hide hia
      have hgl := hlt.2.1
      have m1 : (k : Int) < (ts.length : Int) + 1 := by omega
      have m2 : (a : Int) < (ts.length : Int) + 1 := by omega
      have m3 : (0 : Int) ≤ (a : Int) := by omega
      clear hBx hrw hkw hgo hqa hik hia hra hrt hbl hqs hlt
      go_upto_region 5 with fail
      cases ho : olderB t x with
      | false =>
        have HF : Hid (AgeM bp w0.heap.size S0 w0 wr (snocO ts t) ∧ Below w0.heap.size w0 wr) := hide ⟨(unhide hst).fin rfl (unhide HRT).1 (unhide HRT).2.1 (unhide HRT).2.2 (.inr ⟨a, _, hak, unhide HQA, ho⟩), (unhide hst).2.2.1⟩
        rw [ho] at CO
        clear hst ho
        refine wq_region (by assumption) (by kernel_rfl) ?_
        refine q_take (by kernel_rfl) (fun K hK => ?_)
        go_simp
        refine hK _ ?_
        clear hK K
        refine q_take (by kernel_rfl) (fun K hK => ?_)
        go_simp
        refine hK _ ?_
        clear hK K
        refine q_take (by kernel_rfl) (fun K hK => ?_)
        go_simp
        refine hK _ ?_
        clear hK K
        refine q_cell (by kernel_rfl) 28 _ rfl bp 0 rfl (.slice (some ⟨g, 0, none⟩) (ts.length + 1) cap) cz plainTrailsO (fun K hK => ?_)
        simp only [Act.put, List.setIfInBounds_toArray, List.set_cons_zero, List.set_cons_succ]
        refine hK _ ?_
        clear hK K
        refine q_take (by kernel_rfl) (fun K hK => ?_)
        go_simp
        refine hK _ ?_
        clear hK K
        refine q_take (by kernel_rfl) (fun K hK => ?_)
        go_simp
        refine hK _ ?_
        clear hK K
        refine q_load (by kernel_rfl) 44 _ rfl g (k * 4) rfl [.int .i64 t.id, .int .i64 t.stamp, .int .i64 t.first, .slice sa t.spans.length sk] hgl (unhide HIK) rowITrail (fun K hK => ?_)
        simp only [Act.put, List.setIfInBounds_toArray, List.set_cons_zero, List.set_cons_succ]
        refine hK _ ?_
        clear hK K
        refine q_take (by kernel_rfl) (fun K hK => ?_)
        go_simp
        refine hK _ ?_
        clear hK K
        refine q_take (by kernel_rfl) (fun K hK => ?_)
        go_simp
        refine hK _ ?_
        clear hK K
        refine q_take (by kernel_rfl) (fun K hK => ?_)
        go_simp
        refine hK _ ?_
        clear hK K
        refine q_cell (by kernel_rfl) 28 _ rfl bp 0 rfl (.slice (some ⟨g, 0, none⟩) (ts.length + 1) cap) cz plainTrailsO (fun K hK => ?_)
        simp only [Act.put, List.setIfInBounds_toArray, List.set_cons_zero, List.set_cons_succ]
        refine hK _ ?_
        clear hK K
        refine q_take (by kernel_rfl) (fun K hK => ?_)
        go_simp
        refine hK _ ?_
        clear hK K
        refine q_take (by kernel_rfl) (fun K hK => ?_)
        go_simp
        refine hK _ ?_
        clear hK K
        refine q_load (by kernel_rfl) 44 _ rfl g (a * 4) rfl [.int .i64 x.id, .int .i64 x.stamp, .int .i64 x.first, .slice ax x.spans.length kx] hgl (unhide HIA) rowITrail (fun K hK => ?_)
        simp only [Act.put, List.setIfInBounds_toArray, List.set_cons_zero, List.set_cons_succ]
        refine hK _ ?_
        clear hK K
        refine q_take (by kernel_rfl) (fun K hK => ?_)
        go_simp
        apply Exists.intro
        refine ⟨fun _ => ?_, hK _ ?_⟩
        exact Calls.regrown_of (unhide CO _ (below_regrown _ _ _))
        clear hK K
        refine q_take (by kernel_rfl) (fun K hK => ?_)
        go_simp
        refine hK _ ?_
        clear hK K
        refine wq_nil ?_
        intro _ hw9
        obtain ⟨⟨dq, osq⟩, hw9'⟩ := hw9
        subst hw9'
        have hHeld := below_regrown wr dq osq
        generalize Go.Sort.grow (redrawn wr dq) osq = wq at *
        clear mixed CO
        go_wp2
        try simp only [Exit.inBlock, Exit.then]
        refine bodyPost_ret (results_none rfl _ _ _) rfl ?_
        exact ⟨rfl, (unhide HF).1.keep hHeld, (unhide HF).2.trans (hHeld.mono (unhide HF).2.size)⟩
      | true =>
        have HO := hide ho
        rw [ho] at CO
        clear ho
        refine wq_region (by assumption) (by kernel_rfl) ?_
        refine q_take (by kernel_rfl) (fun K hK => ?_)
        go_simp
        refine hK _ ?_
        clear hK K
        refine q_take (by kernel_rfl) (fun K hK => ?_)
        go_simp
        refine hK _ ?_
        clear hK K
        refine q_take (by kernel_rfl) (fun K hK => ?_)
        go_simp
        refine hK _ ?_
        clear hK K
        refine q_cell (by kernel_rfl) 28 _ rfl bp 0 rfl (.slice (some ⟨g, 0, none⟩) (ts.length + 1) cap) cz plainTrailsO (fun K hK => ?_)
        simp only [Act.put, List.setIfInBounds_toArray, List.set_cons_zero, List.set_cons_succ]
        refine hK _ ?_
        clear hK K
        refine q_take (by kernel_rfl) (fun K hK => ?_)
        go_simp
        refine hK _ ?_
        clear hK K
        refine q_take (by kernel_rfl) (fun K hK => ?_)
        go_simp
        refine hK _ ?_
        clear hK K
        refine q_load (by kernel_rfl) 44 _ rfl g (k * 4) rfl [.int .i64 t.id, .int .i64 t.stamp, .int .i64 t.first, .slice sa t.spans.length sk] hgl (unhide HIK) rowITrail (fun K hK => ?_)
        simp only [Act.put, List.setIfInBounds_toArray, List.set_cons_zero, List.set_cons_succ]
        refine hK _ ?_
        clear hK K
        refine q_take (by kernel_rfl) (fun K hK => ?_)
        go_simp
        refine hK _ ?_
        clear hK K
        refine q_take (by kernel_rfl) (fun K hK => ?_)
        go_simp
        refine hK _ ?_
        clear hK K
        refine q_take (by kernel_rfl) (fun K hK => ?_)
        go_simp
        refine hK _ ?_
        clear hK K
        refine q_cell (by kernel_rfl) 28 _ rfl bp 0 rfl (.slice (some ⟨g, 0, none⟩) (ts.length + 1) cap) cz plainTrailsO (fun K hK => ?_)
        simp only [Act.put, List.setIfInBounds_toArray, List.set_cons_zero, List.set_cons_succ]
        refine hK _ ?_
        clear hK K
        refine q_take (by kernel_rfl) (fun K hK => ?_)
        go_simp
        refine hK _ ?_
        clear hK K
        refine q_take (by kernel_rfl) (fun K hK => ?_)
        go_simp
        refine hK _ ?_
        clear hK K
        refine q_load (by kernel_rfl) 44 _ rfl g (a * 4) rfl [.int .i64 x.id, .int .i64 x.stamp, .int .i64 x.first, .slice ax x.spans.length kx] hgl (unhide HIA) rowITrail (fun K hK => ?_)
        simp only [Act.put, List.setIfInBounds_toArray, List.set_cons_zero, List.set_cons_succ]
        refine hK _ ?_
        clear hK K
        refine q_take (by kernel_rfl) (fun K hK => ?_)
        go_simp
        apply Exists.intro
        refine ⟨fun _ => ?_, hK _ ?_⟩
        exact Calls.regrown_of (unhide CO _ (below_regrown _ _ _))
        clear hK K
        refine q_take (by kernel_rfl) (fun K hK => ?_)
        go_simp
        refine hK _ ?_
        clear hK K
        refine wq_nil ?_
        intro _ hw9
        obtain ⟨⟨dq, osq⟩, hw9'⟩ := hw9
        subst hw9'
        have hHeld := below_regrown wr dq osq
        generalize Go.Sort.grow (redrawn wr dq) osq = wq at *
        clear mixed CO
        go_upto_region 6 with fail
        have hdq : Below wq.heap.size wq wq.drew := Below.drew (Below.refl _ _)
        have hst3 := ((unhide hst).keep hHeld).keep hdq
        have hik3 := owns_in hst3.2.1 hst3.2.2.2.2.2.2.1
        have hia3 := owns_in hst3.2.1 (unhide HQA)
        simp only [tc] at hik3 hia3
        have cz3 := hst3.1.cell
        have hw3 := owns_wr hst3.2.1 (by omega : k < ts.length + 1)
        obtain ⟨hsw, hs4, hs5, hw4⟩ := hst3.swap (Nat.le_refl _) hak (by omega) (unhide HQA) hpl (unhide HO)
        simp only [tc] at hsw hs4 hs5 hw4
        have HSW := hide hsw
        clear hsw hst3 hdq hst
        refine wp_region_held_drew (S := fun w6 => w6.cell? ⟨bp, 0, none⟩ = some (.slice (some ⟨g, 0, none⟩) (ts.length + 1) cap)) (by kernel_rfl) cz3 (fun hHeld => ?_)
        generalize wq.drew = wz at *
        refine wpAnyH_take (i := 0) (oi := ?oo23) (v := ?vv23) ?hi23 (by kernel_rfl) (by kernel_rfl) (by kernel_rfl) ?hQ23 ?hy23 (by assumption) ?rest23
        case hi23 => (simp only [List.getElem?_toArray, List.getElem?_cons_zero]; rfl)
        case hQ23 => exact fun _ _ _ h => h
        case hy23 => exact Or.inl ⟨by rfl, by intro wS hSw; (try dsimp only at hSw); go_simp; try first | (with_reducible rfl) | (simp only [*]; done) | omega⟩
        try simp only [Act.put, List.setIfInBounds_toArray, List.set_cons_zero, List.set_cons_succ]
        refine wpAnyH_take (i := 1) (oi := ?oo24) (v := ?vv24) ?hi24 (by kernel_rfl) (by kernel_rfl) (by kernel_rfl) ?hQ24 ?hy24 (by assumption) ?rest24
        case hi24 => (simp only [List.getElem?_toArray, List.getElem?_cons_zero, List.getElem?_cons_succ]; rfl)
        case hQ24 => exact fun _ _ _ h => h
        case hy24 => exact Or.inl ⟨by rfl, by intro wS hSw; (try dsimp only at hSw); go_simp; try first | (with_reducible rfl) | (simp only [*]; done) | omega⟩
        try simp only [Act.put, List.setIfInBounds_toArray, List.set_cons_zero, List.set_cons_succ]
        refine wpAnyH_take (i := 2) (oi := ?oo25) (v := ?vv25) ?hi25 (by kernel_rfl) (by kernel_rfl) (by kernel_rfl) ?hQ25 ?hy25 (by assumption) ?rest25
        case hi25 => (simp only [List.getElem?_toArray, List.getElem?_cons_zero, List.getElem?_cons_succ]; rfl)
        case hQ25 => exact fun _ _ _ h => h
        case hy25 => exact Or.inl ⟨by rfl, by intro wS hSw; (try dsimp only at hSw); go_simp; try first | (with_reducible rfl) | (simp only [*]; done) | omega⟩
        try simp only [Act.put, List.setIfInBounds_toArray, List.set_cons_zero, List.set_cons_succ]
        refine wpAnyH_take (i := 3) (oi := ?oo26) (v := .slice (some ⟨g, 0, none⟩) (ts.length + 1) cap) ?hi26 (by kernel_rfl) (by kernel_rfl) (by kernel_rfl) ?hQ26 ?hy26 (by assumption) ?rest26
        case hi26 => (simp only [List.getElem?_toArray, List.getElem?_cons_zero, List.getElem?_cons_succ]; rfl)
        case hQ26 => exact fun _ _ _ h => h
        case hy26 => exact yld_cell (by rfl) 28 _ rfl bp 0 rfl (.slice (some ⟨g, 0, none⟩) (ts.length + 1) cap) (fun w' hS => hS) plainTrailsO
        try simp only [Act.put, List.setIfInBounds_toArray, List.set_cons_zero, List.set_cons_succ]
        refine wpAnyH_take (i := 4) (oi := ?oo27) (v := ?vv27) ?hi27 (by kernel_rfl) (by kernel_rfl) (by kernel_rfl) ?hQ27 ?hy27 (by assumption) ?rest27
        case hi27 => (simp only [List.getElem?_toArray, List.getElem?_cons_zero, List.getElem?_cons_succ]; rfl)
        case hQ27 => exact fun _ _ _ h => h
        case hy27 => exact Or.inl ⟨by rfl, by intro wS hSw; (try dsimp only at hSw); go_simp; try first | (with_reducible rfl) | (simp only [*]; done) | omega⟩
        try simp only [Act.put, List.setIfInBounds_toArray, List.set_cons_zero, List.set_cons_succ]
        refine wpAnyH_take (i := 5) (oi := ?oo28) (v := ?vv28) ?hi28 (by kernel_rfl) (by kernel_rfl) (by kernel_rfl) ?hQ28 ?hy28 (by assumption) ?rest28
        case hi28 => (simp only [List.getElem?_toArray, List.getElem?_cons_zero, List.getElem?_cons_succ]; rfl)
        case hQ28 => exact fun _ _ _ h => h
        case hy28 => exact Or.inl ⟨by rfl, by intro wS hSw; (try dsimp only at hSw); go_simp; try first | (with_reducible rfl) | (simp only [*]; done) | omega⟩
        try simp only [Act.put, List.setIfInBounds_toArray, List.set_cons_zero, List.set_cons_succ]
        refine wpAnyH_take (i := 6) (oi := ?oo29) (v := ?vv29) ?hi29 (by kernel_rfl) (by kernel_rfl) (by kernel_rfl) ?hQ29 ?hy29 (by assumption) ?rest29
        case hi29 => (simp only [List.getElem?_toArray, List.getElem?_cons_zero, List.getElem?_cons_succ]; rfl)
        case hQ29 => exact fun _ _ _ h => h
        case hy29 => exact Or.inl ⟨by rfl, by intro wS hSw; (try dsimp only at hSw); go_simp; try first | (with_reducible rfl) | (simp only [*]; done) | omega⟩
        try simp only [Act.put, List.setIfInBounds_toArray, List.set_cons_zero, List.set_cons_succ]
        refine wpAnyH_take (i := 7) (oi := ?oo30) (v := ?vv30) ?hi30 (by kernel_rfl) (by kernel_rfl) (by kernel_rfl) ?hQ30 ?hy30 (by assumption) ?rest30
        case hi30 => (simp only [List.getElem?_toArray, List.getElem?_cons_zero, List.getElem?_cons_succ]; rfl)
        case hQ30 => exact fun _ _ _ h => h
        case hy30 => exact Or.inl ⟨by rfl, by intro wS hSw; (try dsimp only at hSw); go_simp; try first | (with_reducible rfl) | (simp only [*]; done) | omega⟩
        try simp only [Act.put, List.setIfInBounds_toArray, List.set_cons_zero, List.set_cons_succ]
        refine wpAnyH_take (i := 8) (oi := ?oo31) (v := .slice (some ⟨g, 0, none⟩) (ts.length + 1) cap) ?hi31 (by kernel_rfl) (by kernel_rfl) (by kernel_rfl) ?hQ31 ?hy31 (by assumption) ?rest31
        case hi31 => (simp only [List.getElem?_toArray, List.getElem?_cons_zero, List.getElem?_cons_succ]; rfl)
        case hQ31 => exact fun _ _ _ h => h
        case hy31 => exact yld_cell (by rfl) 28 _ rfl bp 0 rfl (.slice (some ⟨g, 0, none⟩) (ts.length + 1) cap) (fun w' hS => hS) plainTrailsO
        try simp only [Act.put, List.setIfInBounds_toArray, List.set_cons_zero, List.set_cons_succ]
        refine wpAnyH_take (i := 9) (oi := ?oo32) (v := ?vv32) ?hi32 (by kernel_rfl) (by kernel_rfl) (by kernel_rfl) ?hQ32 ?hy32 (by assumption) ?rest32
        case hi32 => (simp only [List.getElem?_toArray, List.getElem?_cons_zero, List.getElem?_cons_succ]; rfl)
        case hQ32 => exact fun _ _ _ h => h
        case hy32 => exact Or.inl ⟨by rfl, by intro wS hSw; (try dsimp only at hSw); go_simp; try first | (with_reducible rfl) | (simp only [*]; done) | omega⟩
        try simp only [Act.put, List.setIfInBounds_toArray, List.set_cons_zero, List.set_cons_succ]
        refine wpAnyH_take (i := 10) (oi := ?oo33) (v := ?vv33) ?hi33 (by kernel_rfl) (by kernel_rfl) (by kernel_rfl) ?hQ33 ?hy33 (by assumption) ?rest33
        case hi33 => (simp only [List.getElem?_toArray, List.getElem?_cons_zero, List.getElem?_cons_succ]; rfl)
        case hQ33 => exact fun _ _ _ h => h
        case hy33 => exact Or.inl ⟨by rfl, by intro wS hSw; (try dsimp only at hSw); go_simp; try first | (with_reducible rfl) | (simp only [*]; done) | omega⟩
        try simp only [Act.put, List.setIfInBounds_toArray, List.set_cons_zero, List.set_cons_succ]
        refine wpAnyH_take (i := 11) (oi := ?oo34) (v := ?vv34) ?hi34 (by kernel_rfl) (by kernel_rfl) (by kernel_rfl) ?hQ34 ?hy34 (by assumption) ?rest34
        case hi34 => (simp only [List.getElem?_toArray, List.getElem?_cons_zero, List.getElem?_cons_succ]; rfl)
        case hQ34 => exact fun _ _ _ h => h
        case hy34 => exact Or.inl ⟨by rfl, by intro wS hSw; (try dsimp only at hSw); go_simp; try first | (with_reducible rfl) | (simp only [*]; done) | omega⟩
        try simp only [Act.put, List.setIfInBounds_toArray, List.set_cons_zero, List.set_cons_succ]
        refine wpAnyH_take (i := 12) (oi := ?oo35) (v := ?vv35) ?hi35 (by kernel_rfl) (by kernel_rfl) (by kernel_rfl) ?hQ35 ?hy35 (by assumption) ?rest35
        case hi35 => (simp only [List.getElem?_toArray, List.getElem?_cons_zero, List.getElem?_cons_succ]; rfl)
        case hQ35 => exact fun _ _ _ h => h
        case hy35 => exact Or.inl ⟨by rfl, by intro wS hSw; (try dsimp only at hSw); go_simp; try first | (with_reducible rfl) | (simp only [*]; done) | omega⟩
        try simp only [Act.put, List.setIfInBounds_toArray, List.set_cons_zero, List.set_cons_succ]
        refine wpAnyH_take (i := 13) (oi := ?oo36) (v := .slice (some ⟨g, 0, none⟩) (ts.length + 1) cap) ?hi36 (by kernel_rfl) (by kernel_rfl) (by kernel_rfl) ?hQ36 ?hy36 (by assumption) ?rest36
        case hi36 => (simp only [List.getElem?_toArray, List.getElem?_cons_zero, List.getElem?_cons_succ]; rfl)
        case hQ36 => exact fun _ _ _ h => h
        case hy36 => exact yld_cell (by rfl) 28 _ rfl bp 0 rfl (.slice (some ⟨g, 0, none⟩) (ts.length + 1) cap) (fun w' hS => hS) plainTrailsO
        try simp only [Act.put, List.setIfInBounds_toArray, List.set_cons_zero, List.set_cons_succ]
        refine wpAnyH_take (i := 14) (oi := ?oo37) (v := ?vv37) ?hi37 (by kernel_rfl) (by kernel_rfl) (by kernel_rfl) ?hQ37 ?hy37 (by assumption) ?rest37
        case hi37 => (simp only [List.getElem?_toArray, List.getElem?_cons_zero, List.getElem?_cons_succ]; rfl)
        case hQ37 => exact fun _ _ _ h => h
        case hy37 => exact Or.inl ⟨by rfl, by intro wS hSw; (try dsimp only at hSw); go_simp; try first | (with_reducible rfl) | (simp only [*]; done) | omega⟩
        try simp only [Act.put, List.setIfInBounds_toArray, List.set_cons_zero, List.set_cons_succ]
        refine wpAnyH_take (i := 15) (oi := ?oo38) (v := ?vv38) ?hi38 (by kernel_rfl) (by kernel_rfl) (by kernel_rfl) ?hQ38 ?hy38 (by assumption) ?rest38
        case hi38 => (simp only [List.getElem?_toArray, List.getElem?_cons_zero, List.getElem?_cons_succ]; rfl)
        case hQ38 => exact fun _ _ _ h => h
        case hy38 => exact Or.inl ⟨by rfl, by intro wS hSw; (try dsimp only at hSw); go_simp; try first | (with_reducible rfl) | (simp only [*]; done) | omega⟩
        try simp only [Act.put, List.setIfInBounds_toArray, List.set_cons_zero, List.set_cons_succ]
        refine wpAnyH_take (i := 17) (oi := ?oo39) (v := ?vv39) ?hi39 (by kernel_rfl) (by kernel_rfl) (by kernel_rfl) ?hQ39 ?hy39 (by assumption) ?rest39
        case hi39 => (simp only [List.getElem?_toArray, List.getElem?_cons_zero, List.getElem?_cons_succ]; rfl)
        case hQ39 => exact fun _ _ _ h => h
        case hy39 => exact Or.inl ⟨by rfl, by intro wS hSw; (try dsimp only at hSw); go_simp; try first | (with_reducible rfl) | (simp only [*]; done) | omega⟩
        try simp only [Act.put, List.setIfInBounds_toArray, List.set_cons_zero, List.set_cons_succ]
        refine wpAnyH_take (i := 18) (oi := ?oo40) (v := ?vv40) ?hi40 (by kernel_rfl) (by kernel_rfl) (by kernel_rfl) ?hQ40 ?hy40 (by assumption) ?rest40
        case hi40 => (simp only [List.getElem?_toArray, List.getElem?_cons_zero, List.getElem?_cons_succ]; rfl)
        case hQ40 => exact fun _ _ _ h => h
        case hy40 => exact Or.inl ⟨by rfl, by intro wS hSw; (try dsimp only at hSw); go_simp; try first | (with_reducible rfl) | (simp only [*]; done) | omega⟩
        try simp only [Act.put, List.setIfInBounds_toArray, List.set_cons_zero, List.set_cons_succ]
        refine wpAnyH_take (i := 19) (oi := ?oo41) (v := ?vv41) ?hi41 (by kernel_rfl) (by kernel_rfl) (by kernel_rfl) ?hQ41 ?hy41 (by assumption) ?rest41
        case hi41 => (simp only [List.getElem?_toArray, List.getElem?_cons_zero, List.getElem?_cons_succ]; rfl)
        case hQ41 => exact fun _ _ _ h => h
        case hy41 => exact Or.inl ⟨by rfl, by intro wS hSw; (try dsimp only at hSw); go_simp; try first | (with_reducible rfl) | (simp only [*]; done) | omega⟩
        try simp only [Act.put, List.setIfInBounds_toArray, List.set_cons_zero, List.set_cons_succ]
        refine wpAnyH_take (i := 20) (oi := ?oo42) (v := .slice (some ⟨g, 0, none⟩) (ts.length + 1) cap) ?hi42 (by kernel_rfl) (by kernel_rfl) (by kernel_rfl) ?hQ42 ?hy42 (by assumption) ?rest42
        case hi42 => (simp only [List.getElem?_toArray, List.getElem?_cons_zero, List.getElem?_cons_succ]; rfl)
        case hQ42 => exact fun _ _ _ h => h
        case hy42 => exact yld_cell (by rfl) 28 _ rfl bp 0 rfl (.slice (some ⟨g, 0, none⟩) (ts.length + 1) cap) (fun w' hS => hS) plainTrailsO
        try simp only [Act.put, List.setIfInBounds_toArray, List.set_cons_zero, List.set_cons_succ]
        refine wpAnyH_take (i := 21) (oi := ?oo43) (v := ?vv43) ?hi43 (by kernel_rfl) (by kernel_rfl) (by kernel_rfl) ?hQ43 ?hy43 (by assumption) ?rest43
        case hi43 => (simp only [List.getElem?_toArray, List.getElem?_cons_zero, List.getElem?_cons_succ]; rfl)
        case hQ43 => exact fun _ _ _ h => h
        case hy43 => exact Or.inl ⟨by rfl, by intro wS hSw; (try dsimp only at hSw); go_simp; try first | (with_reducible rfl) | (simp only [*]; done) | omega⟩
        try simp only [Act.put, List.setIfInBounds_toArray, List.set_cons_zero, List.set_cons_succ]
        refine wpAnyH_take (i := 22) (oi := ?oo44) (v := ?vv44) ?hi44 (by kernel_rfl) (by kernel_rfl) (by kernel_rfl) ?hQ44 ?hy44 (by assumption) ?rest44
        case hi44 => (simp only [List.getElem?_toArray, List.getElem?_cons_zero, List.getElem?_cons_succ]; rfl)
        case hQ44 => exact fun _ _ _ h => h
        case hy44 => exact Or.inl ⟨by rfl, by intro wS hSw; (try dsimp only at hSw); go_simp; try first | (with_reducible rfl) | (simp only [*]; done) | omega⟩
        try simp only [Act.put, List.setIfInBounds_toArray, List.set_cons_zero, List.set_cons_succ]
        refine wpAnyH_ready (rs := [16, 23]) (by kernel_rfl) (by simp) ?_
        refine (AllReadyH.cons (o := ?bo45n16) ?bh45n16 (fun K hK => ?br45n16) (AllReadyH.cons (o := ?bo45n23) ?bh45n23 (fun K hK => ?br45n23) AllReadyH.nil))
        case bh45n16 => (simp only [List.getElem?_toArray, List.getElem?_cons_zero, List.getElem?_cons_succ]; rfl)
        case bh45n23 => (simp only [List.getElem?_toArray, List.getElem?_cons_zero, List.getElem?_cons_succ]; rfl)
        case br45n16 =>
          rw [if_pos (by rfl)]
          refine wpo_loadO 44 _ rfl g (a * 4) rfl [.int .i64 x.id, .int .i64 x.stamp, .int .i64 x.first, .slice ax x.spans.length kx] ?_ rowITrail ?_
          · exact hia3
          refine hK.out _ _ (hHeld) (fun hHeld => ?_)
          clear hK
          refine wpAnyH_ready (rs := [23]) (by kernel_rfl) (by simp) ?_
          refine (AllReadyH.cons (o := ?bo46n23) ?bh46n23 (fun K hK => ?br46n23) AllReadyH.nil)
          case bh46n23 => (simp only [List.getElem?_toArray, List.getElem?_cons_zero, List.getElem?_cons_succ]; rfl)
          case br46n23 =>
            rw [if_pos (by rfl)]
            refine wpo_loadO 44 _ rfl g (k * 4) rfl [.int .i64 t.id, .int .i64 t.stamp, .int .i64 t.first, .slice sa t.spans.length sk] ?_ rowITrail ?_
            · exact hik3
            refine hK.out _ _ (hHeld) (fun hHeld => ?_)
            clear hK
            refine wpAnyH_take (i := 24) (oi := ?oo47) (v := ?vv47) ?hi47 (by kernel_rfl) (by kernel_rfl) (by kernel_rfl) ?hQ47 ?hy47 (by assumption) ?rest47
            case hi47 => (simp only [List.getElem?_toArray, List.getElem?_cons_zero, List.getElem?_cons_succ]; rfl)
            case hQ47 => exact fun _ _ _ h => h
            case hy47 => exact Or.inl ⟨by rfl, by intro wS hSw; (try dsimp only at hSw); go_simp; try first | (with_reducible rfl) | (simp only [*]; done) | omega⟩
            try simp only [Act.put, List.setIfInBounds_toArray, List.set_cons_zero, List.set_cons_succ]
            refine wpAnyH_ready (rs := [25]) (by kernel_rfl) (by simp) ?_
            refine (AllReadyH.cons (o := ?bo48n25) ?bh48n25 (fun K hK => ?br48n25) AllReadyH.nil)
            case bh48n25 => (simp only [List.getElem?_toArray, List.getElem?_cons_zero, List.getElem?_cons_succ]; rfl)
            case br48n25 =>
              rw [if_pos (by rfl)]
              refine wpo_storeO 44 _ _ rfl g (k * 4) [.int .i64 x.id, .int .i64 x.stamp, .int .i64 x.first, .slice ax x.spans.length kx] rfl rfl ?_ honea rowITrail ?_
              · exact hw3
              dsimp only [Act.put]
              refine hK.out _ _ (hs4) (fun hHeld => ?_)
              clear hK
              refine wpAnyH_take (i := 26) (oi := ?oo49) (v := ?vv49) ?hi49 (by kernel_rfl) (by kernel_rfl) (by kernel_rfl) ?hQ49 ?hy49 (by assumption) ?rest49
              case hi49 => (simp only [List.getElem?_toArray, List.getElem?_cons_zero, List.getElem?_cons_succ]; rfl)
              case hQ49 => exact fun _ _ _ h => h
              case hy49 => exact Or.inl ⟨by rfl, by intro wS hSw; (try dsimp only at hSw); go_simp; try first | (with_reducible rfl) | (simp only [*]; done) | omega⟩
              try simp only [Act.put, List.setIfInBounds_toArray, List.set_cons_zero, List.set_cons_succ]
              refine wpAnyH_ready (rs := [27]) (by kernel_rfl) (by simp) ?_
              refine (AllReadyH.cons (o := ?bo50n27) ?bh50n27 (fun K hK => ?br50n27) AllReadyH.nil)
              case bh50n27 => (simp only [List.getElem?_toArray, List.getElem?_cons_zero, List.getElem?_cons_succ]; rfl)
              case br50n27 =>
                rw [if_pos (by rfl)]
                refine wpo_storeO 44 _ _ rfl g (a * 4) [.int .i64 t.id, .int .i64 t.stamp, .int .i64 t.first, .slice sa t.spans.length sk] rfl rfl ?_ hone rowITrail ?_
                · exact hw4
                dsimp only [Act.put]
                refine hK.out _ _ (hs5) (fun hHeld => ?_)
                clear hK
                refine wpAnyH_done (by kernel_rfl) ?_ _
                clear hik3 hia3 hw3 hs4 hs5 hw4 cz3
                go_wp2
                go_roundw
                case rel => exact ⟨a, _, rfl, by omega, HSW⟩
                case measure => simp [intOf]; omega
        case br45n23 =>
          rw [if_pos (by rfl)]
          refine wpo_loadO 44 _ rfl g (k * 4) rfl [.int .i64 t.id, .int .i64 t.stamp, .int .i64 t.first, .slice sa t.spans.length sk] ?_ rowITrail ?_
          · exact hik3
          refine hK.out _ _ (hHeld) (fun hHeld => ?_)
          clear hK
          refine wpAnyH_ready (rs := [16]) (by kernel_rfl) (by simp) ?_
          refine (AllReadyH.cons (o := ?bo51n16) ?bh51n16 (fun K hK => ?br51n16) AllReadyH.nil)
          case bh51n16 => (simp only [List.getElem?_toArray, List.getElem?_cons_zero, List.getElem?_cons_succ]; rfl)
          case br51n16 =>
            rw [if_pos (by rfl)]
            refine wpo_loadO 44 _ rfl g (a * 4) rfl [.int .i64 x.id, .int .i64 x.stamp, .int .i64 x.first, .slice ax x.spans.length kx] ?_ rowITrail ?_
            · exact hia3
            refine hK.out _ _ (hHeld) (fun hHeld => ?_)
            clear hK
            refine wpAnyH_take (i := 24) (oi := ?oo52) (v := ?vv52) ?hi52 (by kernel_rfl) (by kernel_rfl) (by kernel_rfl) ?hQ52 ?hy52 (by assumption) ?rest52
            case hi52 => (simp only [List.getElem?_toArray, List.getElem?_cons_zero, List.getElem?_cons_succ]; rfl)
            case hQ52 => exact fun _ _ _ h => h
            case hy52 => exact Or.inl ⟨by rfl, by intro wS hSw; (try dsimp only at hSw); go_simp; try first | (with_reducible rfl) | (simp only [*]; done) | omega⟩
            try simp only [Act.put, List.setIfInBounds_toArray, List.set_cons_zero, List.set_cons_succ]
            refine wpAnyH_ready (rs := [25]) (by kernel_rfl) (by simp) ?_
            refine (AllReadyH.cons (o := ?bo53n25) ?bh53n25 (fun K hK => ?br53n25) AllReadyH.nil)
            case bh53n25 => (simp only [List.getElem?_toArray, List.getElem?_cons_zero, List.getElem?_cons_succ]; rfl)
            case br53n25 =>
              rw [if_pos (by rfl)]
              refine wpo_storeO 44 _ _ rfl g (k * 4) [.int .i64 x.id, .int .i64 x.stamp, .int .i64 x.first, .slice ax x.spans.length kx] rfl rfl ?_ honea rowITrail ?_
              · exact hw3
              dsimp only [Act.put]
              refine hK.out _ _ (hs4) (fun hHeld => ?_)
              clear hK
              refine wpAnyH_take (i := 26) (oi := ?oo54) (v := ?vv54) ?hi54 (by kernel_rfl) (by kernel_rfl) (by kernel_rfl) ?hQ54 ?hy54 (by assumption) ?rest54
              case hi54 => (simp only [List.getElem?_toArray, List.getElem?_cons_zero, List.getElem?_cons_succ]; rfl)
              case hQ54 => exact fun _ _ _ h => h
              case hy54 => exact Or.inl ⟨by rfl, by intro wS hSw; (try dsimp only at hSw); go_simp; try first | (with_reducible rfl) | (simp only [*]; done) | omega⟩
              try simp only [Act.put, List.setIfInBounds_toArray, List.set_cons_zero, List.set_cons_succ]
              refine wpAnyH_ready (rs := [27]) (by kernel_rfl) (by simp) ?_
              refine (AllReadyH.cons (o := ?bo55n27) ?bh55n27 (fun K hK => ?br55n27) AllReadyH.nil)
              case bh55n27 => (simp only [List.getElem?_toArray, List.getElem?_cons_zero, List.getElem?_cons_succ]; rfl)
              case br55n27 =>
                rw [if_pos (by rfl)]
                refine wpo_storeO 44 _ _ rfl g (a * 4) [.int .i64 t.id, .int .i64 t.stamp, .int .i64 t.first, .slice sa t.spans.length sk] rfl rfl ?_ hone rowITrail ?_
                · exact hw4
                dsimp only [Act.put]
                refine hK.out _ _ (hs5) (fun hHeld => ?_)
                clear hK
                refine wpAnyH_done (by kernel_rfl) ?_ _
                clear hik3 hia3 hw3 hs4 hs5 hw4 cz3
                go_wp2
                go_roundw
                case rel => exact ⟨a, _, rfl, by omega, HSW⟩
                case measure => simp [intOf]; omega
end Go.Proofs.Ytjhlammjnggghaa
