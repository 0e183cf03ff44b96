/-
  Pol: sizes, copies and comparisons of rules, however deep.
-/
import Derived.Test.YtlhjhnjpmafceaaPolD
import Derived.Test.YtlhjhnjpmafceaaAbs2
namespace Go.Proofs.Ytlhjhnjpmafceaa
open Go.ChangeShapes Go.WideShapes Go.ChangeAt Go.RowKit
set_option linter.unusedVariables false
set_option maxRecDepth 100000

theorem polRd_len {d : Nat} {w : World} {S : Nat → Prop} {cs : List Value} {x : PolD} (h : polRd d w S cs x) : cs.length = 5 := by
  cases d with
  | zero => exact h.elim
  | succ d => obtain ⟨s0, rfl, _, _, _⟩ := h; rfl
theorem polRd_one {d : Nat} {w : World} {S : Nat → Prop} {cs : List Value} {x : PolD} (h : polRd d w S cs x) : One cs := by
  cases d with
  | zero => exact h.elim
  | succ d =>
    obtain ⟨s0, rfl, _, _, g⟩ := h
    obtain ⟨a, k, rfl⟩ := g.form
    intro v hv
    simp only [List.mem_cons, List.not_mem_nil, or_false] at hv
    rcases hv with rfl | rfl | rfl | rfl | rfl <;> rfl
theorem rowLPol : RowT Try.prog 24 5 := ⟨_, Try.underlying24, rfl, by kernel_rfl⟩
theorem rowIPol : RowT Try.prog 29 5 := ⟨_, Try.underlying29, rfl, by kernel_rfl⟩
def SzP (d : Nat) : Prop := ∀ (x : PolD) (S : Nat → Prop) (cs : List Value) (left : Int) (w : World), 0 ≤ left → left ≤ 1048576 → polRd d w S cs x →
    Calls Try.prog 9 #[.agg cs.toArray, .int .i64 left] w fun e w' => (∃ z : Int, e = .returned (.int .i64 z) ∧ (z < 0 ∨ (0 ≤ z ∧ z + polBulk x ≤ left))) ∧ Below w.heap.size w w'
def ToP (d : Nat) : Prop := ∀ (x : PolD) (S : Nat → Prop) (cs : List Value) (w : World), polBulk x ≤ 1048576 → polRd d w S cs x →
    Calls Try.prog 11 #[.agg cs.toArray] w fun e w' => ∃ cs', e = .returned (.agg cs'.toArray) ∧ polOd d w' (Within w.heap.size w'.heap.size) cs' x ∧ Below w.heap.size w w'
def EqP (d : Nat) : Prop := ∀ (x : PolD) (S S' : Nat → Prop) (cs cs' : List Value) (w : World), polRd d w S cs x → polRd d w S' cs' x →
    Calls Try.prog 13 #[.agg cs.toArray, .agg cs'.toArray] w fun e w' => e = .returned (.bool true) ∧ Below w.heap.size w w'
theorem mInfoPol : (Try.prog.info? 29).map (fun i => (i.zero, i.size, i.bytes)) = some (some (.agg #[.int .i64 0, .int .i64 0, .string ⟨#[]⟩, .string ⟨#[]⟩, .slice none 0 0]), 5, 72) := by kernel_rfl
theorem mMakePol (n : Nat) (hn : n ≤ 1048576) (w : World) : ∃ w0, (Instr.makeSlice 27 (.int .i64 n) (.int .i64 n)).run Try.prog w = .ok (.slice (some ⟨w.heap.size, 0, none⟩) n n) w0 ∧ WrAt w0 w.heap.size 0 (n * 5) ∧ Below w.heap.size w w0 ∧ Plain w0 w.heap.size := by
  obtain ⟨i0, hi, hz0, hz1, hz2⟩ := info_parts mInfoPol
  have h := run_make (P := Try.prog) w 27 29 i0 _ Try.underlying27 hi hz0 .i64 .i64 n n (by omega) (by omega) (by rw [hz2]; omega) (by omega)
  refine ⟨_, h, ?_, bnew _ _, Plain.new _ _ _⟩
  rw [hz1]
  exact WrAt.new _ _ _ _ (by rw [size_madeCells]; simp)

set_option maxHeartbeats 2000000 in
theorem dSzPolS (d : Nat) (ih : SzP d) (l : List PolD) (S : Nat → Prop) (v : Value) (left : Int) (w : World) (h0 : 0 ≤ left) (h1 : left ≤ 1048576) (ha : LAt 5 (polRd d) w S v l) :
    Calls Try.prog 30 #[v, .int .i64 left] w fun e w' => (∃ z : Int, e = .returned (.int .i64 z) ∧ (z < 0 ∨ (0 ≤ z ∧ z + bulkL polBulk l ≤ left))) ∧ Below w.heap.size w w' := by
  obtain ⟨a, cap, rfl⟩ := ha.form
  have hl := ha.len
  have HA := hide ha
  clear ha
  by_cases hlen : left < l.length
  case pos =>
    go_enter Try.func30, Try.ntmps30
    go_wp2
    go_ret
    exact ⟨⟨_, rfl, .inl (by omega)⟩, by (repeat (first | with_reducible assumption | with_reducible exact Below.refl _ _ | with_reducible refine Below.drew ?_ | with_reducible refine bdrewN ?_ _ | (with_reducible refine Below.alloc ?_ ?side _; case side => (first | omega | (simp [go_sem]; done) | (simp [go_sem]; omega))) | (with_reducible refine Below.setCell ?_ ?side _; case side => (first | omega | (simp [go_sem]; done) | (simp [go_sem]; omega)))))⟩
  go_enter Try.func30, Try.ntmps30
  go_wp2
  go_loopw [1, 5] (fun z i wk => ∃ (k : Nat) (zz : Int), k ≤ l.length ∧ i = .int .i64 k ∧ z = .int .i64 zz ∧ 0 ≤ zz ∧ zz + l.length + ((l.take k).map polBulk).sum ≤ left ∧ Below w.heap.size w wk) (fun _ i _ => l.length - (intOf i).toNat)
  case atStart => exact ⟨0, left - l.length, Nat.zero_le _, rfl, by go_num, by omega, by simp, Below.refl _ _⟩
  case round =>
    obtain ⟨k, zz, hk, rfl, rfl, hz, hsum, hbl⟩ := hrel
    have hbs := hbl.size
    by_cases hlt : k < l.length
    · have hki : (k : Int) < (l.length : Int) := by omega
      have hsn := sum_snoc polBulk l k hlt
      obtain ⟨b, o, cs, rfl, hbk, hSb, hcs, hin⟩ := (unhide HA).at k hlt
      have hcs := polRd_keeps d _ _ S None1 cs _ (Below.turn hbl) none_off hcs
      have hin := hin.turn hbk (Below.turn hbl) (fun e => e)
      have hrw : RowT Try.prog 24 cs.length := by rw [polRd_len hcs]; exact rowLPol
      generalize l[k] = X at *
      have HSN := hide hsn
      clear hsn
      go_wp2_with (first | (refine wpl_load rfl 24 _ rfl _ _ rfl cs hin hrw ?_))
      refine (ih X S cs zz _ hz (by omega) hcs).mono ?_
      rintro e w2 ⟨⟨z2, rfl, hz2⟩, hb2⟩
      have HZ := hide hz2
      clear hz2
      by_cases hneg : z2 < 0
      · go_wp2
        go_ret
        exact ⟨⟨_, rfl, .inl (by omega)⟩, bthen hbl hb2⟩
      · have hzz : 0 ≤ z2 ∧ z2 + polBulk X ≤ zz := by rcases unhide HZ with h | h <;> omega
        have hsn' := unhide HSN
        go_wp2
        go_roundw
        case rel => exact ⟨k + 1, z2, by omega, by go_num, by go_num, by omega, by rw [hsn']; omega, bthen hbl hb2⟩
        case measure => simp [intOf]; omega
    · have e : l.take k = l := List.take_of_length_le (by omega)
      rw [e] at hsum
      have hki : ¬ (k : Int) < (l.length : Int) := by omega
      go_wp2
      go_ret
      exact ⟨⟨_, rfl, .inr ⟨hz, by unfold bulkL; omega⟩⟩, hbl⟩
set_option maxHeartbeats 2000000 in
theorem dSzPol (d : Nat) (ih : SzP d) : SzP (d + 1) := by
  intro x S cs left w h0 h1 hx
  obtain ⟨s0, rfl, q0, q1, g0⟩ := hx
  obtain ⟨a0, k0, rfl⟩ := g0.form
  unfold maxLen at q0 q1
  rw [polBulk_eq]
  have P0 := Held.new w [.int .i64 x.kind, .int .i64 x.n, .string x.key, .string x.text, .slice a0 x.l.length k0] 24
  have B0 := bnew w (.cells #[.int .i64 x.kind, .int .i64 x.n, .string x.key, .string x.text, .slice a0 x.l.length k0] 24)
  have HG := hide (g0.keep (polRd_keeps d) B0)
  clear g0
  by_cases l1 : left - x.key.size < 0
  · go_enter Try.func9, Try.ntmps9
    go_upto_region 1 with fail
    generalize World.alloc w _ = w0 at *
    have p2 := P0.2 2 _ rfl
    go_wp2
    go_ret
    exact ⟨⟨_, rfl, .inl (by omega)⟩, B0⟩
  by_cases l2 : left - x.key.size - x.text.size < 0
  · go_enter Try.func9, Try.ntmps9
    go_upto_region 1 with fail
    generalize World.alloc w _ = w0 at *
    have p2 := P0.2 2 _ rfl
    have p3 := P0.2 3 _ rfl
    go_wp2
    go_ret
    exact ⟨⟨_, rfl, .inl (by omega)⟩, B0⟩
  go_enter Try.func9, Try.ntmps9
  go_upto_region 1 with fail
  generalize World.alloc w _ = w0 at *
  have p2 := P0.2 2 _ rfl
  have p3 := P0.2 3 _ rfl
  have p4 := P0.2 4 _ rfl
  go_wp2_with fail
  refine (dSzPolS d ih x.l S _ (left - x.key.size - x.text.size) _ (by omega) (by omega) (unhide HG).at1).mono ?_
  rintro e w1 ⟨⟨z, rfl, hz⟩, hb1⟩
  have HZ := hide hz
  clear hz
  by_cases hneg : z < 0
  · go_wp2
    go_ret
    exact ⟨⟨_, rfl, .inl (by omega)⟩, bthen B0 hb1⟩
  · have hzz : 0 ≤ z ∧ z + bulkL polBulk x.l ≤ left - x.key.size - x.text.size := by rcases unhide HZ with h | h <;> omega
    go_wp2
    go_ret
    exact ⟨⟨_, rfl, .inr (by omega)⟩, bthen B0 hb1⟩
theorem szP : ∀ d, SzP d
  | 0 => fun _ _ _ _ _ _ _ h => h.elim
  | d + 1 => dSzPol d (szP d)
set_option maxHeartbeats 4000000 in
theorem dToPolS (d : Nat) (ih : ToP d) (l : List PolD) (S : Nat → Prop) (v : Value) (w : World) (h1 : bulkL polBulk l ≤ 1048576) (ha : LAt 5 (polRd d) w S v l) :
    Calls Try.prog 31 #[v] w fun e w' => ∃ v', e = .returned v' ∧ LOwC 5 (polOd d) w' (Within w.heap.size w'.heap.size) v' l ∧ Below w.heap.size w w' := by
  obtain ⟨a, cap, rfl⟩ := ha.form
  have hl := bulkL_len polBulk l
  have HA := hide ha
  clear ha
  obtain ⟨w0, hmk, hrow, hb0, hpl0⟩ := mMakePol l.length (by omega) w
  go_enter Try.func31, Try.ntmps31
  go_wp2
  go_loopw [4] (fun i wk => ∃ k : Nat, k ≤ l.length ∧ i = .int .i64 k ∧ Below w.heap.size w wk ∧ Hid (Plain wk w.heap.size) ∧ Hid (Filled 5 (polOd d) w wk l k)) (fun i _ => l.length - (intOf i).toNat)
  case atStart => exact ⟨0, Nat.zero_le _, rfl, hb0, hide hpl0, hide (Filled.start _ _ _ _ _ hrow)⟩
  case round =>
    obtain ⟨k, hk, rfl, hbl, hpl, hfl⟩ := hrel
    have hbs := hbl.size
    by_cases hlt : k < l.length
    · have hki : (k : Int) < (l.length : Int) := by omega
      obtain ⟨b, o, cs, rfl, hbk, hSb, hcs, hin⟩ := (unhide HA).at k hlt
      have hcs := polRd_keeps d _ _ S None1 cs _ (Below.turn hbl) none_off hcs
      have hin := hin.turn hbk (Below.turn hbl) (fun e => e)
      have hXb : polBulk l[k] ≤ 1048576 := by have := bulkL_mem polBulk (List.getElem_mem hlt); omega
      have hrw : RowT Try.prog 24 cs.length := by rw [polRd_len hcs]; exact rowLPol
      generalize hX : l[k] = X at *
      have HX := hide hX
      clear hX hmk hrow hpl0
      go_wp2_with (first | (refine wpl_load rfl 24 _ rfl _ _ rfl cs hin hrw ?_))
      refine (ih X S cs _ hXb hcs).mono ?_
      rintro e w2 ⟨cs2, rfl, yy, hb2⟩
      have hln := polOd_len yy
      have on2 := polRd_one (polOd_read d _ _ _ _ yy)
      have hri : RowT Try.prog 29 cs2.length := by rw [hln]; exact rowIPol
      have hwr : WrAt w2 w.heap.size (k * 5) cs2.length := by
        have h := ((unhide hfl).1.keep hb2).part (k * 5) 5 (by omega)
        rw [hln]; rwa [Nat.zero_add] at h
      have HB := hide (And.intro yy (And.intro hb2 hln))
      clear yy hb2 hln
      go_wp2_with (first | (refine wpl_store_at rfl 29 _ _ rfl _ _ cs2 rfl rfl hwr on2 hri ?_))
      go_roundw
      case rel =>
        obtain ⟨yy, hb2, hln⟩ := unhide HB
        have st := Filled.step (cs := cs2) (polOd_keeps d) (unhide hfl) hlt hb2 (by rw [unhide HX]; exact yy) hln
        exact ⟨k + 1, by omega, by go_num, (bthen hbl hb2).trans ((putL_turn _ _ _ _ _).belowFrom (bthen hbl hb2).size (fun k hk => by omega)), hide (Plain.putL _ _ _ _ _ ((unhide hpl).below hb2)), hide st⟩
      case measure => simp [intOf]; omega
    · have hki : ¬ (k : Int) < (l.length : Int) := by omega
      obtain rfl : k = l.length := by omega
      go_wp2
      go_ret
      exact ⟨_, rfl, ⟨(unhide hfl).done (by omega), CapV.mk (Nat.le_refl _), PlainV.mk (unhide hpl)⟩, hbl⟩
set_option maxHeartbeats 4000000 in
theorem dToPol (d : Nat) (ih : ToP d) (x : PolD) (S : Nat → Prop) (cs : List Value) (w : World) (hb : polBulk x ≤ 1048576) (hx : polRd (d + 1) w S cs x) :
    Calls Try.prog 11 #[.agg cs.toArray] w fun e w' => ∃ cs', e = .returned (.agg cs'.toArray) ∧ polOd (d + 1) w' (Within w.heap.size w'.heap.size) cs' x ∧ Below w.heap.size w w' := by
  obtain ⟨s0, rfl, q0, q1, g0⟩ := hx
  obtain ⟨a0, k0, rfl⟩ := g0.form
  rw [polBulk_eq] at hb
  go_enter Try.func11, Try.ntmps11
  go_wp2_with fail
  generalize hW : World.alloc (World.alloc (World.alloc w _) _) _ = w1
  have B1 : Below w.heap.size w w1 := by rw [← hW]; (repeat (first | with_reducible assumption | with_reducible exact Below.refl _ _ | with_reducible refine Below.drew ?_ | with_reducible refine bdrewN ?_ _ | (with_reducible refine Below.alloc ?_ ?side _; case side => (first | omega | (simp [go_sem]; done) | (simp [go_sem]; omega))) | (with_reducible refine Below.setCell ?_ ?side _; case side => (first | omega | (simp [go_sem]; done) | (simp [go_sem]; omega)))))
  have P1 : Held w1 w.heap.size [.int .i64 x.kind, .int .i64 x.n, .string x.key, .string x.text, .slice a0 x.l.length k0] := by rw [← hW]; exact ((Held.new w [.int .i64 x.kind, .int .i64 x.n, .string x.key, .string x.text, .slice a0 x.l.length k0] 24).keep (bnew _ _)).keep (bnew _ _)
  have R1 : Held w1 (w.heap.size + 1) [.int .i64 0, .int .i64 0, .string ⟨#[]⟩, .string ⟨#[]⟩, .slice none 0 0] := by rw [← hW]; have := (Held.new (w.alloc (.cells #[.int .i64 x.kind, .int .i64 x.n, .string x.key, .string x.text, .slice a0 x.l.length k0] 24)) [.int .i64 0, .int .i64 0, .string ⟨#[]⟩, .string ⟨#[]⟩, .slice none 0 0] 29).keep (bnew _ (.cells #[.int .i64 x.kind, .int .i64 x.n, .string x.key, .string x.text, .slice none 0 0] 29)); simpa using this
  have RW1 : WrAt w1 (w.heap.size + 1) 0 5 := by rw [← hW]; have := (WrAt.new (w.alloc (.cells #[.int .i64 x.kind, .int .i64 x.n, .string x.key, .string x.text, .slice a0 x.l.length k0] 24)) #[.int .i64 0, .int .i64 0, .string ⟨#[]⟩, .string ⟨#[]⟩, .slice none 0 0] 29 5 rfl).keep (bnew _ (.cells #[.int .i64 x.kind, .int .i64 x.n, .string x.key, .string x.text, .slice none 0 0] 29)); simpa using this
  have O1 : Held w1 (w.heap.size + 2) [.int .i64 x.kind, .int .i64 x.n, .string x.key, .string x.text, .slice none 0 0] := by rw [← hW]; have := Held.new ((w.alloc (.cells #[.int .i64 x.kind, .int .i64 x.n, .string x.key, .string x.text, .slice a0 x.l.length k0] 24)).alloc (.cells #[.int .i64 0, .int .i64 0, .string ⟨#[]⟩, .string ⟨#[]⟩, .slice none 0 0] 29)) [.int .i64 x.kind, .int .i64 x.n, .string x.key, .string x.text, .slice none 0 0] 29; simpa using this
  have OW1 : WrAt w1 (w.heap.size + 2) 0 5 := by rw [← hW]; have := WrAt.new ((w.alloc (.cells #[.int .i64 x.kind, .int .i64 x.n, .string x.key, .string x.text, .slice a0 x.l.length k0] 24)).alloc (.cells #[.int .i64 0, .int .i64 0, .string ⟨#[]⟩, .string ⟨#[]⟩, .slice none 0 0] 29)) #[.int .i64 x.kind, .int .i64 x.n, .string x.key, .string x.text, .slice none 0 0] 29 5 rfl; simpa using this
  have hs1 : w1.heap.size = w.heap.size + 3 := by rw [← hW]; simp
  clear hW
  refine (dToPolS d ih x.l S _ w1 (by omega) (g0.at1.keep (polRd_keeps d) B1)).mono ?_
  rintro e w2 ⟨v2, rfl, y0, hb2⟩
  obtain ⟨b0, m0, rfl⟩ := y0.form
  have B2 := bthen B1 hb2
  have hz2 := hb2.size
  have P2 := P1.keep hb2
  have R2 := R1.keep hb2
  have RW2 := RW1.keep hb2
  have O2 := O1.keep hb2
  have OW2 := OW1.keep hb2
  clear hb2
  have Y2 := hide (And.intro B2 (And.intro P2 (And.intro R2 (And.intro RW2 (And.intro O2 OW2)))))
  have hs2 := B2.size
  have Ky0 := hide y0
  clear y0
  have p0 := P2.2 0 _ rfl
  have p1 := P2.2 1 _ rfl
  have p2 := P2.2 2 _ rfl
  have p3 := P2.2 3 _ rfl
  have p4 := P2.2 4 _ rfl
  have r0 := R2.2 0 _ rfl
  have r1 := R2.2 1 _ rfl
  have r2 := R2.2 2 _ rfl
  have r3 := R2.2 3 _ rfl
  have r4 := R2.2 4 _ rfl
  have o0 := O2.2 0 _ rfl
  have o1 := O2.2 1 _ rfl
  have o2 := O2.2 2 _ rfl
  have o3 := O2.2 3 _ rfl
  have o4 := O2.2 4 _ rfl
  have rf0 : w2.frozen? ⟨w.heap.size + 1, 0, none⟩ = false := RW2.free 0 (by omega)
  have of0 : w2.frozen? ⟨w.heap.size + 2, 0, none⟩ = false := OW2.free 0 (by omega)
  have rf1 : w2.frozen? ⟨w.heap.size + 1, 1, none⟩ = false := RW2.free 1 (by omega)
  have of1 : w2.frozen? ⟨w.heap.size + 2, 1, none⟩ = false := OW2.free 1 (by omega)
  have rf2 : w2.frozen? ⟨w.heap.size + 1, 2, none⟩ = false := RW2.free 2 (by omega)
  have of2 : w2.frozen? ⟨w.heap.size + 2, 2, none⟩ = false := OW2.free 2 (by omega)
  have rf3 : w2.frozen? ⟨w.heap.size + 1, 3, none⟩ = false := RW2.free 3 (by omega)
  have of3 : w2.frozen? ⟨w.heap.size + 2, 3, none⟩ = false := OW2.free 3 (by omega)
  have rf4 : w2.frozen? ⟨w.heap.size + 1, 4, none⟩ = false := RW2.free 4 (by omega)
  have of4 : w2.frozen? ⟨w.heap.size + 2, 4, none⟩ = false := OW2.free 4 (by omega)
  clear B2 P2 R2 RW2 O2 OW2
  go_upto_region 7 with fail
  generalize hW : World.setCell w2 _ _ = w3
  obtain ⟨B2, P2, R2, RW2, O2, OW2⟩ := unhide Y2
  have y0 := unhide Ky0
  have ht : Turn (fun k => k = w.heap.size + 2) w2 w3 := by rw [← hW]; repeat (first | with_reducible exact Turn.refl _ _ | (with_reducible refine Turn.setIn ?_ ?side _; case side => rfl))
  have B3 : Below w.heap.size w w3 := B2.trans (ht.belowFrom hs2 (fun k hk => by omega))
  have P3 := P2.turn ht (by omega)
  have R3 := R2.turn ht (by omega)
  have RW3 := RW2.turn ht (by omega)
  have O3 : Held w3 (w.heap.size + 2) [.int .i64 x.kind, .int .i64 x.n, .string x.key, .string x.text, .slice b0 x.l.length m0] := by rw [← hW]; exact (O2.set 4 (.slice b0 x.l.length m0) (by simp))
  have OW3 : WrAt w3 (w.heap.size + 2) 0 5 := by rw [← hW]; exact (OW2.set ⟨w.heap.size + 2, 4, none⟩ (.slice b0 x.l.length m0))
  have y0 := y0.turn (polOd_keeps d) ht (fun k hk e => by have := hk.1; omega)
  have hz3 := ht.size
  clear hW ht p0 r0 o0 rf0 of0 p1 r1 o1 rf1 of1 p2 r2 o2 rf2 of2 p3 r3 o3 rf3 of3 p4 r4 o4 rf4 of4 P2 R2 RW2 O2 OW2 Y2
  clear Ky0
  have hfin : polOd (d + 1) w3 (Within (w.heap.size + 3) w3.heap.size) [.int .i64 x.kind, .int .i64 x.n, .string x.key, .string x.text, .slice b0 x.l.length m0] x := ⟨_, rfl, q0, q1, y0.widens (fun k hk => ⟨by have := hk.1; omega, by have := hk.2; omega⟩)⟩
  have HF := hide hfin
  clear hfin y0 P3
  have hs3 := B3.size
  have r0 := R3.2 0 _ rfl
  have r1 := R3.2 1 _ rfl
  have r2 := R3.2 2 _ rfl
  have r3 := R3.2 3 _ rfl
  have r4 := R3.2 4 _ rfl
  have o0 := O3.2 0 _ rfl
  have o1 := O3.2 1 _ rfl
  have o2 := O3.2 2 _ rfl
  have o3 := O3.2 3 _ rfl
  have o4 := O3.2 4 _ rfl
  have rf0 : w3.frozen? ⟨w.heap.size + 1, 0, none⟩ = false := RW3.free 0 (by omega)
  have of0 : w3.frozen? ⟨w.heap.size + 2, 0, none⟩ = false := OW3.free 0 (by omega)
  have rf1 : w3.frozen? ⟨w.heap.size + 1, 1, none⟩ = false := RW3.free 1 (by omega)
  have of1 : w3.frozen? ⟨w.heap.size + 2, 1, none⟩ = false := OW3.free 1 (by omega)
  have rf2 : w3.frozen? ⟨w.heap.size + 1, 2, none⟩ = false := RW3.free 2 (by omega)
  have of2 : w3.frozen? ⟨w.heap.size + 2, 2, none⟩ = false := OW3.free 2 (by omega)
  have rf3 : w3.frozen? ⟨w.heap.size + 1, 3, none⟩ = false := RW3.free 3 (by omega)
  have of3 : w3.frozen? ⟨w.heap.size + 2, 3, none⟩ = false := OW3.free 3 (by omega)
  have rf4 : w3.frozen? ⟨w.heap.size + 1, 4, none⟩ = false := RW3.free 4 (by omega)
  have of4 : w3.frozen? ⟨w.heap.size + 2, 4, none⟩ = false := OW3.free 4 (by omega)
  have YR := hide (And.intro R3 RW3)
  clear R3 RW3 O3 OW3
  go_wp2
  generalize hW : World.setCell (World.setCell (World.setCell (World.setCell (World.setCell w3 _ _) _ _) _ _) _ _) _ _ = wz
  have ht : Turn (fun k => k < w.heap.size + 3 ∧ w.heap.size ≤ k) w3 wz := by rw [← hW]; repeat (first | with_reducible exact Turn.refl _ _ | (with_reducible refine Turn.setIn ?_ ?side _; case side => (show _ < _ ∧ _ ≤ _; exact ⟨by simp, by simp⟩)))
  have RZ : Held wz (w.heap.size + 1) [.int .i64 x.kind, .int .i64 x.n, .string x.key, .string x.text, .slice b0 x.l.length m0] := by rw [← hW]; exact ((((((unhide YR).1.set 0 (.int .i64 x.kind) (by simp)).set 1 (.int .i64 x.n) (by simp)).set 2 (.string x.key) (by simp)).set 3 (.string x.text) (by simp)).set 4 (.slice b0 x.l.length m0) (by simp))
  clear hW r0 o0 rf0 of0 r1 o1 rf1 of1 r2 o2 rf2 of2 r3 o3 rf3 of3 r4 o4 rf4 of4
  have r0 := RZ.2 0 _ rfl
  have r1 := RZ.2 1 _ rfl
  have r2 := RZ.2 2 _ rfl
  have r3 := RZ.2 3 _ rfl
  have r4 := RZ.2 4 _ rfl
  refine bodyPost_ret (v := .agg #[.int .i64 x.kind, .int .i64 x.n, .string x.key, .string x.text, .slice b0 x.l.length m0]) (by simp [results, Try.results11, go_sem, *]) rfl ⟨[.int .i64 x.kind, .int .i64 x.n, .string x.key, .string x.text, .slice b0 x.l.length m0], rfl, ?_, B3.trans (ht.belowFrom hs3 (fun k hk => hk.2))⟩
  exact own_fin (polOd_keeps (d + 1)) (polOd_widens (d + 1)) (unhide HF) ht (fun k hk e => by have := e.1; omega) (by omega)

theorem toP : ∀ d, ToP d
  | 0 => fun _ _ _ _ _ h => h.elim
  | d + 1 => fun x S cs w hb hx => dToPol d (toP d) x S cs w hb hx
set_option maxHeartbeats 4000000 in
theorem dEqPolS (d : Nat) (ih : EqP d) (l : List PolD) (S S' : Nat → Prop) (v v' : Value) (w : World) (ha : LAt 5 (polRd d) w S v l) (hb : LAt 5 (polRd d) w S' v' l) :
    Calls Try.prog 34 #[v, v'] w fun e w' => e = .returned (.bool true) ∧ Below w.heap.size w w' := by
  obtain ⟨a, cap, rfl⟩ := ha.form
  obtain ⟨a', cap', rfl⟩ := hb.form
  have hl := ha.len
  have HA := hide ha
  have HB := hide hb
  clear ha hb
  go_enter Try.func34, Try.ntmps34
  go_wp2
  go_loopw [5] (fun i wk => ∃ k : Nat, k ≤ l.length ∧ i = .int .i64 k ∧ Below w.heap.size w wk) (fun i _ => l.length - (intOf i).toNat)
  case atStart => exact ⟨0, Nat.zero_le _, rfl, Below.refl _ _⟩
  case round =>
    obtain ⟨k, hk, rfl, hbl⟩ := hrel
    have hbs := hbl.size
    by_cases hlt : k < l.length
    · have hki : (k : Int) < (l.length : Int) := by omega
      obtain ⟨b, o, cs, rfl, hbk, hSb, hcs, hin⟩ := (unhide HA).at k hlt
      have hcs := polRd_keeps d _ _ S None1 cs _ (Below.turn hbl) none_off hcs
      have hin := hin.turn hbk (Below.turn hbl) (fun e => e)
      have hbkA := Nat.lt_of_lt_of_le hbk hbs
      obtain ⟨b', o', cs2, rfl, hbk', hSb', hcs2, hin2⟩ := (unhide HB).at k hlt
      have hcs2 := polRd_keeps d _ _ S' None1 cs2 _ (Below.turn hbl) none_off hcs2
      have hin2 := hin2.turn hbk' (Below.turn hbl) (fun e => e)
      have hbkB := Nat.lt_of_lt_of_le hbk' hbs
      have hrw : RowT Try.prog 29 cs.length := by rw [polRd_len hcs]; exact rowIPol
      have hrw2 : RowT Try.prog 29 cs2.length := by rw [polRd_len hcs2]; exact rowIPol
      generalize l[k] = X at *
      go_upto_region 6 with fail
      refine wp_region_held_drew (S := fun w' => Below wr.heap.size wr w') (by kernel_rfl) (Below.drew (Below.refl _ _)) (fun hHeld => ?_)
      refine wpAnyH_take (i := 0) (oi := ?oo1) (v := ?vv1) ?hi1 (by kernel_rfl) (by kernel_rfl) (by kernel_rfl) ?hQ1 ?hy1 (by assumption) ?rest1
      case hi1 => (simp only [List.getElem?_toArray, List.getElem?_cons_zero]; rfl)
      case hQ1 => exact fun _ _ _ h => h
      case hy1 => exact Or.inl ⟨by rfl, by intro wS hSw; (try dsimp only at hSw); go_simp; try first | (with_reducible rfl) | (simp only [*]; done) | omega⟩
      try simp only [Act.put, List.setIfInBounds_toArray, List.set_cons_zero, List.set_cons_succ]
      refine wpAnyH_take (i := 1) (oi := ?oo2) (v := ?vv2) ?hi2 (by kernel_rfl) (by kernel_rfl) (by kernel_rfl) ?hQ2 ?hy2 (by assumption) ?rest2
      case hi2 => (simp only [List.getElem?_toArray, List.getElem?_cons_zero, List.getElem?_cons_succ]; rfl)
      case hQ2 => exact fun _ _ _ h => h
      case hy2 => exact Or.inl ⟨by rfl, by intro wS hSw; (try dsimp only at hSw); go_simp; try first | (with_reducible rfl) | (simp only [*]; done) | omega⟩
      try simp only [Act.put, List.setIfInBounds_toArray, List.set_cons_zero, List.set_cons_succ]
      refine wpAnyH_take (i := 2) (oi := ?oo3) (v := ?vv3) ?hi3 (by kernel_rfl) (by kernel_rfl) (by kernel_rfl) ?hQ3 ?hy3 (by assumption) ?rest3
      case hi3 => (simp only [List.getElem?_toArray, List.getElem?_cons_zero, List.getElem?_cons_succ]; rfl)
      case hQ3 => exact fun _ _ _ h => h
      case hy3 => exact Or.inl ⟨by rfl, by intro wS hSw; (try dsimp only at hSw); go_simp; try first | (with_reducible rfl) | (simp only [*]; done) | omega⟩
      try simp only [Act.put, List.setIfInBounds_toArray, List.set_cons_zero, List.set_cons_succ]
      refine wpAnyH_take (i := 3) (oi := ?oo4) (v := .agg cs.toArray) ?hi4 (by kernel_rfl) (by kernel_rfl) (by kernel_rfl) ?hQ4 ?hy4 (by assumption) ?rest4
      case hi4 => (simp only [List.getElem?_toArray, List.getElem?_cons_zero, List.getElem?_cons_succ]; rfl)
      case hQ4 => exact fun _ _ _ h => h
      case hy4 => exact yld_load (by rfl) _ _ rfl _ _ rfl cs (fun w' hS => hin.turn hbkA (Below.turn hS) (fun e => e)) hrw
      try simp only [Act.put, List.setIfInBounds_toArray, List.set_cons_zero, List.set_cons_succ]
      refine wpAnyH_take (i := 4) (oi := ?oo5) (v := ?vv5) ?hi5 (by kernel_rfl) (by kernel_rfl) (by kernel_rfl) ?hQ5 ?hy5 (by assumption) ?rest5
      case hi5 => (simp only [List.getElem?_toArray, List.getElem?_cons_zero, List.getElem?_cons_succ]; rfl)
      case hQ5 => exact fun _ _ _ h => h
      case hy5 => exact Or.inl ⟨by rfl, by intro wS hSw; (try dsimp only at hSw); go_simp; try first | (with_reducible rfl) | (simp only [*]; done) | omega⟩
      try simp only [Act.put, List.setIfInBounds_toArray, List.set_cons_zero, List.set_cons_succ]
      refine wpAnyH_take (i := 5) (oi := ?oo6) (v := ?vv6) ?hi6 (by kernel_rfl) (by kernel_rfl) (by kernel_rfl) ?hQ6 ?hy6 (by assumption) ?rest6
      case hi6 => (simp only [List.getElem?_toArray, List.getElem?_cons_zero, List.getElem?_cons_succ]; rfl)
      case hQ6 => exact fun _ _ _ h => h
      case hy6 => exact Or.inl ⟨by rfl, by intro wS hSw; (try dsimp only at hSw); go_simp; try first | (with_reducible rfl) | (simp only [*]; done) | omega⟩
      try simp only [Act.put, List.setIfInBounds_toArray, List.set_cons_zero, List.set_cons_succ]
      refine wpAnyH_take (i := 6) (oi := ?oo7) (v := ?vv7) ?hi7 (by kernel_rfl) (by kernel_rfl) (by kernel_rfl) ?hQ7 ?hy7 (by assumption) ?rest7
      case hi7 => (simp only [List.getElem?_toArray, List.getElem?_cons_zero, List.getElem?_cons_succ]; rfl)
      case hQ7 => exact fun _ _ _ h => h
      case hy7 => exact Or.inl ⟨by rfl, by intro wS hSw; (try dsimp only at hSw); go_simp; try first | (with_reducible rfl) | (simp only [*]; done) | omega⟩
      try simp only [Act.put, List.setIfInBounds_toArray, List.set_cons_zero, List.set_cons_succ]
      refine wpAnyH_take (i := 7) (oi := ?oo8) (v := .agg cs2.toArray) ?hi8 (by kernel_rfl) (by kernel_rfl) (by kernel_rfl) ?hQ8 ?hy8 (by assumption) ?rest8
      case hi8 => (simp only [List.getElem?_toArray, List.getElem?_cons_zero, List.getElem?_cons_succ]; rfl)
      case hQ8 => exact fun _ _ _ h => h
      case hy8 => exact yld_load (by rfl) _ _ rfl _ _ rfl cs2 (fun w' hS => hin2.turn hbkB (Below.turn hS) (fun e => e)) hrw2
      try simp only [Act.put, List.setIfInBounds_toArray, List.set_cons_zero, List.set_cons_succ]
      refine wpAnyH_ready (rs := [8]) (by kernel_rfl) (by simp) ?_
      refine (AllReadyH.cons (o := ?bo9n8) ?bh9n8 (fun K hK => ?br9n8) AllReadyH.nil)
      case bh9n8 => (simp only [List.getElem?_toArray, List.getElem?_cons_zero, List.getElem?_cons_succ]; rfl)
      case br9n8 =>
        go_simp
        refine (ih X S S' cs cs2 _ (polRd_keeps d _ _ _ None1 _ _ (Below.turn hHeld) none_off hcs) (polRd_keeps d _ _ _ None1 _ _ (Below.turn hHeld) none_off hcs2)).mono ?_
        rintro e w5 ⟨rfl, hb5⟩
        have hH5 := bthen hHeld hb5
        clear hHeld hb5
        go_wp2_with fail
        refine hK.out _ _ (hH5) (fun hHeld => ?_)
        clear hK
        refine wpAnyH_take (i := 9) (oi := ?oo10) (v := ?vv10) ?hi10 (by kernel_rfl) (by kernel_rfl) (by kernel_rfl) ?hQ10 ?hy10 (by assumption) ?rest10
        case hi10 => (simp only [List.getElem?_toArray, List.getElem?_cons_zero, List.getElem?_cons_succ]; rfl)
        case hQ10 => exact fun _ _ _ h => h
        case hy10 => exact Or.inl ⟨by rfl, by intro wS hSw; (try dsimp only at hSw); go_simp; try first | (with_reducible rfl) | (simp only [*]; done) | omega⟩
        try simp only [Act.put, List.setIfInBounds_toArray, List.set_cons_zero, List.set_cons_succ]
        refine wpAnyH_done (by kernel_rfl) ?_ _
        go_wp2
        go_roundw
        case rel => exact ⟨k + 1, by omega, by go_num, bthen hbl hHeld⟩
        case measure => simp [intOf]; omega
    · have hki : ¬ (k : Int) < (l.length : Int) := by omega
      go_wp2
      go_ret
      exact ⟨rfl, hbl⟩
set_option maxHeartbeats 4000000 in
theorem dEqPol (d : Nat) (ih : EqP d) (x : PolD) (S S' : Nat → Prop) (cs cs' : List Value) (w : World) (hx : polRd (d + 1) w S cs x) (hy : polRd (d + 1) w S' cs' x) :
    Calls Try.prog 13 #[.agg cs.toArray, .agg cs'.toArray] w fun e w' => e = .returned (.bool true) ∧ Below w.heap.size w w' := by
  obtain ⟨s0, rfl, q0, q1, g0⟩ := hx
  obtain ⟨a0, k0, rfl⟩ := g0.form
  obtain ⟨sy0, rfl, qy0, qy1, gy0⟩ := hy
  obtain ⟨ay0, ky0, rfl⟩ := gy0.form
  have P0 := (Held.new w [.int .i64 x.kind, .int .i64 x.n, .string x.key, .string x.text, .slice a0 x.l.length k0] 29).keep (bnew _ (.cells #[.int .i64 x.kind, .int .i64 x.n, .string x.key, .string x.text, .slice ay0 x.l.length ky0] 29))
  have Q0 := Held.new (w.alloc (.cells #[.int .i64 x.kind, .int .i64 x.n, .string x.key, .string x.text, .slice a0 x.l.length k0] 29)) [.int .i64 x.kind, .int .i64 x.n, .string x.key, .string x.text, .slice ay0 x.l.length ky0] 29
  rw [show (w.alloc (.cells #[.int .i64 x.kind, .int .i64 x.n, .string x.key, .string x.text, .slice a0 x.l.length k0] 29)).heap.size = w.heap.size + 1 by simp] at Q0
  have B0 := bthen (bnew w (.cells #[.int .i64 x.kind, .int .i64 x.n, .string x.key, .string x.text, .slice a0 x.l.length k0] 29)) (bnew _ (.cells #[.int .i64 x.kind, .int .i64 x.n, .string x.key, .string x.text, .slice ay0 x.l.length ky0] 29))
  go_enter Try.func13, Try.ntmps13
  go_wp2_with fail
  generalize World.alloc (World.alloc w _) _ = w0 at *
  refine (dEqPolS d ih x.l S S' _ _ _ (g0.at1.keep (polRd_keeps d) B0) (gy0.at1.keep (polRd_keeps d) B0)).mono ?_
  rintro e w1 ⟨rfl, hb1⟩
  have B1 := bthen B0 hb1
  have P1 := P0.keep hb1
  have Q1 := Q0.keep hb1
  clear hb1
  have p0 := P1.2 0 _ rfl
  have p1 := P1.2 1 _ rfl
  have p2 := P1.2 2 _ rfl
  have p3 := P1.2 3 _ rfl
  have p4 := P1.2 4 _ rfl
  have q_0 := Q1.2 0 _ rfl
  have q_1 := Q1.2 1 _ rfl
  have q_2 := Q1.2 2 _ rfl
  have q_3 := Q1.2 3 _ rfl
  have q_4 := Q1.2 4 _ rfl
  go_wp2
  go_ret
  exact ⟨rfl, B1⟩

theorem eqP : ∀ d, EqP d
  | 0 => fun _ _ _ _ _ _ h _ => h.elim
  | d + 1 => fun x S S' cs cs' w hx hy => dEqPol d (eqP d) x S S' cs cs' w hx hy
theorem mSzPol (x : PolD) (S : Nat → Prop) (cs : List Value) (left : Int) (w : World) (h0 : 0 ≤ left) (h1 : left ≤ 1048576) (hx : polR w S cs x) :
    Calls Try.prog 9 #[.agg cs.toArray, .int .i64 left] w fun e w' => (∃ z : Int, e = .returned (.int .i64 z) ∧ (z < 0 ∨ (0 ≤ z ∧ z + polBulk x ≤ left))) ∧ Below w.heap.size w w' := by
  obtain ⟨d, hx⟩ := hx; exact szP d x S cs left w h0 h1 hx
theorem mToPol (x : PolD) (S : Nat → Prop) (cs : List Value) (w : World) (hb : polBulk x ≤ 1048576) (hx : polR w S cs x) :
    Calls Try.prog 11 #[.agg cs.toArray] w fun e w' => ∃ cs', e = .returned (.agg cs'.toArray) ∧ polO w' (Within w.heap.size w'.heap.size) cs' x ∧ Below w.heap.size w w' := by
  obtain ⟨d, hx⟩ := hx
  refine (toP d x S cs w hb hx).mono ?_
  rintro e w' ⟨cs', rfl, h, hb⟩
  exact ⟨cs', rfl, ⟨d, h⟩, hb⟩
theorem mEqPol (x : PolD) (S S' : Nat → Prop) (cs cs' : List Value) (w : World) (hx : polR w S cs x) (hy : polR w S' cs' x) :
    Calls Try.prog 13 #[.agg cs.toArray, .agg cs'.toArray] w fun e w' => e = .returned (.bool true) ∧ Below w.heap.size w w' := by
  obtain ⟨d, hx⟩ := hx
  obtain ⟨d', hy⟩ := hy
  exact eqP (max d d') x S S' cs cs' w (polRd_le (Nat.le_max_left _ _) hx) (polRd_le (Nat.le_max_right _ _) hy)
theorem polR_len {w : World} {S : Nat → Prop} {cs : List Value} {x : PolD} (h : polR w S cs x) : cs.length = 5 := by obtain ⟨d, h⟩ := h; exact polRd_len h
theorem polR_one {w : World} {S : Nat → Prop} {cs : List Value} {x : PolD} (h : polR w S cs x) : One cs := by obtain ⟨d, h⟩ := h; exact polRd_one h
end Go.Proofs.Ytlhjhnjpmafceaa
