/-
  Lists of things in memory; contracts of the law's own sizes, copies and comparisons of them.
-/
import Derived.Test.YtjhlammjnggghaaSpan
namespace Go.Proofs.Ytjhlammjnggghaa
open Go.ChangeShapes Go.WideShapes Go.ChangeAt Go.RowKit
set_option linter.unusedVariables false
set_option maxRecDepth 100000

abbrev SpanD := Int × Int × Int × Int × Bool × List AttrD
def dS : SpanD := (0, 0, 0, 0, false, [])
/-- A thing's six cells, in a block from a place on. -/
def SpanIn (w : World) (b o : Nat) (x : SpanD) : Prop :=
  ∃ sl, w.cell? ⟨b, o, none⟩ = some (.int .i64 x.1) ∧ w.cell? ⟨b, o + 1, none⟩ = some (.int .i64 x.2.1) ∧ w.cell? ⟨b, o + 2, none⟩ = some (.int .i64 x.2.2.1) ∧ w.cell? ⟨b, o + 3, none⟩ = some (.int .i64 x.2.2.2.1) ∧
    w.cell? ⟨b, o + 4, none⟩ = some (.bool x.2.2.2.2.1) ∧ w.cell? ⟨b, o + 5, none⟩ = some sl ∧ AttrsAt w sl x.2.2.2.2.2
theorem SpanIn.keep {w w' : World} {b o : Nat} {x : SpanD} (hb : b < w.heap.size) (h : Below w.heap.size w w') (ha : SpanIn w b o x) : SpanIn w' b o x := by
  obtain ⟨sl, c0, c1, c2, c3, c4, c5, ha⟩ := ha
  refine ⟨sl, ?_, ?_, ?_, ?_, ?_, ?_, ha.keep h⟩ <;> rw [h.cell hb] <;> assumption
def SpansAt (w : World) (v : Value) (l : List SpanD) : Prop :=
  ∃ a cap, v = .slice a l.length cap ∧ l.length ≤ 9223372036854775807 ∧
    (l = [] ∨ ∃ b o, a = some ⟨b, o, none⟩ ∧ b < w.heap.size ∧ ∀ i, i < l.length → SpanIn w b (o + i * 6) (l.getD i dS))
theorem SpansAt.keep {w w' : World} {v : Value} {l : List SpanD} (h : SpansAt w v l) (hb : Below w.heap.size w w') : SpansAt w' v l := by
  obtain ⟨a, cap, rfl, hl, h⟩ := h
  refine ⟨a, cap, rfl, hl, ?_⟩
  rcases h with h | ⟨b, o, h1, h2, h3⟩
  · exact .inl h
  · exact .inr ⟨b, o, h1, Nat.lt_of_lt_of_le h2 hb.size, fun i hi => (h3 i hi).keep h2 hb⟩
theorem SpansAt.form {w : World} {v : Value} {l : List SpanD} (h : SpansAt w v l) : ∃ a cap, v = .slice a l.length cap := by
  obtain ⟨a, cap, e, _⟩ := h; exact ⟨a, cap, e⟩
theorem SpansAt.len {w : World} {v : Value} {l : List SpanD} (h : SpansAt w v l) : l.length ≤ 9223372036854775807 := by
  obtain ⟨a, cap, e, hl, _⟩ := h; exact hl
theorem SpansAt.at {w : World} {a : Option Addr} {n cap : Nat} {l : List SpanD} (h : SpansAt w (.slice a n cap) l) (k : Nat) (hk : k < l.length) :
    ∃ b o, a = some ⟨b, o, none⟩ ∧ b < w.heap.size ∧ SpanIn w b (o + k * 6) (l.getD k dS) := by
  obtain ⟨a', cap', e, hl, h⟩ := h
  injection e with e1 e2 e3
  subst e1
  rcases h with h | ⟨b, o, h1, h2, h3⟩
  · subst h; simp at hk
  · exact ⟨b, o, h1, h2, h3 k hk⟩

/-- How much is in all lists together: each Attr, and its letters. -/
def bulkS (l : List SpanD) : Nat := (l.map fun x => x.2.2.2.2.2.length + bytesA x.2.2.2.2.2).sum
theorem bulkS_snoc (l : List SpanD) (k : Nat) (h : k < l.length) : bulkS (l.take (k + 1)) = bulkS (l.take k) + ((l.getD k dS).2.2.2.2.2.length + bytesA (l.getD k dS).2.2.2.2.2) := by
  unfold bulkS
  rw [List.take_succ_eq_append_getElem h, List.map_append, List.sum_append]
  simp [List.getD, h]
theorem bulkS_mem {l : List SpanD} {x : SpanD} (h : x ∈ l) : x.2.2.2.2.2.length + bytesA x.2.2.2.2.2 ≤ bulkS l := by
  unfold bulkS
  induction l with
  | nil => simp at h
  | cons y r ih =>
    simp only [List.map_cons, List.sum_cons]
    rcases List.mem_cons.1 h with rfl | h
    · omega
    · have := ih h; omega

set_option maxHeartbeats 2000000 in
theorem lawSzSpanS (l : List SpanD) (v : Value) (left : Int) (w : World) (h0 : 0 ≤ left) (h1 : left ≤ 1048576) (ha : SpansAt w v l) :
    Calls Try.prog 82 #[v, .int .i64 left] w fun e w' => (∃ z : Int, e = .returned (.int .i64 z) ∧ (z < 0 ∨ (0 ≤ z ∧ z + l.length + bulkS l ≤ left))) ∧ Below w.heap.size w w' := by
  obtain ⟨a, cap, rfl⟩ := ha.form
  have hl := ha.len
  have HA := hide ha
  clear ha
  by_cases hlen : left < l.length
  case pos =>
    go_enter Try.func82, Try.ntmps82
    go_wp2
    go_ret
    exact ⟨⟨_, rfl, .inl (by omega)⟩, by (repeat (first | with_reducible assumption | with_reducible exact Below.refl _ _ | with_reducible refine Below.drew ?_ | with_reducible refine bdrewN ?_ _ | (with_reducible refine Below.alloc ?_ ?side _; case side => (first | omega | (simp [go_sem]; done) | (simp [go_sem]; omega))) | (with_reducible refine Below.setCell ?_ ?side _; case side => (first | omega | (simp [go_sem]; done) | (simp [go_sem]; omega)))))⟩
  go_enter Try.func82, Try.ntmps82
  go_wp2
  go_loopw [1, 5] (fun z i wk => ∃ (k : Nat) (zz : Int), k ≤ l.length ∧ i = .int .i64 k ∧ z = .int .i64 zz ∧ 0 ≤ zz ∧ zz + l.length + bulkS (l.take k) ≤ left ∧ Below w.heap.size w wk) (fun _ i _ => l.length - (intOf i).toNat)
  case atStart => exact ⟨0, left - l.length, Nat.zero_le _, rfl, by go_num, by omega, by simp [bulkS], Below.refl _ _⟩
  case round =>
    obtain ⟨k, zz, hk, rfl, rfl, hz, hsum, hbl⟩ := hrel
    have hbs := hbl.size
    by_cases hlt : k < l.length
    · obtain ⟨b, o, rfl, hbk, hx⟩ := (unhide HA).at k hlt
      have hby := bulkS_snoc l k hlt
      have hx' := hx.keep hbk hbl
      clear hx
      generalize l.getD k dS = x at *
      obtain ⟨tr, id, st, en, er, at'⟩ := x
      obtain ⟨sl, c0, c1, c2, c3, c4, c5, hat⟩ := hx'
      simp only at c0 c1 c2 c3 c4 c5 hat hby
      obtain ⟨asl, acap, rfl⟩ := hat.form
      have hki : (k : Int) < (l.length : Int) := by omega
      have HT := hide hat
      clear hat
      go_wp2_with fail
      refine (lawSzSpan tr id st en er at' (.slice asl at'.length acap) zz _ hz (by omega) (unhide HT)).mono ?_
      rintro e w2 ⟨⟨z2, rfl, hz2⟩, hb2⟩
      have HZ := hide hz2
      clear hz2
      by_cases hneg : z2 < 0
      · go_wp2
        go_ret
        exact ⟨⟨_, rfl, .inl (by omega)⟩, bthen hbl hb2⟩
      · go_wp2
        go_roundw
        case rel =>
          have hz2 := unhide HZ
          exact ⟨k + 1, z2, by omega, by go_num, rfl, by omega, by omega, bthen hbl hb2⟩
        case measure => simp [intOf]; omega
    · have e : l.take k = l := List.take_of_length_le (by omega)
      rw [e] at hsum
      have hki : ¬ (k : Int) < (l.length : Int) := by omega
      go_wp2
      go_ret
      exact ⟨⟨_, rfl, .inr ⟨hz, hsum⟩⟩, hbl⟩

theorem infoSpan : (Try.prog.info? 33).map (fun i => (i.zero, i.size, i.bytes)) = some (some (.agg #[.int .i64 0, .int .i64 0, .int .i64 0, .int .i64 0, .bool false, .slice none 0 0]), 6, 64) := by kernel_rfl
theorem makeSpans (n : Nat) (hn : n ≤ 1048576) (w : World) : ∃ w0, (Instr.makeSlice 42 (.int .i64 n) (.int .i64 n)).run Try.prog w = .ok (.slice (some ⟨w.heap.size, 0, none⟩) n n) w0 ∧ Row w0 w.heap.size (n * 6) ∧ Below w.heap.size w w0 := by
  obtain ⟨i0, hi, hz0, hz1, hz2⟩ := info_parts infoSpan
  have h := run_make (P := Try.prog) w 42 33 i0 _ Try.underlying42 hi hz0 .i64 .i64 n n (by omega) (by omega) (by rw [hz2]; omega) (by omega)
  refine ⟨_, h, ?_, bnew _ _⟩
  rw [hz1]
  exact Row.new (by rw [size_madeCells]; simp)
theorem AttrsAt.put {w : World} {v : Value} {l : List AttrD} {p : Addr} {u : Value} (h : AttrsAt w v l) (hp : ∀ b o n c, v = .slice (some ⟨b, o, none⟩) n c → p.block ≠ b) : AttrsAt (w.setCell p u) v l := by
  obtain ⟨a, cap, rfl, hl, hwf, h⟩ := h
  refine ⟨a, cap, rfl, hl, hwf, ?_⟩
  rcases h with h | ⟨b, o, rfl, h2, h3⟩
  · exact .inl h
  · have hp := hp b o _ _ rfl
    refine .inr ⟨b, o, rfl, by simpa using h2, fun i hi => ?_⟩
    obtain ⟨c0, c1, c2, c3⟩ := h3 i hi
    have far : ∀ j, (w.setCell p u).cell? ⟨b, j, none⟩ = w.cell? ⟨b, j, none⟩ := fun j => World.cell?_setCell_other _ _ _ _ (fun e => hp (by rw [e]))
    exact ⟨by rw [far]; exact c0, by rw [far]; exact c1, by rw [far]; exact c2, by rw [far]; exact c3⟩
theorem put6_at {w : World} {b m o : Nat} {tr id st en : Int} {er : Bool} {sl : Value} {at' : List AttrD} (hr : Row w b m) (ho : o + 5 < m) (hat : AttrsAt w sl at') (hne : ∀ b' o' n c, sl = .slice (some ⟨b', o', none⟩) n c → b ≠ b') :
    SpanIn ((((((w.setCell ⟨b, o, none⟩ (.int .i64 tr)).setCell ⟨b, o + 1, none⟩ (.int .i64 id)).setCell ⟨b, o + 2, none⟩ (.int .i64 st)).setCell ⟨b, o + 3, none⟩ (.int .i64 en)).setCell ⟨b, o + 4, none⟩ (.bool er)).setCell ⟨b, o + 5, none⟩ sl) b o (tr, id, st, en, er, at') := by
  have r1 := hr.set ⟨b, o, none⟩ (.int .i64 tr)
  have r2 := r1.set ⟨b, o + 1, none⟩ (.int .i64 id)
  have r3 := r2.set ⟨b, o + 2, none⟩ (.int .i64 st)
  have r4 := r3.set ⟨b, o + 3, none⟩ (.int .i64 en)
  have r5 := r4.set ⟨b, o + 4, none⟩ (.bool er)
  refine ⟨sl, ?_, ?_, ?_, ?_, ?_, ?_, ?_⟩
  · rw [cell_off (by omega), cell_off (by omega), cell_off (by omega), cell_off (by omega), cell_off (by omega), World.cell?_setCell_same' _ _ _ (hr.2 o (by omega)).1]
  · rw [cell_off (by omega), cell_off (by omega), cell_off (by omega), cell_off (by omega), World.cell?_setCell_same' _ _ _ (r1.2 (o + 1) (by omega)).1]
  · rw [cell_off (by omega), cell_off (by omega), cell_off (by omega), World.cell?_setCell_same' _ _ _ (r2.2 (o + 2) (by omega)).1]
  · rw [cell_off (by omega), cell_off (by omega), World.cell?_setCell_same' _ _ _ (r3.2 (o + 3) (by omega)).1]
  · rw [cell_off (by omega), World.cell?_setCell_same' _ _ _ (r4.2 (o + 4) (by omega)).1]
  · rw [World.cell?_setCell_same' _ _ _ (r5.2 (o + 5) (by omega)).1]
  · exact (((((hat.put hne).put hne).put hne).put hne).put hne).put hne
theorem put6_keep {w : World} {b o i : Nat} {tr id st en : Int} {er : Bool} {sl : Value} {x : SpanD} (ho : i + 6 ≤ o ∨ o + 6 ≤ i) (h : SpanIn w b i x)
    (hne : ∀ sl', w.cell? ⟨b, i + 5, none⟩ = some sl' → ∀ b' o' n c, sl' = .slice (some ⟨b', o', none⟩) n c → b ≠ b') : SpanIn ((((((w.setCell ⟨b, o, none⟩ (.int .i64 tr)).setCell ⟨b, o + 1, none⟩ (.int .i64 id)).setCell ⟨b, o + 2, none⟩ (.int .i64 st)).setCell ⟨b, o + 3, none⟩ (.int .i64 en)).setCell ⟨b, o + 4, none⟩ (.bool er)).setCell ⟨b, o + 5, none⟩ sl) b i x := by
  obtain ⟨sl', h0, h1, h2, h3, h4, h5, hat⟩ := h
  have hne := hne sl' h5
  refine ⟨sl', ?_, ?_, ?_, ?_, ?_, ?_, (((((hat.put hne).put hne).put hne).put hne).put hne).put hne⟩ <;>
  · rw [cell_off (by omega), cell_off (by omega), cell_off (by omega), cell_off (by omega), cell_off (by omega), cell_off (by omega)]
    assumption

set_option maxHeartbeats 4000000 in
theorem lawToSpanS (l : List SpanD) (v : Value) (w : World) (h1 : l.length ≤ 1048576) (h2 : bulkS l ≤ 1048576) (ha : SpansAt w v l) :
    Calls Try.prog 85 #[v] w fun e w' => ∃ b, e = .returned (.slice (some ⟨b, 0, none⟩) l.length l.length) ∧ w.heap.size ≤ b ∧ SpansAt w' (.slice (some ⟨b, 0, none⟩) l.length l.length) l ∧ Below w.heap.size w w' := by
  obtain ⟨a, cap, rfl⟩ := ha.form
  have hl := ha.len
  have HA := hide ha
  clear ha
  obtain ⟨w0, hmk, hrow, hb0⟩ := makeSpans l.length h1 w
  go_enter Try.func85, Try.ntmps85
  go_wp2
  go_loopw [4] (fun i wk => ∃ k : Nat, k ≤ l.length ∧ i = .int .i64 k ∧ Below w.heap.size w wk ∧ Row wk w.heap.size (l.length * 6) ∧
    Hid (∀ j, j < k → SpanIn wk w.heap.size (j * 6) (l.getD j dS) ∧ ∃ bj n, wk.cell? ⟨w.heap.size, j * 6 + 5, none⟩ = some (.slice (some ⟨bj, 0, none⟩) n n) ∧ w.heap.size ≠ bj)) (fun i _ => l.length - (intOf i).toNat)
  case atStart => exact ⟨0, Nat.zero_le _, rfl, hb0, hrow, hide (fun j hj => absurd hj (Nat.not_lt_zero _))⟩
  case round =>
    obtain ⟨k, hk, rfl, hbl, hr, hdone⟩ := hrel
    have hbs := hbl.size
    by_cases hlt : k < l.length
    · obtain ⟨b, o, rfl, hbk, hx⟩ := (unhide HA).at k hlt
      have hbulk := bulkS_mem (getD_mem l dS k hlt)
      have hx' := hx.keep hbk hbl
      clear hx
      generalize hX : l.getD k dS = x at hx' hbulk
      have HX := hide hX
      clear hX
      obtain ⟨tr, id, st, en, er, at'⟩ := x
      obtain ⟨sl, c0, c1, c2, c3, c4, c5, hat⟩ := hx'
      simp only at c0 c1 c2 c3 c4 c5 hat hbulk
      obtain ⟨asl, acap, rfl⟩ := hat.form
      have hki : (k : Int) < (l.length : Int) := by omega
      have HT := hide hat
      clear hat
      obtain ⟨u0, hu0⟩ := hr.cell (k * 6) (by omega)
      obtain ⟨u1, hu1⟩ := hr.cell (k * 6 + 1) (by omega)
      obtain ⟨u2, hu2⟩ := hr.cell (k * 6 + 2) (by omega)
      obtain ⟨u3, hu3⟩ := hr.cell (k * 6 + 3) (by omega)
      obtain ⟨u4, hu4⟩ := hr.cell (k * 6 + 4) (by omega)
      obtain ⟨u5, hu5⟩ := hr.cell (k * 6 + 5) (by omega)
      have f0 := (hr.2 (k * 6) (by omega)).2
      have f1 := (hr.2 (k * 6 + 1) (by omega)).2
      have f2 := (hr.2 (k * 6 + 2) (by omega)).2
      have f3 := (hr.2 (k * 6 + 3) (by omega)).2
      have f4 := (hr.2 (k * 6 + 4) (by omega)).2
      have f5 := (hr.2 (k * 6 + 5) (by omega)).2
      have hrs := hr.1
      have HR := hide hr
      clear hr hmk
      go_wp2_with fail
      refine (lawToSpan tr id st en er at' (.slice asl at'.length acap) _ (by omega) (unhide HT)).mono ?_
      rintro e w2 ⟨bj, rfl, hbj, hat2, hb2⟩
      rw [← hb2.cell hrs] at hu0 hu1 hu2 hu3 hu4 hu5
      rw [← hb2.frozen hrs] at f0 f1 f2 f3 f4 f5
      have hrs2 := Nat.lt_of_lt_of_le hrs hb2.size
      have HB := hide hb2
      have HT2 := hide hat2
      clear hb2 hat2 c0 c1 c2 c3 c4 c5
      go_wp2
      go_roundw
      case rel =>
        have hb2 := unhide HB
        have hr2 := (unhide HR).keep hb2
        have hne : ∀ b' o' n c, Value.slice (some ⟨bj, 0, none⟩) at'.length at'.length = .slice (some ⟨b', o', none⟩) n c → w.heap.size ≠ b' := by
          intro b' o' n c e
          injection e with e1
          injection e1 with e1
          injection e1 with e1
          omega
        refine ⟨k + 1, by omega, by go_num, ?_, ?_, ?_⟩
        · exact ((((((bthen hbl hb2).setCell (Nat.le_refl _) _).setCell (Nat.le_refl _) _).setCell (Nat.le_refl _) _).setCell (Nat.le_refl _) _).setCell (Nat.le_refl _) _).setCell (Nat.le_refl _) _
        · exact (((((hr2.set _ _).set _ _).set _ _).set _ _).set _ _).set _ _
        · refine hide (fun j hj => ?_)
          by_cases hjk : j = k
          · subst hjk
            rw [unhide HX]
            have hp := put6_at (tr := tr) (id := id) (st := st) (en := en) (er := er) hr2 (o := j * 6) (by omega) (unhide HT2) hne
            refine ⟨hp, bj, at'.length, ?_, by omega⟩
            obtain ⟨sl', _, _, _, _, _, c5, _⟩ := hp
            rw [World.cell?_setCell_same' _ _ _ ((((((hr2.set _ _).set _ _).set _ _).set _ _).set _ _).2 (j * 6 + 5) (by omega)).1]
          · obtain ⟨q1, b', n', q2, q3⟩ := unhide hdone j (by omega)
            have q2' : w2.cell? ⟨w.heap.size, j * 6 + 5, none⟩ = some (.slice (some ⟨b', 0, none⟩) n' n') := by rw [hb2.cell hrs]; exact q2
            refine ⟨put6_keep (by omega) (q1.keep hrs hb2) (fun sl' e b'' o'' n'' c'' e' => ?_), b', n', ?_, q3⟩
            · rw [q2'] at e
              injection e with e
              rw [← e] at e'
              injection e' with e1
              injection e1 with e1
              injection e1 with e1
              omega
            · rw [cell_off (by omega), cell_off (by omega), cell_off (by omega), cell_off (by omega), cell_off (by omega), cell_off (by omega)]
              exact q2'
      case measure => simp [intOf]; omega
    · have hki : ¬ (k : Int) < (l.length : Int) := by omega
      obtain rfl : k = l.length := by omega
      go_wp2
      go_ret
      exact ⟨_, rfl, Nat.le_refl _, ⟨_, _, rfl, hl, .inr ⟨_, _, rfl, hr.1, fun i hi => by rw [Nat.zero_add]; exact (unhide hdone i hi).1⟩⟩, hbl⟩

set_option maxHeartbeats 4000000 in
theorem lawEqSpanS (l : List SpanD) (v v' : Value) (w : World) (ha : SpansAt w v l) (hb : SpansAt w v' l) :
    Calls Try.prog 88 #[v, v'] w fun e w' => e = .returned (.bool true) ∧ Below w.heap.size w w' := by
  obtain ⟨a, cap, rfl⟩ := ha.form
  obtain ⟨a', cap', rfl⟩ := hb.form
  have hl := ha.len
  have HA := hide ha
  have HB := hide hb
  clear ha hb
  go_enter Try.func88, Try.ntmps88
  go_wp2
  go_loopw [5] (fun i wk => ∃ k : Nat, k ≤ l.length ∧ i = .int .i64 k ∧ Below w.heap.size w wk) (fun i _ => l.length - (intOf i).toNat)
  case atStart => exact ⟨0, Nat.zero_le _, rfl, Below.refl _ _⟩
  case round =>
    obtain ⟨k, hk, rfl, hbl⟩ := hrel
    have hbs := hbl.size
    by_cases hlt : k < l.length
    · obtain ⟨b, o, rfl, hbk, hx⟩ := (unhide HA).at k hlt
      obtain ⟨b', o', rfl, hbk', hx'⟩ := (unhide HB).at k hlt
      have hy := hx.keep hbk hbl
      have hy' := hx'.keep hbk' hbl
      clear hx hx'
      generalize l.getD k dS = x at *
      obtain ⟨tr, id, st, en, er, at'⟩ := x
      obtain ⟨sl, c0, c1, c2, c3, c4, c5, hat⟩ := hy
      obtain ⟨sl', d0, d1, d2, d3, d4, d5, hat'⟩ := hy'
      simp only at c0 c1 c2 c3 c4 c5 hat d0 d1 d2 d3 d4 d5 hat'
      obtain ⟨asl, acap, rfl⟩ := hat.form
      obtain ⟨asl', acap', rfl⟩ := hat'.form
      have hki : (k : Int) < (l.length : Int) := by omega
      have HT := hide hat
      have HT' := hide hat'
      clear hat hat'
      go_wp2_with fail
      go_region_with (go_at_call 18; refine (lawEqSpan tr id st en er at' _ _ _ ((unhide HT).keep (Below.drew (Below.refl _ _))) ((unhide HT').keep (Below.drew (Below.refl _ _)))).mono ?_; rintro e w2 ⟨rfl, hb2⟩)
      all_goals
        go_wp2
        go_roundw
        case rel => exact ⟨k + 1, by omega, by go_num, bthen (by (repeat (first | with_reducible assumption | with_reducible exact Below.refl _ _ | with_reducible refine Below.drew ?_ | with_reducible refine bdrewN ?_ _ | (with_reducible refine Below.alloc ?_ ?side _; case side => (first | omega | (simp [go_sem]; done) | (simp [go_sem]; omega))) | (with_reducible refine Below.setCell ?_ ?side _; case side => (first | omega | (simp [go_sem]; done) | (simp [go_sem]; omega)))))) hb2⟩
        case measure => simp [intOf]; omega
    · have hki : ¬ (k : Int) < (l.length : Int) := by omega
      go_wp2
      go_ret
      exact ⟨rfl, hbl⟩

end Go.Proofs.Ytjhlammjnggghaa
