/-
  Verdict: what lies in memory, read and owned; contracts of the law's own sizes, copies and comparisons.
-/
import Derived.Test.YtlhjhnjpmafceabMem
import Derived.Deep.CutRange
namespace Go.Proofs.Ytlhjhnjpmafceab
open Go.ChangeShapes Go.WideShapes Go.ChangeAt Go.RowKit
set_option linter.unusedVariables false
set_option maxRecDepth 100000

structure VerdictD where
  trace : Int
  stamp : Int
  keep : Bool
def verdictBulk (x : VerdictD) : Nat := 0
def verdictR (w : World) (S : Nat → Prop) (cs : List Value) (x : VerdictD) : Prop := cs = [.int .i64 x.trace, .int .i64 x.stamp, .bool x.keep]
def verdictO (w : World) (S : Nat → Prop) (cs : List Value) (x : VerdictD) : Prop := cs = [.int .i64 x.trace, .int .i64 x.stamp, .bool x.keep]
theorem verdictR_keeps : Keeps verdictR := fun _ _ _ _ _ _ _ _ h => h
theorem verdictR_widens : Widens verdictR := fun _ _ _ _ _ _ h => h
theorem verdictO_keeps : Keeps verdictO := fun _ _ _ _ _ _ _ _ h => h
theorem verdictO_widens : Widens verdictO := fun _ _ _ _ _ _ h => h
theorem verdictO_read (w : World) (S : Nat → Prop) (cs : List Value) (x : VerdictD) (h : verdictO w S cs x) : verdictR w S cs x := h
theorem verdictO_len {w : World} {S : Nat → Prop} {cs : List Value} {x : VerdictD} (h : verdictO w S cs x) : cs.length = 3 := by
  rw [show cs = _ from h]; rfl

set_option maxHeartbeats 4000000 in
theorem mToVerdict (x : VerdictD) (S : Nat → Prop) (cs : List Value) (w : World) (hb : verdictBulk x ≤ 1048576) (hx : verdictR w S cs x) :
    Calls Try.prog 43 #[.agg cs.toArray] w fun e w' => ∃ cs', e = .returned (.agg cs'.toArray) ∧ verdictO w' (Within w.heap.size w'.heap.size) cs' x ∧ Below w.heap.size w w' := by
  obtain rfl := hx
  go_enter Try.func43, Try.ntmps43
  go_wp2
  exact bodyPost_ret (v := .agg #[.int .i64 x.trace, .int .i64 x.stamp, .bool x.keep]) (by simp [results, Try.results43, go_sem]) rfl ⟨_, rfl, rfl, by (repeat (first | with_reducible assumption | with_reducible exact Below.refl _ _ | with_reducible refine Below.drew ?_ | with_reducible refine bdrewN ?_ _ | (with_reducible refine Below.alloc ?_ ?side _; case side => (first | omega | (simp [go_sem]; done) | (simp [go_sem]; omega))) | (with_reducible refine Below.setCell ?_ ?side _; case side => (first | omega | (simp [go_sem]; done) | (simp [go_sem]; omega)))))⟩

set_option maxHeartbeats 4000000 in
theorem mEqVerdict (x : VerdictD) (S S' : Nat → Prop) (cs cs' : List Value) (w : World) (hx : verdictR w S cs x) (hy : verdictR w S' cs' x) :
    Calls Try.prog 104 #[.agg cs.toArray, .agg cs'.toArray] w fun e w' => e = .returned (.bool true) ∧ Below w.heap.size w w' := by
  obtain rfl := hx
  obtain rfl := hy
  go_enter Try.func104, Try.ntmps104
  go_wp2
  go_ret
  exact ⟨rfl, by (repeat (first | with_reducible assumption | with_reducible exact Below.refl _ _ | with_reducible refine Below.drew ?_ | with_reducible refine bdrewN ?_ _ | (with_reducible refine Below.alloc ?_ ?side _; case side => (first | omega | (simp [go_sem]; done) | (simp [go_sem]; omega))) | (with_reducible refine Below.setCell ?_ ?side _; case side => (first | omega | (simp [go_sem]; done) | (simp [go_sem]; omega)))))⟩

theorem mInfoVerdict : (Try.prog.info? 78).map (fun i => (i.zero, i.size, i.bytes)) = some (some (.agg #[.int .i64 0, .int .i64 0, .bool false]), 3, 24) := by kernel_rfl
theorem mMakeVerdict (n : Nat) (hn : n ≤ 1048576) (w : World) : ∃ w0, (Instr.makeSlice 74 (.int .i64 n) (.int .i64 n)).run Try.prog w = .ok (.slice (some ⟨w.heap.size, 0, none⟩) n n) w0 ∧ WrAt w0 w.heap.size 0 (n * 3) ∧ Below w.heap.size w w0 := by
  obtain ⟨i0, hi, hz0, hz1, hz2⟩ := info_parts mInfoVerdict
  have h := run_make (P := Try.prog) w 74 78 i0 _ Try.underlying74 hi hz0 .i64 .i64 n n (by omega) (by omega) (by rw [hz2]; omega) (by omega)
  refine ⟨_, h, ?_, bnew _ _⟩
  rw [hz1]
  exact WrAt.new _ _ _ _ (by rw [size_madeCells]; simp)

set_option maxHeartbeats 4000000 in
theorem mToVerdictS (l : List VerdictD) (S : Nat → Prop) (v : Value) (w : World) (h1 : bulkL verdictBulk l ≤ 1048576) (ha : LAt 3 verdictR w S v l) :
    Calls Try.prog 42 #[v] w fun e w' => ∃ v', e = .returned v' ∧ LOw 3 verdictO w' (Within w.heap.size w'.heap.size) v' l ∧ Below w.heap.size w w' := by
  obtain ⟨a, cap, rfl⟩ := ha.form
  have hl := bulkL_len verdictBulk l
  have HA := hide ha
  clear ha
  obtain ⟨w0, hmk, hrow, hb0⟩ := mMakeVerdict l.length (by omega) w
  go_enter Try.func42, Try.ntmps42
  go_wp2
  go_loopw [4] (fun i wk => ∃ k : Nat, k ≤ l.length ∧ i = .int .i64 k ∧ Below w.heap.size w wk ∧ Hid (Filled 3 verdictO w wk l k)) (fun i _ => l.length - (intOf i).toNat)
  case atStart => exact ⟨0, Nat.zero_le _, rfl, hb0, hide (Filled.start _ _ _ _ _ hrow)⟩
  case round =>
    obtain ⟨k, hk, rfl, hbl, hfl⟩ := hrel
    have hbs := hbl.size
    by_cases hlt : k < l.length
    · have hki : (k : Int) < (l.length : Int) := by omega
      have hwr := (unhide hfl).1
      have hrs := hwr.1
      have hkn : k * 3 + 3 ≤ l.length * 3 := by omega
      obtain ⟨b, o, cs, rfl, hbk, hSb, hcs, hin⟩ := (unhide HA).at k hlt
      have hcs := verdictR_keeps _ _ S None1 cs _ (Below.turn hbl) none_off hcs
      have hin := hin.turn hbk (Below.turn hbl) (fun e => e)
      have hmem := bulkL_mem verdictBulk (List.getElem_mem hlt)
      generalize hX : l[k] = X at *
      have HX := hide hX
      clear hX
      have hXb : verdictBulk X ≤ 1048576 := by omega
      obtain rfl := hcs
      have c0 : World.cell? _ ⟨b, o + k * 3, none⟩ = some (.int .i64 X.trace) := hin 0 _ rfl
      have c1 : World.cell? _ ⟨b, o + k * 3 + 1, none⟩ = some (.int .i64 X.stamp) := hin 1 _ rfl
      have c2 : World.cell? _ ⟨b, o + k * 3 + 2, none⟩ = some (.bool X.keep) := hin 2 _ rfl
      clear hin
      obtain ⟨u0, hu0⟩ := hwr.cell (k * 3 + 0) (by omega)
      have f0 := hwr.free (k * 3 + 0) (by omega)
      simp only [Nat.zero_add, Nat.add_zero] at hu0 f0
      obtain ⟨u1, hu1⟩ := hwr.cell (k * 3 + 1) (by omega)
      have f1 := hwr.free (k * 3 + 1) (by omega)
      simp only [Nat.zero_add] at hu1 f1
      obtain ⟨u2, hu2⟩ := hwr.cell (k * 3 + 2) (by omega)
      have f2 := hwr.free (k * 3 + 2) (by omega)
      simp only [Nat.zero_add] at hu2 f2
      clear hwr hmk hrow
      go_wp2_with fail
      refine (mToVerdict X S _ _ hXb rfl).mono ?_
      rintro e w2 ⟨cs2, rfl, yy, hb2⟩
      obtain rfl : cs2 = _ := id yy
      rw [← hb2.cell hrs] at hu0 hu1 hu2
      rw [← hb2.frozen hrs] at f0 f1 f2
      have hrs2 := Nat.lt_of_lt_of_le hrs hb2.size
      have HB := hide (And.intro yy hb2)
      clear yy hb2 c0 c1 c2 
      go_wp2
      go_roundw
      case rel =>
        obtain ⟨yy, hb2⟩ := unhide HB
        have st := Filled.step (cs := [.int .i64 X.trace, .int .i64 X.stamp, .bool X.keep]) verdictO_keeps (unhide hfl) hlt hb2 (by rw [unhide HX]; exact yy) rfl
        refine ⟨k + 1, by omega, by go_num, ?_, hide ?_⟩
        · have hbb := bthen hbl hb2
          (repeat (first | with_reducible assumption | with_reducible exact Below.refl _ _ | with_reducible refine Below.drew ?_ | with_reducible refine bdrewN ?_ _ | (with_reducible refine Below.alloc ?_ ?side _; case side => (first | omega | (simp [go_sem]; done) | (simp [go_sem]; omega))) | (with_reducible refine Below.setCell ?_ ?side _; case side => (first | omega | (simp [go_sem]; done) | (simp [go_sem]; omega)))))
        · simp only [putL, Nat.add_zero, Nat.zero_add, Nat.reduceAdd] at st
          exact st
      case measure => simp [intOf]; omega
    · have hki : ¬ (k : Int) < (l.length : Int) := by omega
      obtain rfl : k = l.length := by omega
      go_wp2
      go_ret
      exact ⟨_, rfl, (unhide hfl).done (by omega), hbl⟩

theorem bulk_flatVerdict (l : List VerdictD) : bulkL verdictBulk l = l.length := by
  unfold bulkL
  have : (l.map verdictBulk).sum = 0 := by induction l with | nil => rfl | cons y r ih => rw [List.map_cons, List.sum_cons, ih]; rfl
  omega
theorem mSzVerdictS (l : List VerdictD) (S : Nat → Prop) (v : Value) (left : Int) (w : World) (h0 : 0 ≤ left) (h1 : left ≤ 1048576) (ha : LAt 3 verdictR w S v l) :
    Calls Try.prog 40 #[v, .int .i64 left] w fun e w' => (∃ z : Int, e = .returned (.int .i64 z) ∧ (z < 0 ∨ (0 ≤ z ∧ z + bulkL verdictBulk l ≤ left))) ∧ Below w.heap.size w w' := by
  rw [bulk_flatVerdict]
  obtain ⟨a, cap, rfl⟩ := ha.form
  have hl := ha.len
  clear ha
  by_cases hlen : left < l.length
  · go_enter Try.func40, Try.ntmps40
    go_wp2
    go_ret
    exact ⟨⟨_, rfl, .inl (by omega)⟩, by (repeat (first | with_reducible assumption | with_reducible exact Below.refl _ _ | with_reducible refine Below.drew ?_ | with_reducible refine bdrewN ?_ _ | (with_reducible refine Below.alloc ?_ ?side _; case side => (first | omega | (simp [go_sem]; done) | (simp [go_sem]; omega))) | (with_reducible refine Below.setCell ?_ ?side _; case side => (first | omega | (simp [go_sem]; done) | (simp [go_sem]; omega)))))⟩
  · go_enter Try.func40, Try.ntmps40
    go_wp2
    go_ret
    exact ⟨⟨_, rfl, .inr (by omega)⟩, by (repeat (first | with_reducible assumption | with_reducible exact Below.refl _ _ | with_reducible refine Below.drew ?_ | with_reducible refine bdrewN ?_ _ | (with_reducible refine Below.alloc ?_ ?side _; case side => (first | omega | (simp [go_sem]; done) | (simp [go_sem]; omega))) | (with_reducible refine Below.setCell ?_ ?side _; case side => (first | omega | (simp [go_sem]; done) | (simp [go_sem]; omega)))))⟩

set_option maxHeartbeats 4000000 in
theorem mEqVerdictS (l : List VerdictD) (S S' : Nat → Prop) (v v' : Value) (w : World) (ha : LAt 3 verdictR w S v l) (hb : LAt 3 verdictR w S' v' l) :
    Calls Try.prog 45 #[v, v'] w fun e w' => e = .returned (.bool true) ∧ Below w.heap.size w w' := by
  obtain ⟨a, cap, rfl⟩ := ha.form
  obtain ⟨a', cap', rfl⟩ := hb.form
  have hl := ha.len
  have HA := hide ha
  have HB := hide hb
  clear ha hb
  go_enter Try.func45, Try.ntmps45
  go_wp2
  go_loopw [5] (fun i wk => ∃ k : Nat, k ≤ l.length ∧ i = .int .i64 k ∧ Below w.heap.size w wk) (fun i _ => l.length - (intOf i).toNat)
  case atStart => exact ⟨0, Nat.zero_le _, rfl, Below.refl _ _⟩
  case round =>
    obtain ⟨k, hk, rfl, hbl⟩ := hrel
    have hbs := hbl.size
    by_cases hlt : k < l.length
    · have hki : (k : Int) < (l.length : Int) := by omega
      obtain ⟨b, o, cs, rfl, hbk, hSb, hcs, hin⟩ := (unhide HA).at k hlt
      have hcs := verdictR_keeps _ _ S None1 cs _ (Below.turn hbl) none_off hcs
      have hin := hin.turn hbk (Below.turn hbl) (fun e => e)
      obtain ⟨b', o', cs2, rfl, hbk', hSb', hcs2, hin2⟩ := (unhide HB).at k hlt
      have hcs2 := verdictR_keeps _ _ S' None1 cs2 _ (Below.turn hbl) none_off hcs2
      have hin2 := hin2.turn hbk' (Below.turn hbl) (fun e => e)
      generalize l[k] = X at *
      have HR := hide hcs
      have HR2 := hide hcs2
      obtain rfl := hcs
      obtain rfl := hcs2
      have c0 : World.cell? _ ⟨b, o + k * 3, none⟩ = some (.int .i64 X.trace) := hin 0 _ rfl
      have c1 : World.cell? _ ⟨b, o + k * 3 + 1, none⟩ = some (.int .i64 X.stamp) := hin 1 _ rfl
      have c2 : World.cell? _ ⟨b, o + k * 3 + 2, none⟩ = some (.bool X.keep) := hin 2 _ rfl
      have d0 : World.cell? _ ⟨b', o' + k * 3, none⟩ = some (.int .i64 X.trace) := hin2 0 _ rfl
      have d1 : World.cell? _ ⟨b', o' + k * 3 + 1, none⟩ = some (.int .i64 X.stamp) := hin2 1 _ rfl
      have d2 : World.cell? _ ⟨b', o' + k * 3 + 2, none⟩ = some (.bool X.keep) := hin2 2 _ rfl
      clear hin hin2
      go_wp2_with fail
      go_region_with (go_at_call 104; refine (mEqVerdict X S S' _ _ _ (verdictR_keeps _ _ _ None1 _ _ (Below.turn (Below.drew (Below.refl _ _))) none_off (unhide HR)) (verdictR_keeps _ _ _ None1 _ _ (Below.turn (Below.drew (Below.refl _ _))) none_off (unhide HR2))).mono ?_; rintro e w2 ⟨rfl, hb2⟩)
      all_goals
        go_wp2
        go_roundw
        case rel => exact ⟨k + 1, by omega, by go_num, bthen (by (repeat (first | with_reducible assumption | with_reducible exact Below.refl _ _ | with_reducible refine Below.drew ?_ | with_reducible refine bdrewN ?_ _ | (with_reducible refine Below.alloc ?_ ?side _; case side => (first | omega | (simp [go_sem]; done) | (simp [go_sem]; omega))) | (with_reducible refine Below.setCell ?_ ?side _; case side => (first | omega | (simp [go_sem]; done) | (simp [go_sem]; omega)))))) hb2⟩
        case measure => simp [intOf]; omega
    · have hki : ¬ (k : Int) < (l.length : Int) := by omega
      go_wp2
      go_ret
      exact ⟨rfl, hbl⟩

end Go.Proofs.Ytlhjhnjpmafceab
