/-
  Contracts of chapter 15's DeedOk and Ahead, of the program and of the specification.
-/
import Derived.Test.YtklhljknkcmecaaTDeed
import Derived.Test.YtklhljknkcmecaaADeed
import Derived.Test.YtklhljknkcmecaaAbs2
namespace Go.Proofs.Ytklhljknkcmecaa
open Go.ChangeShapes Go.WideShapes Go.ChangeAt Go.RowKit
set_option linter.unusedVariables false
set_option maxRecDepth 100000

def tookB (x : DeedD) : Bool := x.lin != -1
def doneB (x : DeedD) : Bool := x.res != -1
theorem implTook (x : DeedD) (S0 : Nat → Prop) (c0 : List Value) (w : World) (h0 : deedR w S0 c0 x) :
    Calls Try.prog 88 #[.agg c0.toArray] w fun e w' => e = .returned (.bool (tookB x)) ∧ Below w.heap.size w w' := by
    obtain ⟨s, rfl, g⟩ := h0
    obtain ⟨a, k, rfl⟩ := g.form
    go_enter Try.func88, Try.ntmps88
    go_wp2
    go_ret
    exact ⟨rfl, by (repeat (first | with_reducible assumption | with_reducible exact Below.refl _ _ | with_reducible refine Below.drew ?_ | with_reducible refine bdrewN ?_ _ | (with_reducible refine Below.alloc ?_ ?side _; case side => (first | omega | (simp [go_sem]; done) | (simp [go_sem]; omega))) | (with_reducible refine Below.setCell ?_ ?side _; case side => (first | omega | (simp [go_sem]; done) | (simp [go_sem]; omega)))))⟩
theorem implDone (x : DeedD) (S0 : Nat → Prop) (c0 : List Value) (w : World) (h0 : deedR w S0 c0 x) :
    Calls Try.prog 63 #[.agg c0.toArray] w fun e w' => e = .returned (.bool (doneB x)) ∧ Below w.heap.size w w' := by
    obtain ⟨s, rfl, g⟩ := h0
    obtain ⟨a, k, rfl⟩ := g.form
    go_enter Try.func63, Try.ntmps63
    go_wp2
    go_ret
    exact ⟨rfl, by (repeat (first | with_reducible assumption | with_reducible exact Below.refl _ _ | with_reducible refine Below.drew ?_ | with_reducible refine bdrewN ?_ _ | (with_reducible refine Below.alloc ?_ ?side _; case side => (first | omega | (simp [go_sem]; done) | (simp [go_sem]; omega))) | (with_reducible refine Below.setCell ?_ ?side _; case side => (first | omega | (simp [go_sem]; done) | (simp [go_sem]; omega)))))⟩

def aheadB (x y : DeedD) : Bool := doneB x && decide (x.res < y.inv)
theorem specAhead (x y : DeedD) (S0 : Nat → Prop) (c0 : List Value) (S1 : Nat → Prop) (c1 : List Value) (w : World) (h0 : deedR w S0 c0 x) (b0 : deedBulk x ≤ 1048576) (h1 : deedR w S1 c1 y) (b1 : deedBulk y ≤ 1048576) :
    Calls Try.prog 25 #[.agg c0.toArray, .agg c1.toArray] w fun e w' => e = .returned (.bool (aheadB x y)) ∧ Below w.heap.size w w' := by
  obtain ⟨s, rfl, g⟩ := h0
  obtain ⟨a, k, rfl⟩ := g.form
  obtain ⟨s', rfl, g'⟩ := h1
  obtain ⟨a', k', rfl⟩ := g'.form
  by_cases e : x.res = -1
  · have q : (x.res != -1) = false := by simp [e]
    have HE := hide e
    clear e
    go_enter Try.func25, Try.ntmps25
    go_wp2
    go_ret
    exact ⟨ret_bool (by simp [aheadB, doneB, unhide HE]), by (repeat (first | with_reducible assumption | with_reducible exact Below.refl _ _ | with_reducible refine Below.drew ?_ | with_reducible refine bdrewN ?_ _ | (with_reducible refine Below.alloc ?_ ?side _; case side => (first | omega | (simp [go_sem]; done) | (simp [go_sem]; omega))) | (with_reducible refine Below.setCell ?_ ?side _; case side => (first | omega | (simp [go_sem]; done) | (simp [go_sem]; omega)))))⟩
  · have q : (x.res != -1) = true := by simp [e]
    go_enter Try.func25, Try.ntmps25
    go_wp2
    go_ret
    exact ⟨ret_bool (by simp [aheadB, doneB, e]), by (repeat (first | with_reducible assumption | with_reducible exact Below.refl _ _ | with_reducible refine Below.drew ?_ | with_reducible refine bdrewN ?_ _ | (with_reducible refine Below.alloc ?_ ?side _; case side => (first | omega | (simp [go_sem]; done) | (simp [go_sem]; omega))) | (with_reducible refine Below.setCell ?_ ?side _; case side => (first | omega | (simp [go_sem]; done) | (simp [go_sem]; omega)))))⟩
theorem implAhead (x y : DeedD) (S0 : Nat → Prop) (c0 : List Value) (S1 : Nat → Prop) (c1 : List Value) (w : World) (h0 : deedR w S0 c0 x) (b0 : deedBulk x ≤ 1048576) (h1 : deedR w S1 c1 y) (b1 : deedBulk y ≤ 1048576) :
    Calls Try.prog 26 #[.agg c0.toArray, .agg c1.toArray] w fun e w' => e = .returned (.bool (aheadB x y)) ∧ Below w.heap.size w w' := by
  have HR := hide h0
  obtain ⟨s, rfl, g⟩ := h0
  obtain ⟨a, k, rfl⟩ := g.form
  obtain ⟨s', rfl, g'⟩ := h1
  obtain ⟨a', k', rfl⟩ := g'.form
  have P0 := (Held.new w [.int .i64 x.op, .int .i64 x.task, .int .i64 x.s.1, .int .i64 x.s.2.1, .int .i64 x.s.2.2.1, .int .i64 x.s.2.2.2.1, .bool x.s.2.2.2.2.1, .slice a x.s.2.2.2.2.2.length k, .int .i64 x.trace, .int .i64 x.stamp, .int .i64 x.code, .bool x.keep, .bool x.void, .int .i64 x.took, .int .i64 x.n, .int .i64 x.forgot, .int .i64 x.now, .int .i64 x.inv, .int .i64 x.lin, .int .i64 x.res] 43).keep (bnew _ (.cells #[.int .i64 y.op, .int .i64 y.task, .int .i64 y.s.1, .int .i64 y.s.2.1, .int .i64 y.s.2.2.1, .int .i64 y.s.2.2.2.1, .bool y.s.2.2.2.2.1, .slice a' y.s.2.2.2.2.2.length k', .int .i64 y.trace, .int .i64 y.stamp, .int .i64 y.code, .bool y.keep, .bool y.void, .int .i64 y.took, .int .i64 y.n, .int .i64 y.forgot, .int .i64 y.now, .int .i64 y.inv, .int .i64 y.lin, .int .i64 y.res] 43))
  have P1 := Held.new (w.alloc (.cells #[.int .i64 x.op, .int .i64 x.task, .int .i64 x.s.1, .int .i64 x.s.2.1, .int .i64 x.s.2.2.1, .int .i64 x.s.2.2.2.1, .bool x.s.2.2.2.2.1, .slice a x.s.2.2.2.2.2.length k, .int .i64 x.trace, .int .i64 x.stamp, .int .i64 x.code, .bool x.keep, .bool x.void, .int .i64 x.took, .int .i64 x.n, .int .i64 x.forgot, .int .i64 x.now, .int .i64 x.inv, .int .i64 x.lin, .int .i64 x.res] 43)) [.int .i64 y.op, .int .i64 y.task, .int .i64 y.s.1, .int .i64 y.s.2.1, .int .i64 y.s.2.2.1, .int .i64 y.s.2.2.2.1, .bool y.s.2.2.2.2.1, .slice a' y.s.2.2.2.2.2.length k', .int .i64 y.trace, .int .i64 y.stamp, .int .i64 y.code, .bool y.keep, .bool y.void, .int .i64 y.took, .int .i64 y.n, .int .i64 y.forgot, .int .i64 y.now, .int .i64 y.inv, .int .i64 y.lin, .int .i64 y.res] 43
  rw [show (w.alloc (.cells #[.int .i64 x.op, .int .i64 x.task, .int .i64 x.s.1, .int .i64 x.s.2.1, .int .i64 x.s.2.2.1, .int .i64 x.s.2.2.2.1, .bool x.s.2.2.2.2.1, .slice a x.s.2.2.2.2.2.length k, .int .i64 x.trace, .int .i64 x.stamp, .int .i64 x.code, .bool x.keep, .bool x.void, .int .i64 x.took, .int .i64 x.n, .int .i64 x.forgot, .int .i64 x.now, .int .i64 x.inv, .int .i64 x.lin, .int .i64 x.res] 43)).heap.size = w.heap.size + 1 by simp] at P1
  have B0 := bthen (bnew w (.cells #[.int .i64 x.op, .int .i64 x.task, .int .i64 x.s.1, .int .i64 x.s.2.1, .int .i64 x.s.2.2.1, .int .i64 x.s.2.2.2.1, .bool x.s.2.2.2.2.1, .slice a x.s.2.2.2.2.2.length k, .int .i64 x.trace, .int .i64 x.stamp, .int .i64 x.code, .bool x.keep, .bool x.void, .int .i64 x.took, .int .i64 x.n, .int .i64 x.forgot, .int .i64 x.now, .int .i64 x.inv, .int .i64 x.lin, .int .i64 x.res] 43)) (bnew _ (.cells #[.int .i64 y.op, .int .i64 y.task, .int .i64 y.s.1, .int .i64 y.s.2.1, .int .i64 y.s.2.2.1, .int .i64 y.s.2.2.2.1, .bool y.s.2.2.2.2.1, .slice a' y.s.2.2.2.2.2.length k', .int .i64 y.trace, .int .i64 y.stamp, .int .i64 y.code, .bool y.keep, .bool y.void, .int .i64 y.took, .int .i64 y.n, .int .i64 y.forgot, .int .i64 y.now, .int .i64 y.inv, .int .i64 y.lin, .int .i64 y.res] 43))
  clear g g'
  cases hd : doneB x
  all_goals
    go_enter Try.func26, Try.ntmps26
    go_upto_region 1 with fail
    generalize World.alloc (World.alloc w _) _ = w0 at *
    go_wp2_with (first | (refine wpl_load rfl 43 _ rfl _ 0 rfl _ P0.inB rowIDeed ?_))
    have hc := implDone x S0 _ _ (deedR_keeps _ _ _ None1 _ _ (Below.turn B0) none_off (unhide HR))
    rw [hd] at hc
    refine hc.mono ?_
    rintro e w1 ⟨rfl, hb1⟩
    have x19 := (P0.keep hb1).2 19 _ rfl
    have y17 := (P1.keep hb1).2 17 _ rfl
    clear hc
    go_wp2
    go_ret
    exact ⟨ret_bool (by simp [aheadB, hd]), bthen B0 hb1⟩

def codeB (x : DeedD) : Bool := if x.op = 1 ∧ x.lin ≠ -1 then inB x.code 1 5 else decide (x.code = 0)
def stepB (x : DeedD) : Bool := decide (0 ≤ x.inv ∧ (x.lin = -1 ∨ x.inv ≤ x.lin) ∧ (x.res = -1 ∨ (x.lin ≠ -1 ∧ x.lin ≤ x.res)))
def numB (x : DeedD) : Bool := decide (0 ≤ x.took ∧ 0 ≤ x.n ∧ 0 ≤ x.forgot ∧ 0 ≤ x.now)
def deedB (x : DeedD) : Bool := inB x.op 1 4 && (codeB x && (stepB x && numB x))
theorem took_yes {x : DeedD} (h : tookB x = true) : x.lin ≠ -1 := by simpa [tookB] using h
theorem took_no {x : DeedD} (h : tookB x = false) : x.lin = -1 := by simpa [tookB] using h
theorem done_yes {x : DeedD} (h : doneB x = true) : x.res ≠ -1 := by simpa [doneB] using h
theorem done_no {x : DeedD} (h : doneB x = false) : x.res = -1 := by simpa [doneB] using h
set_option maxHeartbeats 1000000 in
theorem implCodeOk (x : DeedD) (S0 : Nat → Prop) (c0 : List Value) (w : World) (h0 : deedR w S0 c0 x) :
    Calls Try.prog 60 #[.agg c0.toArray] w fun e w' => e = .returned (.bool (codeB x)) ∧ Below w.heap.size w w' := by
  have HR := hide h0
  have P0 := Held.new w c0 43
  have B0 := bnew w (.cells c0.toArray 43)
  have r0 : RowT Try.prog 43 c0.length := by rw [deedR_len h0]; exact rowIDeed
  clear h0
  by_cases e : x.op = 1
  case neg =>
    have q : (x.op == 1) = false := by simpa using e
    go_enter Try.func60, Try.ntmps60
    go_upto_region 1 with fail
    generalize World.alloc w _ = w0 at *
    have p0 := P0.2 0 _ (deedR_c0 (unhide HR))
    have p10 := P0.2 10 _ (deedR_c10 (unhide HR))
    go_wp2
    go_ret
    exact ⟨ret_bool (by rw [codeB, if_neg (fun h => e h.1)]; rfl), B0⟩
  have q : (x.op == 1) = true := by simpa using e
  have HE := hide e
  clear e
  cases hd : tookB x
  ·
    go_enter Try.func60, Try.ntmps60
    go_upto_region 1 with fail
    generalize World.alloc w _ = w0 at *
    have p0 := P0.2 0 _ (deedR_c0 (unhide HR))
    go_wp2_with (first | (refine wpl_loadG (by rfl) 43 _ rfl _ 0 rfl c0 P0.inB r0 ?_))
    have hc := implTook x S0 _ _ (deedR_keeps _ _ _ None1 _ _ (Below.turn B0) none_off (unhide HR))
    rw [hd] at hc
    refine hc.mono ?_
    rintro e w1 ⟨rfl, hb⟩
    have P0 := P0.keep hb
    have B0 := bthen B0 hb
    clear hc hb
    clear p0
    have p10 := P0.2 10 _ (deedR_c10 (unhide HR))
    go_wp2
    go_ret
    exact ⟨ret_bool (by rw [codeB, if_neg (fun h => h.2 (took_no hd))]; rfl), B0⟩
  by_cases e1 : 1 ≤ x.code
  all_goals
    go_enter Try.func60, Try.ntmps60
    go_upto_region 1 with fail
    generalize World.alloc w _ = w0 at *
    have p0 := P0.2 0 _ (deedR_c0 (unhide HR))
    go_wp2_with (first | (refine wpl_loadG (by rfl) 43 _ rfl _ 0 rfl c0 P0.inB r0 ?_))
    have hc := implTook x S0 _ _ (deedR_keeps _ _ _ None1 _ _ (Below.turn B0) none_off (unhide HR))
    rw [hd] at hc
    refine hc.mono ?_
    rintro e w1 ⟨rfl, hb⟩
    have P0 := P0.keep hb
    have B0 := bthen B0 hb
    clear hc hb
    clear p0
    have p10 := P0.2 10 _ (deedR_c10 (unhide HR))
    go_wp2
    go_ret
    exact ⟨ret_bool (by rw [codeB, if_pos ⟨unhide HE, took_yes hd⟩]; simp [inB, e1] <;> omega), B0⟩
set_option maxHeartbeats 2000000 in
theorem implStepsOk (x : DeedD) (S0 : Nat → Prop) (c0 : List Value) (w : World) (h0 : deedR w S0 c0 x) :
    Calls Try.prog 61 #[.agg c0.toArray] w fun e w' => e = .returned (.bool (stepB x)) ∧ Below w.heap.size w w' := by
  have HR := hide h0
  have P0 := Held.new w c0 43
  have B0 := bnew w (.cells c0.toArray 43)
  have r0 : RowT Try.prog 43 c0.length := by rw [deedR_len h0]; exact rowIDeed
  clear h0
  by_cases e0 : x.inv < 0
  ·
    go_enter Try.func61, Try.ntmps61
    go_upto_region 1 with fail
    generalize World.alloc w _ = w0 at *
    have p17 := P0.2 17 _ (deedR_c17 (unhide HR))
    go_wp2
    go_ret
    exact ⟨ret_bool (by symm; exact decide_eq_false (by omega)), B0⟩
  cases ht : tookB x
  · cases hd : doneB x
    ·
      go_enter Try.func61, Try.ntmps61
      go_upto_region 1 with fail
      generalize World.alloc w _ = w0 at *
      have p17 := P0.2 17 _ (deedR_c17 (unhide HR))
      go_wp2_with (first | (refine wpl_loadG (by rfl) 43 _ rfl _ 0 rfl c0 P0.inB r0 ?_))
      have hc := implTook x S0 _ _ (deedR_keeps _ _ _ None1 _ _ (Below.turn B0) none_off (unhide HR))
      rw [ht] at hc
      refine hc.mono ?_
      rintro e w1 ⟨rfl, hb⟩
      have P0 := P0.keep hb
      have B0 := bthen B0 hb
      clear hc hb
      clear p17
      go_wp2_with (first | (refine wpl_loadG (by rfl) 43 _ rfl _ 0 rfl c0 P0.inB r0 ?_))
      have hc := implDone x S0 _ _ (deedR_keeps _ _ _ None1 _ _ (Below.turn B0) none_off (unhide HR))
      rw [hd] at hc
      refine hc.mono ?_
      rintro e w2 ⟨rfl, hb⟩
      have P0 := P0.keep hb
      have B0 := bthen B0 hb
      clear hc hb
      go_wp2
      go_ret
      have h1 := took_no ht
      have h2 := done_no hd
      exact ⟨ret_bool (by symm; exact decide_eq_true ⟨by omega, .inl h1, .inl h2⟩), B0⟩
    ·
      go_enter Try.func61, Try.ntmps61
      go_upto_region 1 with fail
      generalize World.alloc w _ = w0 at *
      have p17 := P0.2 17 _ (deedR_c17 (unhide HR))
      go_wp2_with (first | (refine wpl_loadG (by rfl) 43 _ rfl _ 0 rfl c0 P0.inB r0 ?_))
      have hc := implTook x S0 _ _ (deedR_keeps _ _ _ None1 _ _ (Below.turn B0) none_off (unhide HR))
      rw [ht] at hc
      refine hc.mono ?_
      rintro e w1 ⟨rfl, hb⟩
      have P0 := P0.keep hb
      have B0 := bthen B0 hb
      clear hc hb
      clear p17
      go_wp2_with (first | (refine wpl_loadG (by rfl) 43 _ rfl _ 0 rfl c0 P0.inB r0 ?_))
      have hc := implDone x S0 _ _ (deedR_keeps _ _ _ None1 _ _ (Below.turn B0) none_off (unhide HR))
      rw [hd] at hc
      refine hc.mono ?_
      rintro e w2 ⟨rfl, hb⟩
      have P0 := P0.keep hb
      have B0 := bthen B0 hb
      clear hc hb
      go_wp2_with (first | (refine wpl_loadG (by rfl) 43 _ rfl _ 0 rfl c0 P0.inB r0 ?_))
      have hc := implTook x S0 _ _ (deedR_keeps _ _ _ None1 _ _ (Below.turn B0) none_off (unhide HR))
      rw [ht] at hc
      refine hc.mono ?_
      rintro e w3 ⟨rfl, hb⟩
      have P0 := P0.keep hb
      have B0 := bthen B0 hb
      clear hc hb
      go_wp2
      go_ret
      have h1 := took_no ht
      have h2 := done_yes hd
      exact ⟨ret_bool (by symm; exact decide_eq_false (by omega)), B0⟩
  · by_cases e1 : x.lin < x.inv
    ·
      go_enter Try.func61, Try.ntmps61
      go_upto_region 1 with fail
      generalize World.alloc w _ = w0 at *
      have p17 := P0.2 17 _ (deedR_c17 (unhide HR))
      go_wp2_with (first | (refine wpl_loadG (by rfl) 43 _ rfl _ 0 rfl c0 P0.inB r0 ?_))
      have hc := implTook x S0 _ _ (deedR_keeps _ _ _ None1 _ _ (Below.turn B0) none_off (unhide HR))
      rw [ht] at hc
      refine hc.mono ?_
      rintro e w1 ⟨rfl, hb⟩
      have P0 := P0.keep hb
      have B0 := bthen B0 hb
      clear hc hb
      clear p17
      have p17 := P0.2 17 _ (deedR_c17 (unhide HR))
      have p18 := P0.2 18 _ (deedR_c18 (unhide HR))
      go_wp2
      go_ret
      have h1 := took_yes ht
      exact ⟨ret_bool (by symm; exact decide_eq_false (by omega)), B0⟩
    cases hd : doneB x
    ·
      go_enter Try.func61, Try.ntmps61
      go_upto_region 1 with fail
      generalize World.alloc w _ = w0 at *
      have p17 := P0.2 17 _ (deedR_c17 (unhide HR))
      go_wp2_with (first | (refine wpl_loadG (by rfl) 43 _ rfl _ 0 rfl c0 P0.inB r0 ?_))
      have hc := implTook x S0 _ _ (deedR_keeps _ _ _ None1 _ _ (Below.turn B0) none_off (unhide HR))
      rw [ht] at hc
      refine hc.mono ?_
      rintro e w1 ⟨rfl, hb⟩
      have P0 := P0.keep hb
      have B0 := bthen B0 hb
      clear hc hb
      clear p17
      have p17 := P0.2 17 _ (deedR_c17 (unhide HR))
      have p18 := P0.2 18 _ (deedR_c18 (unhide HR))
      go_wp2_with (first | (refine wpl_loadG (by rfl) 43 _ rfl _ 0 rfl c0 P0.inB r0 ?_))
      have hc := implDone x S0 _ _ (deedR_keeps _ _ _ None1 _ _ (Below.turn B0) none_off (unhide HR))
      rw [hd] at hc
      refine hc.mono ?_
      rintro e w2 ⟨rfl, hb⟩
      have P0 := P0.keep hb
      have B0 := bthen B0 hb
      clear hc hb
      clear p17 p18
      go_wp2
      go_ret
      have h1 := took_yes ht
      have h2 := done_no hd
      exact ⟨ret_bool (by symm; exact decide_eq_true ⟨by omega, by omega, by omega⟩), B0⟩
    ·
      go_enter Try.func61, Try.ntmps61
      go_upto_region 1 with fail
      generalize World.alloc w _ = w0 at *
      have p17 := P0.2 17 _ (deedR_c17 (unhide HR))
      go_wp2_with (first | (refine wpl_loadG (by rfl) 43 _ rfl _ 0 rfl c0 P0.inB r0 ?_))
      have hc := implTook x S0 _ _ (deedR_keeps _ _ _ None1 _ _ (Below.turn B0) none_off (unhide HR))
      rw [ht] at hc
      refine hc.mono ?_
      rintro e w1 ⟨rfl, hb⟩
      have P0 := P0.keep hb
      have B0 := bthen B0 hb
      clear hc hb
      clear p17
      have p17 := P0.2 17 _ (deedR_c17 (unhide HR))
      have p18 := P0.2 18 _ (deedR_c18 (unhide HR))
      go_wp2_with (first | (refine wpl_loadG (by rfl) 43 _ rfl _ 0 rfl c0 P0.inB r0 ?_))
      have hc := implDone x S0 _ _ (deedR_keeps _ _ _ None1 _ _ (Below.turn B0) none_off (unhide HR))
      rw [hd] at hc
      refine hc.mono ?_
      rintro e w2 ⟨rfl, hb⟩
      have P0 := P0.keep hb
      have B0 := bthen B0 hb
      clear hc hb
      clear p17 p18
      go_wp2_with (first | (refine wpl_loadG (by rfl) 43 _ rfl _ 0 rfl c0 P0.inB r0 ?_))
      have hc := implTook x S0 _ _ (deedR_keeps _ _ _ None1 _ _ (Below.turn B0) none_off (unhide HR))
      rw [ht] at hc
      refine hc.mono ?_
      rintro e w3 ⟨rfl, hb⟩
      have P0 := P0.keep hb
      have B0 := bthen B0 hb
      clear hc hb
      have p18 := P0.2 18 _ (deedR_c18 (unhide HR))
      have p19 := P0.2 19 _ (deedR_c19 (unhide HR))
      go_wp2
      go_ret
      have h1 := took_yes ht
      have h2 := done_yes hd
      exact ⟨ret_bool (by exact decide_eq_decide.2 (by omega)), B0⟩
end Go.Proofs.Ytklhljknkcmecaa
