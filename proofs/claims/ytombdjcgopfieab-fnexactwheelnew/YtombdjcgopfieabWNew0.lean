/-
  A new wheel: what it holds, and that there is nothing in it to be marked.
-/
import Derived.Test.YtombdjcgopfieabAWheel
import Derived.Test.YtombdjcgopfieabToSt
import Derived.Test.YtombdjcgopfieabGrow2
import Derived.Test.YtombdjcgopfieabMTimer
namespace Go.Proofs.Ytombdjcgopfieab
open Go.ChangeShapes Go.WideShapes Go.ChangeAt Go.RowKit
set_option linter.unusedVariables false
set_option maxRecDepth 100000

def nils (k : Nat) : List (List TimerD) := List.replicate k []
def newWheel : WheelD := ⟨0, nils 8, nils 8, []⟩
theorem nils_at {k i : Nat} {x : List TimerD} (h : (nils k)[i]? = some x) : x = [] := by
  unfold nils at h
  rw [List.getElem?_replicate] at h
  split at h
  · simpa using h.symm
  · cases h
theorem nils_len (k : Nat) : (nils k).length = k := by simp [nils]
theorem nils_of {w : World} {S : Nat → Prop} {b : Nat} (h : Held w b (List.replicate 8 (.slice none 0 0))) (hS : S b) : LAt 1 timerSR w S (.slice (some ⟨b, 0, none⟩) 8 8) (nils 8) := by
  refine ⟨_, _, rfl, by simp [nils], .inr ⟨b, 0, rfl, h.1, hS, fun i x hx => ?_⟩⟩
  have hi : i < 8 := by have := (List.getElem?_eq_some_iff.1 hx).1; rwa [nils_len] at this
  obtain rfl := nils_at hx
  refine ⟨[.slice none 0 0], ⟨_, rfl, LAt.nil _ _ _ _ _ _⟩, fun j v hv => ?_⟩
  have hj : j = 0 := by have := (List.getElem?_eq_some_iff.1 hv).1; simp at this; exact this
  subst hj
  have e : v = .slice none 0 0 := by simpa using hv.symm
  subst e
  have := h.2 i (.slice none 0 0) (by rw [List.getElem?_replicate, if_pos hi])
  simpa using this
theorem mMarkNone (a : Option Addr) (cap : Nat) (k : Int) (w : World) (h0 : 0 ≤ k) (h1 : k ≤ 1099511627776) :
    Calls Try.prog 29 #[.slice a 0 cap, .int .i64 k] w fun e w' => e = .returned (.int .i64 k) ∧ Below w.heap.size w w' := by
  go_enter Try.func29, Try.ntmps29
  go_wp2
  go_loopw [1, 5] (fun kk i wk => kk = .int .i64 k ∧ i = .int .i64 0 ∧ wk = w) (fun _ _ _ => 0)
  case atStart => exact ⟨rfl, rfl, rfl⟩
  case round =>
    obtain ⟨rfl, rfl, rfl⟩ := hrel
    go_wp2
    go_ret
    exact ⟨rfl, Below.refl _ _⟩
theorem mHeldNone (a : Option Addr) (cap : Nat) (k : Int) (w : World) (h0 : 0 ≤ k) (h1 : k ≤ 1099511627776) :
    Calls Try.prog 30 #[.slice a 0 cap, .int .i64 k] w fun e w' => e = .returned (.int .i64 k) ∧ Below w.heap.size w w' := by
  go_enter Try.func30, Try.ntmps30
  go_wp2
  go_loopw [1, 5] (fun kk i wk => kk = .int .i64 k ∧ i = .int .i64 0 ∧ wk = w) (fun _ _ _ => 0)
  case atStart => exact ⟨rfl, rfl, rfl⟩
  case round =>
    obtain ⟨rfl, rfl, rfl⟩ := hrel
    go_wp2
    go_ret
    exact ⟨rfl, Below.refl _ _⟩
set_option maxHeartbeats 1000000 in
theorem mMarkNils (n : Nat) (S : Nat → Prop) (v : Value) (k : Int) (w : World) (h0 : 0 ≤ k) (h1 : k ≤ 1099511627776) (hn : n ≤ 8) (ha : LAt 1 timerSR w S v (nils n)) :
    Calls Try.prog 51 #[v, .int .i64 k] w fun e w' => e = .returned (.int .i64 k) ∧ Below w.heap.size w w' := by
  obtain ⟨a, cap, rfl⟩ := ha.form
  rw [nils_len]
  have HA := hide ha
  clear ha
  go_enter Try.func51, Try.ntmps51
  go_wp2
  go_loopw [1, 5] (fun kk i wk => ∃ j : Nat, j ≤ n ∧ i = .int .i64 j ∧ kk = .int .i64 k ∧ Below w.heap.size w wk) (fun _ i _ => n - (intOf i).toNat)
  case atStart => exact ⟨0, Nat.zero_le _, rfl, rfl, Below.refl _ _⟩
  case round =>
    obtain ⟨j, hj, rfl, rfl, hbl⟩ := hrel
    by_cases hlt : j < n
    · have hji : (j : Int) < (n : Int) := by omega
      obtain ⟨b, o, cs, rfl, hbk, hSb, hcs, hin⟩ := (unhide HA).at j (by rw [nils_len]; exact hlt)
      have hin := hin.turn hbk (Below.turn hbl) (fun e => e)
      have he : (nils n)[j]'(by rw [nils_len]; exact hlt) = [] := nils_at (List.getElem?_eq_getElem _)
      rw [he] at hcs
      obtain ⟨s0, rfl, y0⟩ := hcs
      obtain ⟨a0, k0, rfl⟩ := y0.form
      have c0 : wr.cell? ⟨b, o + j, none⟩ = some (.slice a0 0 k0) := by have h := hin 0 _ rfl; simpa using h
      clear hin he
      go_wp2_with fail
      refine (mMarkNone a0 k0 k wr h0 h1).mono ?_
      rintro e w2 ⟨rfl, hb2⟩
      go_wp2
      go_roundw
      case rel => exact ⟨j + 1, by omega, by go_num, rfl, bthen hbl hb2⟩
      case measure => simp [intOf]; omega
    · have hji : ¬ (j : Int) < (n : Int) := by omega
      obtain rfl : j = n := by omega
      go_wp2
      go_ret
      exact ⟨rfl, hbl⟩
set_option maxHeartbeats 1000000 in
theorem mHeldNils (n : Nat) (S : Nat → Prop) (v : Value) (k : Int) (w : World) (h0 : 0 ≤ k) (h1 : k ≤ 1099511627776) (hn : n ≤ 8) (ha : LAt 1 timerSR w S v (nils n)) :
    Calls Try.prog 52 #[v, .int .i64 k] w fun e w' => e = .returned (.int .i64 k) ∧ Below w.heap.size w w' := by
  obtain ⟨a, cap, rfl⟩ := ha.form
  rw [nils_len]
  have HA := hide ha
  clear ha
  go_enter Try.func52, Try.ntmps52
  go_wp2
  go_loopw [1, 5] (fun kk i wk => ∃ j : Nat, j ≤ n ∧ i = .int .i64 j ∧ kk = .int .i64 k ∧ Below w.heap.size w wk) (fun _ i _ => n - (intOf i).toNat)
  case atStart => exact ⟨0, Nat.zero_le _, rfl, rfl, Below.refl _ _⟩
  case round =>
    obtain ⟨j, hj, rfl, rfl, hbl⟩ := hrel
    by_cases hlt : j < n
    · have hji : (j : Int) < (n : Int) := by omega
      obtain ⟨b, o, cs, rfl, hbk, hSb, hcs, hin⟩ := (unhide HA).at j (by rw [nils_len]; exact hlt)
      have hin := hin.turn hbk (Below.turn hbl) (fun e => e)
      have he : (nils n)[j]'(by rw [nils_len]; exact hlt) = [] := nils_at (List.getElem?_eq_getElem _)
      rw [he] at hcs
      obtain ⟨s0, rfl, y0⟩ := hcs
      obtain ⟨a0, k0, rfl⟩ := y0.form
      have c0 : wr.cell? ⟨b, o + j, none⟩ = some (.slice a0 0 k0) := by have h := hin 0 _ rfl; simpa using h
      clear hin he
      go_wp2_with fail
      refine (mHeldNone a0 k0 k wr h0 h1).mono ?_
      rintro e w2 ⟨rfl, hb2⟩
      go_wp2
      go_roundw
      case rel => exact ⟨j + 1, by omega, by go_num, rfl, bthen hbl hb2⟩
      case measure => simp [intOf]; omega
    · have hji : ¬ (j : Int) < (n : Int) := by omega
      obtain rfl : j = n := by omega
      go_wp2
      go_ret
      exact ⟨rfl, hbl⟩
set_option maxHeartbeats 1000000 in
theorem mMarkNew (S : Nat → Prop) (cs : List Value) (k : Int) (w : World) (h0 : 0 ≤ k) (h1 : k ≤ 1099511627776) (ha : wheelR w S cs newWheel) :
    Calls Try.prog 28 #[.agg cs.toArray, .int .i64 k] w fun e w' => e = .returned (.int .i64 k) ∧ Below w.heap.size w w' := by
  obtain ⟨s0, s1, s2, e, g0, g1, g2⟩ := ha
  have e : cs = [.int .i64 0, s0, s1, s2] := e
  subst e
  have g0 : LAt 1 timerSR w S s0 (nils 8) := g0
  have g1 : LAt 1 timerSR w S s1 (nils 8) := g1
  have g2 : LAt 3 timerR w S s2 [] := g2
  obtain ⟨a2, k2, rfl⟩ := g2.form
  have P0 := Held.new w [.int .i64 0, s0, s1, .slice a2 0 k2] 49
  have B0 := bnew w (.cells #[.int .i64 0, s0, s1, .slice a2 0 k2] 49)
  have hk : ¬ k < 0 := by omega
  obtain ⟨a0, k0, rfl⟩ := g0.form
  obtain ⟨a1, k1, rfl⟩ := g1.form
  rw [nils_len] at *
  have G := hide (And.intro (g0.keep timerSR_keeps B0) (g1.keep timerSR_keeps B0))
  clear g0 g1 g2
  go_enter Try.func28, Try.ntmps28
  go_upto_region 1 with fail
  generalize World.alloc w _ = w0 at *
  have p1 := P0.2 1 _ rfl
  go_wp2_with fail
  refine (mMarkNils 8 S _ k w0 h0 h1 (by omega) (unhide G).1).mono ?_
  rintro e w1 ⟨rfl, hb1⟩
  have P1 := P0.keep hb1
  have B1 := bthen B0 hb1
  have p2 := P1.2 2 _ rfl
  have G1 := hide ((unhide G).2.keep timerSR_keeps hb1)
  clear hb1 p1
  go_wp2_with fail
  refine (mMarkNils 8 S _ k w1 h0 h1 (by omega) (unhide G1)).mono ?_
  rintro e w2 ⟨rfl, hb2⟩
  have P2 := P1.keep hb2
  have B2 := bthen B1 hb2
  have p3 := P2.2 3 _ rfl
  clear hb2 p2
  go_wp2_with fail
  refine (mMarkNone a2 k2 k w2 h0 h1).mono ?_
  rintro e w3 ⟨rfl, hb3⟩
  go_wp2
  go_ret
  exact ⟨rfl, bthen B2 hb3⟩
set_option maxHeartbeats 1000000 in
theorem mHeldNew (S : Nat → Prop) (cs : List Value) (k : Int) (w : World) (h0 : 0 ≤ k) (h1 : k ≤ 1099511627776) (ha : wheelR w S cs newWheel) :
    Calls Try.prog 35 #[.agg cs.toArray, .int .i64 k] w fun e w' => e = .returned (.int .i64 k) ∧ Below w.heap.size w w' := by
  obtain ⟨s0, s1, s2, e, g0, g1, g2⟩ := ha
  have e : cs = [.int .i64 0, s0, s1, s2] := e
  subst e
  have g0 : LAt 1 timerSR w S s0 (nils 8) := g0
  have g1 : LAt 1 timerSR w S s1 (nils 8) := g1
  have g2 : LAt 3 timerR w S s2 [] := g2
  obtain ⟨a2, k2, rfl⟩ := g2.form
  have P0 := Held.new w [.int .i64 0, s0, s1, .slice a2 0 k2] 49
  have B0 := bnew w (.cells #[.int .i64 0, s0, s1, .slice a2 0 k2] 49)
  have hk : ¬ k < 0 := by omega
  obtain ⟨a0, k0, rfl⟩ := g0.form
  obtain ⟨a1, k1, rfl⟩ := g1.form
  rw [nils_len] at *
  have G := hide (And.intro (g0.keep timerSR_keeps B0) (g1.keep timerSR_keeps B0))
  clear g0 g1 g2
  go_enter Try.func35, Try.ntmps35
  go_upto_region 1 with fail
  generalize World.alloc w _ = w0 at *
  have p1 := P0.2 1 _ rfl
  go_wp2_with fail
  refine (mHeldNils 8 S _ k w0 h0 h1 (by omega) (unhide G).1).mono ?_
  rintro e w1 ⟨rfl, hb1⟩
  have P1 := P0.keep hb1
  have B1 := bthen B0 hb1
  have p2 := P1.2 2 _ rfl
  have G1 := hide ((unhide G).2.keep timerSR_keeps hb1)
  clear hb1 p1
  go_wp2_with fail
  refine (mHeldNils 8 S _ k w1 h0 h1 (by omega) (unhide G1)).mono ?_
  rintro e w2 ⟨rfl, hb2⟩
  have P2 := P1.keep hb2
  have B2 := bthen B1 hb2
  have p3 := P2.2 3 _ rfl
  clear hb2 p2
  go_wp2_with fail
  refine (mHeldNone a2 k2 k w2 h0 h1).mono ?_
  rintro e w3 ⟨rfl, hb3⟩
  go_wp2
  go_ret
  exact ⟨rfl, bthen B2 hb3⟩
end Go.Proofs.Ytombdjcgopfieab
