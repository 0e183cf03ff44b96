/-
  Contracts of chapter 15's DeedOk of the program.
-/
import Derived.Test.YtklhljknkcmecaaPlain4
namespace Go.Proofs.Ytklhljknkcmecaa
open Go.ChangeShapes Go.WideShapes Go.ChangeAt Go.RowKit
set_option linter.unusedVariables false
set_option maxRecDepth 100000

set_option maxHeartbeats 2000000 in
theorem implDeedOk (x : DeedD) (S0 : Nat → Prop) (c0 : List Value) (w : World) (h0 : deedR w S0 c0 x) (b0 : deedBulk x ≤ 1048576) :
    Calls Try.prog 23 #[.agg c0.toArray] w fun e w' => e = .returned (.bool (deedB x)) ∧ Below w.heap.size w w' := by
  have HR := hide h0
  have P0 := Held.new w c0 43
  have B0 := bnew w (.cells c0.toArray 43)
  have r0 : RowT Try.prog 43 c0.length := by rw [deedR_len h0]; exact rowIDeed
  clear h0
  cases e0 : inB x.op 1 4
  ·
    have e0' : ¬ (1 ≤ x.op ∧ x.op ≤ 4) := fun h => by rw [(inB_iff _ _ _).2 h] at e0; cases e0
    have hdd : deedB x = false := by rw [deedB, e0]; rfl
    have HDD := hide hdd
    clear hdd e0
    by_cases e1 : 1 ≤ x.op
    · have e2 : ¬ x.op ≤ 4 := by omega
      clear e0'
      as_aux_lemma =>
        go_enter Try.func23, Try.ntmps23
        go_upto_region 1 with fail
        generalize World.alloc w _ = w0 at *
        have p0 := P0.2 0 _ (deedR_c0 (unhide HR))
        go_wp2
        go_ret
        exact ⟨ret_bool (unhide HDD).symm, B0⟩
    · clear e0'
      as_aux_lemma =>
        go_enter Try.func23, Try.ntmps23
        go_upto_region 1 with fail
        generalize World.alloc w _ = w0 at *
        have p0 := P0.2 0 _ (deedR_c0 (unhide HR))
        go_wp2
        go_ret
        exact ⟨ret_bool (unhide HDD).symm, B0⟩
  have e1 := ((inB_iff _ _ _).1 e0).1
  have e2 := ((inB_iff _ _ _).1 e0).2
  have HE := hide e0
  clear e0
  cases hc0 : codeB x
  ·
    as_aux_lemma =>
      go_enter Try.func23, Try.ntmps23
      go_upto_region 1 with fail
      generalize World.alloc w _ = w0 at *
      have p0 := P0.2 0 _ (deedR_c0 (unhide HR))
      go_wp2_with (first | (refine wpl_loadG (by rfl) 43 _ rfl _ 0 rfl c0 P0.inB r0 ?_))
      have hc := implCodeOk x S0 _ _ (deedR_keeps _ _ _ None1 _ _ (Below.turn B0) none_off (unhide HR))
      rw [hc0] at hc
      refine hc.mono ?_
      rintro e w1 ⟨rfl, hb⟩
      have P0 := P0.keep hb
      have B0 := bthen B0 hb
      clear hc hb
      clear p0
      go_wp2
      go_ret
      exact ⟨ret_bool (by rw [deedB, hc0, Bool.false_and, Bool.and_false]), B0⟩
  cases hs0 : stepB x
  ·
    as_aux_lemma =>
      go_enter Try.func23, Try.ntmps23
      go_upto_region 1 with fail
      generalize World.alloc w _ = w0 at *
      have p0 := P0.2 0 _ (deedR_c0 (unhide HR))
      go_wp2_with (first | (refine wpl_loadG (by rfl) 43 _ rfl _ 0 rfl c0 P0.inB r0 ?_))
      have hc := implCodeOk x S0 _ _ (deedR_keeps _ _ _ None1 _ _ (Below.turn B0) none_off (unhide HR))
      rw [hc0] at hc
      refine hc.mono ?_
      rintro e w1 ⟨rfl, hb⟩
      have P0 := P0.keep hb
      have B0 := bthen B0 hb
      clear hc hb
      clear p0
      go_wp2_with (first | (refine wpl_loadG (by rfl) 43 _ rfl _ 0 rfl c0 P0.inB r0 ?_))
      have hc := implStepsOk x S0 _ _ (deedR_keeps _ _ _ None1 _ _ (Below.turn B0) none_off (unhide HR))
      rw [hs0] at hc
      refine hc.mono ?_
      rintro e w2 ⟨rfl, hb⟩
      have P0 := P0.keep hb
      have B0 := bthen B0 hb
      clear hc hb
      go_wp2
      go_ret
      exact ⟨ret_bool (by rw [deedB, hs0, Bool.false_and, Bool.and_false, Bool.and_false]), B0⟩
  have hdd : deedB x = numB x := by rw [deedB, hc0, hs0, unhide HE]; rfl
  have HDD := hide hdd
  clear hdd
  by_cases n1 : 0 ≤ x.took
  case neg =>
    as_aux_lemma =>
      go_enter Try.func23, Try.ntmps23
      go_upto_region 1 with fail
      generalize World.alloc w _ = w0 at *
      have p0 := P0.2 0 _ (deedR_c0 (unhide HR))
      go_wp2_with (first | (refine wpl_loadG (by rfl) 43 _ rfl _ 0 rfl c0 P0.inB r0 ?_))
      have hc := implCodeOk x S0 _ _ (deedR_keeps _ _ _ None1 _ _ (Below.turn B0) none_off (unhide HR))
      rw [hc0] at hc
      refine hc.mono ?_
      rintro e w1 ⟨rfl, hb⟩
      have P0 := P0.keep hb
      have B0 := bthen B0 hb
      clear hc hb
      clear p0
      go_wp2_with (first | (refine wpl_loadG (by rfl) 43 _ rfl _ 0 rfl c0 P0.inB r0 ?_))
      have hc := implStepsOk x S0 _ _ (deedR_keeps _ _ _ None1 _ _ (Below.turn B0) none_off (unhide HR))
      rw [hs0] at hc
      refine hc.mono ?_
      rintro e w2 ⟨rfl, hb⟩
      have P0 := P0.keep hb
      have B0 := bthen B0 hb
      clear hc hb
      have p13 := P0.2 13 _ (deedR_c13 (unhide HR))
      have p14 := P0.2 14 _ (deedR_c14 (unhide HR))
      have p15 := P0.2 15 _ (deedR_c15 (unhide HR))
      have p16 := P0.2 16 _ (deedR_c16 (unhide HR))
      go_wp2
      go_ret
      exact ⟨ret_bool (by rw [unhide HDD]; symm; exact decide_eq_false (by omega)), B0⟩
  by_cases n2 : 0 ≤ x.n
  case neg =>
    as_aux_lemma =>
      go_enter Try.func23, Try.ntmps23
      go_upto_region 1 with fail
      generalize World.alloc w _ = w0 at *
      have p0 := P0.2 0 _ (deedR_c0 (unhide HR))
      go_wp2_with (first | (refine wpl_loadG (by rfl) 43 _ rfl _ 0 rfl c0 P0.inB r0 ?_))
      have hc := implCodeOk x S0 _ _ (deedR_keeps _ _ _ None1 _ _ (Below.turn B0) none_off (unhide HR))
      rw [hc0] at hc
      refine hc.mono ?_
      rintro e w1 ⟨rfl, hb⟩
      have P0 := P0.keep hb
      have B0 := bthen B0 hb
      clear hc hb
      clear p0
      go_wp2_with (first | (refine wpl_loadG (by rfl) 43 _ rfl _ 0 rfl c0 P0.inB r0 ?_))
      have hc := implStepsOk x S0 _ _ (deedR_keeps _ _ _ None1 _ _ (Below.turn B0) none_off (unhide HR))
      rw [hs0] at hc
      refine hc.mono ?_
      rintro e w2 ⟨rfl, hb⟩
      have P0 := P0.keep hb
      have B0 := bthen B0 hb
      clear hc hb
      have p13 := P0.2 13 _ (deedR_c13 (unhide HR))
      have p14 := P0.2 14 _ (deedR_c14 (unhide HR))
      have p15 := P0.2 15 _ (deedR_c15 (unhide HR))
      have p16 := P0.2 16 _ (deedR_c16 (unhide HR))
      go_wp2
      go_ret
      exact ⟨ret_bool (by rw [unhide HDD]; symm; exact decide_eq_false (by omega)), B0⟩
  by_cases n3 : 0 ≤ x.forgot
  all_goals
    as_aux_lemma =>
      go_enter Try.func23, Try.ntmps23
      go_upto_region 1 with fail
      generalize World.alloc w _ = w0 at *
      have p0 := P0.2 0 _ (deedR_c0 (unhide HR))
      go_wp2_with (first | (refine wpl_loadG (by rfl) 43 _ rfl _ 0 rfl c0 P0.inB r0 ?_))
      have hc := implCodeOk x S0 _ _ (deedR_keeps _ _ _ None1 _ _ (Below.turn B0) none_off (unhide HR))
      rw [hc0] at hc
      refine hc.mono ?_
      rintro e w1 ⟨rfl, hb⟩
      have P0 := P0.keep hb
      have B0 := bthen B0 hb
      clear hc hb
      clear p0
      go_wp2_with (first | (refine wpl_loadG (by rfl) 43 _ rfl _ 0 rfl c0 P0.inB r0 ?_))
      have hc := implStepsOk x S0 _ _ (deedR_keeps _ _ _ None1 _ _ (Below.turn B0) none_off (unhide HR))
      rw [hs0] at hc
      refine hc.mono ?_
      rintro e w2 ⟨rfl, hb⟩
      have P0 := P0.keep hb
      have B0 := bthen B0 hb
      clear hc hb
      have p13 := P0.2 13 _ (deedR_c13 (unhide HR))
      have p14 := P0.2 14 _ (deedR_c14 (unhide HR))
      have p15 := P0.2 15 _ (deedR_c15 (unhide HR))
      have p16 := P0.2 16 _ (deedR_c16 (unhide HR))
      go_wp2
      go_ret
      exact ⟨ret_bool (by rw [unhide HDD, Bool.eq_iff_iff]; simp [numB]; omega), B0⟩
end Go.Proofs.Ytklhljknkcmecaa
