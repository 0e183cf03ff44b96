/-
  Contracts of chapter 15's DeedOk of the specification.
-/
import Derived.Test.YtklhljknkcmecaaPlain4
namespace Go.Proofs.Ytklhljknkcmecaa
open Go.ChangeShapes Go.WideShapes Go.ChangeAt Go.RowKit
set_option linter.unusedVariables false
set_option maxRecDepth 100000

set_option maxHeartbeats 4000000 in
theorem specDeedOk (x : DeedD) (S0 : Nat → Prop) (c0 : List Value) (w : World) (h0 : deedR w S0 c0 x) (b0 : deedBulk x ≤ 1048576) :
    Calls Try.prog 21 #[.agg c0.toArray] w fun e w' => e = .returned (.bool (deedB x)) ∧ Below w.heap.size w w' := by
  have HR := hide h0
  have P0 := Held.new w c0 43
  have B0 := bnew w (.cells c0.toArray 43)
  have r0 : RowT Try.prog 43 c0.length := by rw [deedR_len h0]; exact rowIDeed
  clear h0
  cases e0 : inB x.op 1 4
  ·
    as_aux_lemma =>
      go_enter Try.func21, Try.ntmps21
      go_upto_region 1 with fail
      generalize World.alloc w _ = w0 at *
      have p0 := P0.2 0 _ (deedR_c0 (unhide HR))
      have p10 := P0.2 10 _ (deedR_c10 (unhide HR))
      have p13 := P0.2 13 _ (deedR_c13 (unhide HR))
      have p14 := P0.2 14 _ (deedR_c14 (unhide HR))
      have p15 := P0.2 15 _ (deedR_c15 (unhide HR))
      have p16 := P0.2 16 _ (deedR_c16 (unhide HR))
      have p17 := P0.2 17 _ (deedR_c17 (unhide HR))
      have p18 := P0.2 18 _ (deedR_c18 (unhide HR))
      have p19 := P0.2 19 _ (deedR_c19 (unhide HR))
      go_wp2_with (first | (go_at_call 58; refine (specIn _ _ _ _ (by assumption) _).mono ?_; rintro e w' ⟨rfl, rfl⟩))
      go_ret
      exact ⟨ret_bool (by rw [deedB, e0]; rfl), B0⟩
  by_cases i0 : x.inv < 0
  ·
    as_aux_lemma =>
      go_enter Try.func21, Try.ntmps21
      go_upto_region 1 with fail
      generalize World.alloc w _ = w0 at *
      have p0 := P0.2 0 _ (deedR_c0 (unhide HR))
      have p10 := P0.2 10 _ (deedR_c10 (unhide HR))
      have p13 := P0.2 13 _ (deedR_c13 (unhide HR))
      have p14 := P0.2 14 _ (deedR_c14 (unhide HR))
      have p15 := P0.2 15 _ (deedR_c15 (unhide HR))
      have p16 := P0.2 16 _ (deedR_c16 (unhide HR))
      have p17 := P0.2 17 _ (deedR_c17 (unhide HR))
      have p18 := P0.2 18 _ (deedR_c18 (unhide HR))
      have p19 := P0.2 19 _ (deedR_c19 (unhide HR))
      go_wp2_with (first | (go_at_call 58; refine (specIn _ _ _ _ (by assumption) _).mono ?_; rintro e w' ⟨rfl, rfl⟩))
      go_ret
      exact ⟨ret_bool (by have : stepB x = false := decide_eq_false (by omega); rw [deedB, this]; simp), B0⟩
  by_cases i1 : x.took < 0
  ·
    as_aux_lemma =>
      go_enter Try.func21, Try.ntmps21
      go_upto_region 1 with fail
      generalize World.alloc w _ = w0 at *
      have p0 := P0.2 0 _ (deedR_c0 (unhide HR))
      have p10 := P0.2 10 _ (deedR_c10 (unhide HR))
      have p13 := P0.2 13 _ (deedR_c13 (unhide HR))
      have p14 := P0.2 14 _ (deedR_c14 (unhide HR))
      have p15 := P0.2 15 _ (deedR_c15 (unhide HR))
      have p16 := P0.2 16 _ (deedR_c16 (unhide HR))
      have p17 := P0.2 17 _ (deedR_c17 (unhide HR))
      have p18 := P0.2 18 _ (deedR_c18 (unhide HR))
      have p19 := P0.2 19 _ (deedR_c19 (unhide HR))
      go_wp2_with (first | (go_at_call 58; refine (specIn _ _ _ _ (by assumption) _).mono ?_; rintro e w' ⟨rfl, rfl⟩))
      go_ret
      exact ⟨ret_bool (by have : numB x = false := decide_eq_false (by omega); rw [deedB, this]; simp), B0⟩
  by_cases i2 : x.n < 0
  ·
    as_aux_lemma =>
      go_enter Try.func21, Try.ntmps21
      go_upto_region 1 with fail
      generalize World.alloc w _ = w0 at *
      have p0 := P0.2 0 _ (deedR_c0 (unhide HR))
      have p10 := P0.2 10 _ (deedR_c10 (unhide HR))
      have p13 := P0.2 13 _ (deedR_c13 (unhide HR))
      have p14 := P0.2 14 _ (deedR_c14 (unhide HR))
      have p15 := P0.2 15 _ (deedR_c15 (unhide HR))
      have p16 := P0.2 16 _ (deedR_c16 (unhide HR))
      have p17 := P0.2 17 _ (deedR_c17 (unhide HR))
      have p18 := P0.2 18 _ (deedR_c18 (unhide HR))
      have p19 := P0.2 19 _ (deedR_c19 (unhide HR))
      go_wp2_with (first | (go_at_call 58; refine (specIn _ _ _ _ (by assumption) _).mono ?_; rintro e w' ⟨rfl, rfl⟩))
      go_ret
      exact ⟨ret_bool (by have : numB x = false := decide_eq_false (by omega); rw [deedB, this]; simp), B0⟩
  by_cases i3 : x.forgot < 0
  ·
    as_aux_lemma =>
      go_enter Try.func21, Try.ntmps21
      go_upto_region 1 with fail
      generalize World.alloc w _ = w0 at *
      have p0 := P0.2 0 _ (deedR_c0 (unhide HR))
      have p10 := P0.2 10 _ (deedR_c10 (unhide HR))
      have p13 := P0.2 13 _ (deedR_c13 (unhide HR))
      have p14 := P0.2 14 _ (deedR_c14 (unhide HR))
      have p15 := P0.2 15 _ (deedR_c15 (unhide HR))
      have p16 := P0.2 16 _ (deedR_c16 (unhide HR))
      have p17 := P0.2 17 _ (deedR_c17 (unhide HR))
      have p18 := P0.2 18 _ (deedR_c18 (unhide HR))
      have p19 := P0.2 19 _ (deedR_c19 (unhide HR))
      go_wp2_with (first | (go_at_call 58; refine (specIn _ _ _ _ (by assumption) _).mono ?_; rintro e w' ⟨rfl, rfl⟩))
      go_ret
      exact ⟨ret_bool (by have : numB x = false := decide_eq_false (by omega); rw [deedB, this]; simp), B0⟩
  by_cases i4 : x.now < 0
  ·
    as_aux_lemma =>
      go_enter Try.func21, Try.ntmps21
      go_upto_region 1 with fail
      generalize World.alloc w _ = w0 at *
      have p0 := P0.2 0 _ (deedR_c0 (unhide HR))
      have p10 := P0.2 10 _ (deedR_c10 (unhide HR))
      have p13 := P0.2 13 _ (deedR_c13 (unhide HR))
      have p14 := P0.2 14 _ (deedR_c14 (unhide HR))
      have p15 := P0.2 15 _ (deedR_c15 (unhide HR))
      have p16 := P0.2 16 _ (deedR_c16 (unhide HR))
      have p17 := P0.2 17 _ (deedR_c17 (unhide HR))
      have p18 := P0.2 18 _ (deedR_c18 (unhide HR))
      have p19 := P0.2 19 _ (deedR_c19 (unhide HR))
      go_wp2_with (first | (go_at_call 58; refine (specIn _ _ _ _ (by assumption) _).mono ?_; rintro e w' ⟨rfl, rfl⟩))
      go_ret
      exact ⟨ret_bool (by have : numB x = false := decide_eq_false (by omega); rw [deedB, this]; simp), B0⟩
  have hn : numB x = true := decide_eq_true (by omega)
  have hdd : deedB x = (codeB x && stepB x) := by rw [deedB, hn, e0]; simp
  have HD := hide hdd
  clear hdd hn
  by_cases l0 : x.lin = -1
  ·
    have ql : (x.lin == -1) = true := by simpa using l0
    have ql2 : (x.lin != -1) = false := by simpa using l0
    have HL := hide l0
    clear l0
    by_cases r0 : x.res = -1
    ·
      have qr : (x.res != -1) = false := by simpa using r0
      have HR0 := hide r0
      clear r0
      have hst : stepB x = true := decide_eq_true ⟨by omega, .inl (unhide HL), .inl (unhide HR0)⟩
      have HS := hide hst
      clear hst
      by_cases o1 : x.op = 1
      ·
        have qo : (x.op == 1) = true := by simpa using o1
        have HO := hide o1
        clear o1
        as_aux_lemma =>
          go_enter Try.func21, Try.ntmps21
          go_upto_region 1 with fail
          generalize World.alloc w _ = w0 at *
          have p0 := P0.2 0 _ (deedR_c0 (unhide HR))
          have p10 := P0.2 10 _ (deedR_c10 (unhide HR))
          have p13 := P0.2 13 _ (deedR_c13 (unhide HR))
          have p14 := P0.2 14 _ (deedR_c14 (unhide HR))
          have p15 := P0.2 15 _ (deedR_c15 (unhide HR))
          have p16 := P0.2 16 _ (deedR_c16 (unhide HR))
          have p17 := P0.2 17 _ (deedR_c17 (unhide HR))
          have p18 := P0.2 18 _ (deedR_c18 (unhide HR))
          have p19 := P0.2 19 _ (deedR_c19 (unhide HR))
          go_wp2_with (first | (go_at_call 58; refine (specIn _ _ _ _ (by assumption) _).mono ?_; rintro e w' ⟨rfl, rfl⟩))
          go_ret
          exact ⟨ret_bool (by rw [unhide HD, unhide HS, codeB, if_neg (fun h => h.2 (unhide HL)), Bool.and_true]; rfl), B0⟩
      ·
        have qo : (x.op == 1) = false := by simpa using o1
        as_aux_lemma =>
          go_enter Try.func21, Try.ntmps21
          go_upto_region 1 with fail
          generalize World.alloc w _ = w0 at *
          have p0 := P0.2 0 _ (deedR_c0 (unhide HR))
          have p10 := P0.2 10 _ (deedR_c10 (unhide HR))
          have p13 := P0.2 13 _ (deedR_c13 (unhide HR))
          have p14 := P0.2 14 _ (deedR_c14 (unhide HR))
          have p15 := P0.2 15 _ (deedR_c15 (unhide HR))
          have p16 := P0.2 16 _ (deedR_c16 (unhide HR))
          have p17 := P0.2 17 _ (deedR_c17 (unhide HR))
          have p18 := P0.2 18 _ (deedR_c18 (unhide HR))
          have p19 := P0.2 19 _ (deedR_c19 (unhide HR))
          go_wp2_with (first | (go_at_call 58; refine (specIn _ _ _ _ (by assumption) _).mono ?_; rintro e w' ⟨rfl, rfl⟩))
          go_ret
          exact ⟨ret_bool (by rw [unhide HD, unhide HS, codeB, if_neg (fun h => h.2 (unhide HL)), Bool.and_true]; rfl), B0⟩
    ·
      have qr : (x.res != -1) = true := by simpa using r0
      as_aux_lemma =>
        go_enter Try.func21, Try.ntmps21
        go_upto_region 1 with fail
        generalize World.alloc w _ = w0 at *
        have p0 := P0.2 0 _ (deedR_c0 (unhide HR))
        have p10 := P0.2 10 _ (deedR_c10 (unhide HR))
        have p13 := P0.2 13 _ (deedR_c13 (unhide HR))
        have p14 := P0.2 14 _ (deedR_c14 (unhide HR))
        have p15 := P0.2 15 _ (deedR_c15 (unhide HR))
        have p16 := P0.2 16 _ (deedR_c16 (unhide HR))
        have p17 := P0.2 17 _ (deedR_c17 (unhide HR))
        have p18 := P0.2 18 _ (deedR_c18 (unhide HR))
        have p19 := P0.2 19 _ (deedR_c19 (unhide HR))
        go_wp2_with (first | (go_at_call 58; refine (specIn _ _ _ _ (by assumption) _).mono ?_; rintro e w' ⟨rfl, rfl⟩))
        go_ret
        have h1 := unhide HL
        exact ⟨ret_bool (by have : stepB x = false := decide_eq_false (by omega); rw [unhide HD, this, Bool.and_false]), B0⟩
  have ql : (x.lin == -1) = false := by simpa using l0
  have ql2 : (x.lin != -1) = true := by simpa using l0
  by_cases l1 : x.lin < x.inv
  ·
    as_aux_lemma =>
      go_enter Try.func21, Try.ntmps21
      go_upto_region 1 with fail
      generalize World.alloc w _ = w0 at *
      have p0 := P0.2 0 _ (deedR_c0 (unhide HR))
      have p10 := P0.2 10 _ (deedR_c10 (unhide HR))
      have p13 := P0.2 13 _ (deedR_c13 (unhide HR))
      have p14 := P0.2 14 _ (deedR_c14 (unhide HR))
      have p15 := P0.2 15 _ (deedR_c15 (unhide HR))
      have p16 := P0.2 16 _ (deedR_c16 (unhide HR))
      have p17 := P0.2 17 _ (deedR_c17 (unhide HR))
      have p18 := P0.2 18 _ (deedR_c18 (unhide HR))
      have p19 := P0.2 19 _ (deedR_c19 (unhide HR))
      go_wp2_with (first | (go_at_call 58; refine (specIn _ _ _ _ (by assumption) _).mono ?_; rintro e w' ⟨rfl, rfl⟩))
      go_ret
      exact ⟨ret_bool (by have : stepB x = false := decide_eq_false (by omega); rw [unhide HD, this, Bool.and_false]), B0⟩
  by_cases r0 : x.res = -1
  case neg =>
    have qr : (x.res != -1) = true := by simpa using r0
    by_cases r1 : x.res < x.lin
    ·
      as_aux_lemma =>
        go_enter Try.func21, Try.ntmps21
        go_upto_region 1 with fail
        generalize World.alloc w _ = w0 at *
        have p0 := P0.2 0 _ (deedR_c0 (unhide HR))
        have p10 := P0.2 10 _ (deedR_c10 (unhide HR))
        have p13 := P0.2 13 _ (deedR_c13 (unhide HR))
        have p14 := P0.2 14 _ (deedR_c14 (unhide HR))
        have p15 := P0.2 15 _ (deedR_c15 (unhide HR))
        have p16 := P0.2 16 _ (deedR_c16 (unhide HR))
        have p17 := P0.2 17 _ (deedR_c17 (unhide HR))
        have p18 := P0.2 18 _ (deedR_c18 (unhide HR))
        have p19 := P0.2 19 _ (deedR_c19 (unhide HR))
        go_wp2_with (first | (go_at_call 58; refine (specIn _ _ _ _ (by assumption) _).mono ?_; rintro e w' ⟨rfl, rfl⟩))
        go_ret
        exact ⟨ret_bool (by have : stepB x = false := decide_eq_false (by omega); rw [unhide HD, this, Bool.and_false]), B0⟩
    have hst : stepB x = true := decide_eq_true ⟨by omega, by omega, by omega⟩
    have HS := hide hst
    clear hst
    by_cases o1 : x.op = 1
    ·
      have qo : (x.op == 1) = true := by simpa using o1
      have HO := hide o1
      clear o1
      cases cc : inB x.code 1 5
      all_goals
        as_aux_lemma =>
          go_enter Try.func21, Try.ntmps21
          go_upto_region 1 with fail
          generalize World.alloc w _ = w0 at *
          have p0 := P0.2 0 _ (deedR_c0 (unhide HR))
          have p10 := P0.2 10 _ (deedR_c10 (unhide HR))
          have p13 := P0.2 13 _ (deedR_c13 (unhide HR))
          have p14 := P0.2 14 _ (deedR_c14 (unhide HR))
          have p15 := P0.2 15 _ (deedR_c15 (unhide HR))
          have p16 := P0.2 16 _ (deedR_c16 (unhide HR))
          have p17 := P0.2 17 _ (deedR_c17 (unhide HR))
          have p18 := P0.2 18 _ (deedR_c18 (unhide HR))
          have p19 := P0.2 19 _ (deedR_c19 (unhide HR))
          go_wp2_with (first | (go_at_call 58; refine (specIn _ _ _ _ (by assumption) _).mono ?_; rintro e w' ⟨rfl, rfl⟩))
          go_ret
          exact ⟨ret_bool (by rw [unhide HD, unhide HS, codeB, if_pos ⟨unhide HO, l0⟩, cc]; rfl), B0⟩
    ·
      have qo : (x.op == 1) = false := by simpa using o1
      as_aux_lemma =>
        go_enter Try.func21, Try.ntmps21
        go_upto_region 1 with fail
        generalize World.alloc w _ = w0 at *
        have p0 := P0.2 0 _ (deedR_c0 (unhide HR))
        have p10 := P0.2 10 _ (deedR_c10 (unhide HR))
        have p13 := P0.2 13 _ (deedR_c13 (unhide HR))
        have p14 := P0.2 14 _ (deedR_c14 (unhide HR))
        have p15 := P0.2 15 _ (deedR_c15 (unhide HR))
        have p16 := P0.2 16 _ (deedR_c16 (unhide HR))
        have p17 := P0.2 17 _ (deedR_c17 (unhide HR))
        have p18 := P0.2 18 _ (deedR_c18 (unhide HR))
        have p19 := P0.2 19 _ (deedR_c19 (unhide HR))
        go_wp2_with (first | (go_at_call 58; refine (specIn _ _ _ _ (by assumption) _).mono ?_; rintro e w' ⟨rfl, rfl⟩))
        go_ret
        exact ⟨ret_bool (by rw [unhide HD, unhide HS, codeB, if_neg (fun h => o1 h.1), Bool.and_true]; rfl), B0⟩
  have qr : (x.res != -1) = false := by simpa using r0
  have HR0 := hide r0
  clear r0
  have hst : stepB x = true := decide_eq_true ⟨by omega, by omega, .inl (unhide HR0)⟩
  have HS := hide hst
  clear hst
  by_cases o1 : x.op = 1
  ·
    have qo : (x.op == 1) = true := by simpa using o1
    have HO := hide o1
    clear o1
    cases cc : inB x.code 1 5
    all_goals
      as_aux_lemma =>
        go_enter Try.func21, Try.ntmps21
        go_upto_region 1 with fail
        generalize World.alloc w _ = w0 at *
        have p0 := P0.2 0 _ (deedR_c0 (unhide HR))
        have p10 := P0.2 10 _ (deedR_c10 (unhide HR))
        have p13 := P0.2 13 _ (deedR_c13 (unhide HR))
        have p14 := P0.2 14 _ (deedR_c14 (unhide HR))
        have p15 := P0.2 15 _ (deedR_c15 (unhide HR))
        have p16 := P0.2 16 _ (deedR_c16 (unhide HR))
        have p17 := P0.2 17 _ (deedR_c17 (unhide HR))
        have p18 := P0.2 18 _ (deedR_c18 (unhide HR))
        have p19 := P0.2 19 _ (deedR_c19 (unhide HR))
        go_wp2_with (first | (go_at_call 58; refine (specIn _ _ _ _ (by assumption) _).mono ?_; rintro e w' ⟨rfl, rfl⟩))
        go_ret
        exact ⟨ret_bool (by rw [unhide HD, unhide HS, codeB, if_pos ⟨unhide HO, l0⟩, cc]; rfl), B0⟩
  ·
    have qo : (x.op == 1) = false := by simpa using o1
    as_aux_lemma =>
      go_enter Try.func21, Try.ntmps21
      go_upto_region 1 with fail
      generalize World.alloc w _ = w0 at *
      have p0 := P0.2 0 _ (deedR_c0 (unhide HR))
      have p10 := P0.2 10 _ (deedR_c10 (unhide HR))
      have p13 := P0.2 13 _ (deedR_c13 (unhide HR))
      have p14 := P0.2 14 _ (deedR_c14 (unhide HR))
      have p15 := P0.2 15 _ (deedR_c15 (unhide HR))
      have p16 := P0.2 16 _ (deedR_c16 (unhide HR))
      have p17 := P0.2 17 _ (deedR_c17 (unhide HR))
      have p18 := P0.2 18 _ (deedR_c18 (unhide HR))
      have p19 := P0.2 19 _ (deedR_c19 (unhide HR))
      go_wp2_with (first | (go_at_call 58; refine (specIn _ _ _ _ (by assumption) _).mono ?_; rintro e w' ⟨rfl, rfl⟩))
      go_ret
      exact ⟨ret_bool (by rw [unhide HD, unhide HS, codeB, if_neg (fun h => o1 h.1), Bool.and_true]; rfl), B0⟩
end Go.Proofs.Ytklhljknkcmecaa
