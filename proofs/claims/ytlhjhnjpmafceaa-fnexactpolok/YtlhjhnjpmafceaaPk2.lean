/-
  Whether a rule is right, with those in it, of the program.
-/
import Derived.Test.YtlhjhnjpmafceaaPk1
import Derived.Shelf.Abstract
import Derived.Test.YtlhjhnjpmafceaaWk5
namespace Go.Proofs.Ytlhjhnjpmafceaa
open Go.ChangeShapes Go.WideShapes Go.ChangeAt Go.RowKit
set_option linter.unusedVariables false
set_option maxRecDepth 100000

def RwP (d : Nat) : Prop := ∀ (x : PolD) (S : Nat → Prop) (cs : List Value) (m : Nat) (w : World), m ≤ 4 → polRd d w S cs x →
    Calls Try.prog 36 #[.agg cs.toArray, .int .i64 m] w fun e w' => e = .returned (.bool (okTo m x)) ∧ Below w.heap.size w w'
set_option maxHeartbeats 2000000 in
theorem dRwP (d : Nat) (ih : RwP d) : RwP (d + 1) := by
  intro x S cs m w hm h
  have hR := polR_open.2 (polR_open.1 (⟨d + 1, h⟩ : polR w S cs x))
  obtain ⟨s0, rfl, q0, q1, g0⟩ := h
  obtain ⟨a0, k0, rfl⟩ := g0.form
  have P0 := Held.new w [.int .i64 x.kind, .int .i64 x.n, .string x.key, .string x.text, .slice a0 x.l.length k0] 29
  have B0 := bnew w (.cells #[.int .i64 x.kind, .int .i64 x.n, .string x.key, .string x.text, .slice a0 x.l.length k0] 29)
  have hl := g0.len
  match m, hm with
  | 0, _ =>
    clear g0 hR
    go_enter Try.func36, Try.ntmps36
    go_upto_region 1 with fail
    generalize World.alloc w _ = w0 at *
    go_wp2
    go_ret
    exact ⟨rfl, B0⟩
  | m + 1, hm =>
    obtain ⟨T, V, f, V', hR1, hR2, hR3, hR4⟩ := implRule (basD x) (by simp [basD]) q0 q1
    have HG := hide (g0.keep (polRd_keeps d) B0)
    have HX := hide (polR_keeps _ _ _ _ _ _ (Below.turn B0) none_off hR)
    have hrw : RowT Try.prog 29 [Value.int .i64 x.kind, .int .i64 x.n, .string x.key, .string x.text, .slice a0 x.l.length k0].length := rowIPol
    have HR1 := hide hR1
    have HR3 := hide hR3
    have hm1 : ¬ (m : Int) + 1 < 1 := by omega
    have hm3 : m ≤ 3 := by omega
    clear g0 hR hR1 hR3
    cases hone : oneB (basD x)
    · have HV : Hid (okTo (m + 1) x = false) := hide (by unfold okTo; rw [hone]; rfl)
      go_enter Try.func36, Try.ntmps36
      go_upto_region 1 with fail
      generalize World.alloc w _ = w0 at *
      go_wp2_with (first | (refine wpl_loadG (by rfl) 29 _ rfl _ 0 rfl _ P0.inB hrw ?_) | (go_at_call 51; refine (implBasicOf x S _ _ (unhide HX)).mono ?_; rintro e w1 ⟨rfl, hb1⟩) | (go_at_call 54; refine (unhide HR1 _).mono ?_; rintro e w2 ⟨rfl, hb2⟩) | (go_at_fn f; refine (unhide HR3 _).mono ?_; rintro e w3 ⟨rfl, hb3⟩; rw [hone]))
      go_ret
      exact ⟨ret_bool (unhide HV).symm, bthen B0 (bthen hb1 (bthen hb2 hb3))⟩
    · have HV : Hid (okTo (m + 1) x = x.l.all (okTo m)) := hide (by show (oneB (basD x) && _) = _; rw [hone]; rfl)
      go_enter Try.func36, Try.ntmps36
      go_upto_region 1 with fail
      generalize World.alloc w _ = w0 at *
      go_upto_region 3 with (first | (refine wpl_loadG (by rfl) 29 _ rfl _ 0 rfl _ P0.inB hrw ?_) | (go_at_call 51; refine (implBasicOf x S _ _ (unhide HX)).mono ?_; rintro e w1 ⟨rfl, hb1⟩) | (go_at_call 54; refine (unhide HR1 _).mono ?_; rintro e w2 ⟨rfl, hb2⟩) | (go_at_fn f; refine (unhide HR3 _).mono ?_; rintro e w3 ⟨rfl, hb3⟩; rw [hone]))
      have hb := bthen hb1 (bthen hb2 hb3)
      have HG3 := hide ((unhide HG).keep (polRd_keeps d) hb)
      have p4 := (P0.keep hb).2 4 _ rfl
      have B3 := bthen B0 hb
      clear hb1 hb2 hb3 hb P0 HX HR1 HR3 hone hrw hR2 hR4 HG
      go_wp2
      clear p4
      go_loopw [19] (fun i wk => ∃ k : Nat, k ≤ x.l.length ∧ i = .int .i64 k ∧ Hid (∀ j (hj : j < x.l.length), j < k → okTo m x.l[j] = true) ∧ Below w3.heap.size w3 wk) (fun i _ => x.l.length - (intOf i).toNat)
      case atStart => exact ⟨0, Nat.zero_le _, rfl, hide (fun j _ hj => absurd hj (Nat.not_lt_zero _)), Below.refl _ _⟩
      case round =>
        obtain ⟨k, hk, rfl, hall, hbl⟩ := hrel
        have hbs := hbl.size
        by_cases hlt : k < x.l.length
        · have hki : (k : Int) < (x.l.length : Int) := by omega
          obtain ⟨b, o, cs, rfl, hbk, hSb, hcs, hin⟩ := (unhide HG3).at1.at k hlt
          have hcs := polRd_keeps d _ _ S None1 cs _ (Below.turn hbl) none_off hcs
          have hin := hin.turn hbk (Below.turn hbl) (fun e => e)
          have hln := polRd_len hcs
          have hrw : RowT Try.prog 29 cs.length := by rw [hln]; exact rowIPol
          have on1 := polRd_one hcs
          generalize hX : x.l[k] = X at *
          have hA1 := Held.new wr cs 29
          have hbA := bnew wr (.cells cs.toArray 29)
          have BL1 := hbl.trans (hbA.mono hbs)
          have HI := hide (ih X S cs m (wr.alloc (.cells cs.toArray 29)) (by omega) (polRd_keeps d _ _ _ _ _ _ (Below.turn hbA) none_off hcs))
          have HXE := hide hX
          have HLN := hide hln
          clear hX hcs hbl hbA hln
          go_upto_region 6 with (first | (refine wpl_load rfl 29 _ rfl _ _ rfl cs hin hrw ?_) | (refine wpl_store_new rfl 29 _ _ rfl _ cs rfl rfl ?_ on1 hrw ?_; (rw [unhide HLN]; rfl)))
          generalize wr.alloc (.cells cs.toArray 29) = wa at *
          cases hok : okTo m X
          · have HK := hide hok
            clear hok
            go_wp2_with (first | (refine wpl_load rfl 29 _ rfl _ 0 rfl cs hA1.inB hrw ?_))
            refine (unhide HI).mono ?_
            rintro e w4 ⟨rfl, hb4⟩
            rw [unhide HK]
            go_wp2
            go_ret
            exact ⟨ret_bool (by rw [unhide HV]; exact (all_take hlt (by rw [unhide HXE]; exact unhide HK)).symm), bthen B3 (bthen BL1 hb4)⟩
          · have HK := hide hok
            clear hok
            go_wp2_with (first | (refine wpl_load rfl 29 _ rfl _ 0 rfl cs hA1.inB hrw ?_))
            refine (unhide HI).mono ?_
            rintro e w4 ⟨rfl, hb4⟩
            rw [unhide HK]
            clear hA1 hin hrw on1 HI
            go_wp2
            go_roundw
            case rel =>
              refine ⟨k + 1, by omega, by go_num, hide (fun j hj hjk => ?_), bthen BL1 hb4⟩
              by_cases e : j = k
              · subst e; rw [unhide HXE]; exact unhide HK
              · exact unhide hall j hj (by omega)
            case measure => simp [intOf]; omega
        · have hki : ¬ (k : Int) < (x.l.length : Int) := by omega
          obtain rfl : k = x.l.length := by omega
          have HAL := hide (all_upto (unhide hall))
          go_wp2
          go_ret
          exact ⟨ret_bool (by rw [unhide HV, unhide HAL]), bthen B3 hbl⟩
theorem rwP : ∀ d, RwP d
  | 0 => fun _ _ _ _ _ _ h => h.elim
  | d + 1 => dRwP d (rwP d)
def polOkB (x : PolD) : Bool := okTo 4 x && decide ((polPre x).length ≤ 12)
set_option maxHeartbeats 1000000 in
theorem implPolOk (x : PolD) (S0 : Nat → Prop) (cs : List Value) (w : World) (h0 : polX w S0 cs x) (b0 : polBulk x ≤ 1048576) :
    Calls Try.prog 19 #[.agg cs.toArray] w fun e w' => e = .returned (.bool (polOkB x)) ∧ Below w.heap.size w w' := by
  have P0 := Held.new w cs 29
  have B0 := bnew w (.cells cs.toArray 29)
  have hrw : RowT Try.prog 29 cs.length := by rw [polX_len h0]; exact rowIPol
  have hx := polX_keeps _ _ _ _ _ _ (Below.turn B0) none_off h0
  obtain ⟨d, hd⟩ := polX_read _ _ _ _ hx
  have HW := hide (rwP d x _ cs 4 _ (by omega) hd)
  have HX := hide hx
  have hpb := pre_bulk x
  have hpl : (polPre x).length ≤ 1048577 := by omega
  clear h0 hx hd hpb
  cases ho : okTo 4 x
  · have HV : Hid (polOkB x = false) := hide (by unfold polOkB; rw [ho]; rfl)
    go_enter Try.func19, Try.ntmps19
    go_upto_region 1 with fail
    generalize w.alloc (.cells cs.toArray 29) = w0 at *
    go_wp2_with (first | (refine wpl_load rfl 29 _ rfl _ 0 rfl cs P0.inB hrw ?_))
    refine (unhide HW).mono ?_
    rintro e w1 ⟨rfl, hb1⟩
    rw [ho]
    go_wp2
    go_ret
    exact ⟨ret_bool (unhide HV).symm, bthen B0 hb1⟩
  · have HV : Hid (polOkB x = decide ((polPre x).length ≤ 12)) := hide (by unfold polOkB; rw [ho]; rfl)
    go_enter Try.func19, Try.ntmps19
    go_upto_region 1 with fail
    generalize w.alloc (.cells cs.toArray 29) = w0 at *
    go_wp2_with (first | (refine wpl_load rfl 29 _ rfl _ 0 rfl cs P0.inB hrw ?_))
    refine (unhide HW).mono ?_
    rintro e w1 ⟨rfl, hb1⟩
    rw [ho]
    have P1 := P0.keep hb1
    have HX1 := hide (implPolCount x _ cs _ (polX_keeps _ _ _ _ _ _ (Below.turn hb1) none_off (unhide HX)) b0)
    clear HW HX
    go_wp2_with (first | (refine wpl_loadG (by rfl) 29 _ rfl _ 0 rfl cs P1.inB hrw ?_))
    refine (unhide HX1).mono ?_
    rintro e w2 ⟨rfl, hb2⟩
    clear HX1
    generalize (polPre x).length = c at *
    go_wp2
    go_ret
    exact ⟨ret_bool (by rw [unhide HV, Bool.eq_iff_iff]; simp; omega), bthen B0 (bthen hb1 hb2)⟩
end Go.Proofs.Ytlhjhnjpmafceaa
