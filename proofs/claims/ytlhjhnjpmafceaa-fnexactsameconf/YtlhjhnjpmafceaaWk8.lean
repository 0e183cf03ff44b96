/-
  How many rules there are in a rule, and whether one asks for tokens, of the specification.
-/
import Derived.Test.YtlhjhnjpmafceaaWk0
import Derived.Test.YtlhjhnjpmafceaaTPol
namespace Go.Proofs.Ytlhjhnjpmafceaa
open Go.ChangeShapes Go.WideShapes Go.ChangeAt Go.RowKit
set_option linter.unusedVariables false
set_option maxRecDepth 100000

theorem pres_take (l : List PolD) (k : Nat) (h : k < l.length) : polPres (l.take (k + 1)) = polPres (l.take k) ++ polPre l[k] := by
  rw [List.take_succ_eq_append_getElem h]
  unfold polPres
  rw [List.map_append, List.flatten_append, List.map_cons, List.map_nil, List.flatten_cons, List.flatten_nil, List.append_nil]
theorem pres_le (l : List PolD) (k : Nat) : (polPres (l.take k)).length ≤ (polPres l).length := by
  have : polPres l = polPres (l.take k) ++ polPres (l.drop k) := by
    conv => lhs; rw [← List.take_append_drop k l]
    unfold polPres
    rw [List.map_append, List.flatten_append]
  rw [this, List.length_append]
  omega
def CntP (d : Nat) : Prop := ∀ (x : PolD) (S : Nat → Prop) (cs : List Value) (w : World), polRd d w S cs x → (polPre x).length ≤ 1048577 →
    Calls Try.prog 10 #[.agg cs.toArray] w fun e w' => e = .returned (.int .i64 (polPre x).length) ∧ Below w.heap.size w w'
set_option maxHeartbeats 2000000 in
theorem dCntP (d : Nat) (ih : CntP d) : CntP (d + 1) := by
  intro x S cs w h hn
  obtain ⟨s0, rfl, q0, q1, g0⟩ := h
  obtain ⟨a0, k0, rfl⟩ := g0.form
  have P0 := Held.new w [.int .i64 x.kind, .int .i64 x.n, .string x.key, .string x.text, .slice a0 x.l.length k0] 29
  have B0 := bnew w (.cells #[.int .i64 x.kind, .int .i64 x.n, .string x.key, .string x.text, .slice a0 x.l.length k0] 29)
  have HG := hide (g0.keep (polRd_keeps d) B0)
  have hl := g0.len
  have hx := polPre_eq x
  have hxl : (polPre x).length = 1 + (polPres x.l).length := by rw [hx, List.length_cons]; omega
  rw [hxl]
  rw [hxl] at hn
  clear g0 hx hxl
  go_enter Try.func10, Try.ntmps10
  go_upto_region 1 with fail
  generalize World.alloc w _ = w0 at *
  go_wp2
  go_loopw [3, 4] (fun n i wk => ∃ k : Nat, k ≤ x.l.length ∧ i = .int .i64 k ∧ n = .int .i64 (1 + (polPres (x.l.take k)).length) ∧ Below w0.heap.size w0 wk) (fun _ i _ => x.l.length - (intOf i).toNat)
  case atStart => exact ⟨0, Nat.zero_le _, rfl, by simp [polPres], Below.refl _ _⟩
  case round =>
    obtain ⟨k, hk, rfl, rfl, hbl⟩ := hrel
    have hbs := hbl.size
    have p4 := (P0.keep hbl).2 4 _ rfl
    have hle := pres_le x.l k
    by_cases hlt : k < x.l.length
    · have hki : (k : Int) < (x.l.length : Int) := by omega
      have hle2 := pres_le x.l (k + 1)
      have hst := pres_take x.l k hlt
      rw [hst, List.length_append] at hle2
      obtain ⟨b, o, cs, rfl, hbk, hSb, hcs, hin⟩ := (unhide HG).at1.at k hlt
      have hcs := polRd_keeps d _ _ S None1 cs _ (Below.turn hbl) none_off hcs
      have hin := hin.turn hbk (Below.turn hbl) (fun e => e)
      have hrw : RowT Try.prog 29 cs.length := by rw [polRd_len hcs]; exact rowIPol
      generalize hX : x.l[k] = X at *
      have HST : Hid ((polPres (x.l.take (k + 1))).length = (polPres (x.l.take k)).length + (polPre X).length) := hide (by rw [hst, List.length_append])
      have HI := hide (ih X S cs wr hcs (by omega))
      clear hst hX hcs
      generalize (polPres (x.l.take k)).length = c at *
      generalize (polPre X).length = c2 at *
      go_wp2_with (first | (refine wpl_load rfl 29 _ rfl _ _ rfl cs hin hrw ?_))
      refine (unhide HI).mono ?_
      rintro e w2 ⟨rfl, hb2⟩
      clear HI hin hrw
      go_wp2
      go_roundw
      case rel => exact ⟨k + 1, by omega, by go_num, by rw [unhide HST]; go_num, bthen hbl hb2⟩
      case measure => simp [intOf]; omega
    · have hki : ¬ (k : Int) < (x.l.length : Int) := by omega
      have e : x.l.take k = x.l := List.take_of_length_le (by omega)
      rw [e]
      go_wp2
      go_ret
      exact ⟨ret_int (by omega), bthen B0 hbl⟩
theorem cntP : ∀ d, CntP d
  | 0 => fun _ _ _ _ h => h.elim
  | d + 1 => dCntP d (cntP d)
theorem specPolCount (x : PolD) (S0 : Nat → Prop) (cs : List Value) (w : World) (h0 : polR w S0 cs x) (b0 : polBulk x ≤ 1048576) :
    Calls Try.prog 10 #[.agg cs.toArray] w fun e w' => e = .returned (.int .i64 (polPre x).length) ∧ Below w.heap.size w w' := by
  obtain ⟨d, h⟩ := h0
  exact cntP d x S0 cs w h (by have := pre_bulk x; omega)
def rateB (l : List PolD) : Bool := l.any (fun y => decide (y.kind = 6))
theorem rateB_app (l m : List PolD) : rateB (l ++ m) = (rateB l || rateB m) := by simp [rateB]
def RatP (d : Nat) : Prop := ∀ (x : PolD) (S : Nat → Prop) (cs : List Value) (w : World), polRd d w S cs x →
    Calls Try.prog 14 #[.agg cs.toArray] w fun e w' => e = .returned (.bool (rateB (polPre x))) ∧ Below w.heap.size w w'
set_option maxHeartbeats 2000000 in
theorem dRatP (d : Nat) (ih : RatP d) : RatP (d + 1) := by
  intro x S cs w h
  obtain ⟨s0, rfl, q0, q1, g0⟩ := h
  obtain ⟨a0, k0, rfl⟩ := g0.form
  have P0 := Held.new w [.int .i64 x.kind, .int .i64 x.n, .string x.key, .string x.text, .slice a0 x.l.length k0] 29
  have B0 := bnew w (.cells #[.int .i64 x.kind, .int .i64 x.n, .string x.key, .string x.text, .slice a0 x.l.length k0] 29)
  have HG := hide (g0.keep (polRd_keeps d) B0)
  have hl := g0.len
  have hxb : rateB (polPre x) = (decide (x.kind = 6) || rateB (polPres x.l)) := by rw [polPre_eq x]; rfl
  have HXB := hide hxb
  clear g0 hxb
  by_cases e6 : x.kind = 6
  · have q6 : (x.kind == 6) = true := by simpa using e6
    have HV : Hid (rateB (polPre x) = true) := hide (by rw [unhide HXB, decide_eq_true e6]; rfl)
    clear e6
    go_enter Try.func14, Try.ntmps14
    go_upto_region 1 with fail
    generalize World.alloc w _ = w0 at *
    have p0 := P0.2 0 _ rfl
    go_wp2
    go_ret
    exact ⟨ret_bool (unhide HV).symm, B0⟩
  have q6 : (x.kind == 6) = false := by simpa using e6
  have HV : Hid (rateB (polPre x) = rateB (polPres x.l)) := hide (by rw [unhide HXB, decide_eq_false e6]; rfl)
  clear e6
  go_enter Try.func14, Try.ntmps14
  go_upto_region 1 with fail
  generalize World.alloc w _ = w0 at *
  have p0 := P0.2 0 _ rfl
  go_wp2
  clear p0 q6
  go_loopw [3] (fun i wk => ∃ k : Nat, k ≤ x.l.length ∧ i = .int .i64 k ∧ Hid (rateB (polPres (x.l.take k)) = false) ∧ Below w0.heap.size w0 wk) (fun i _ => x.l.length - (intOf i).toNat)
  case atStart => exact ⟨0, Nat.zero_le _, rfl, hide rfl, Below.refl _ _⟩
  case round =>
    obtain ⟨k, hk, rfl, hno, hbl⟩ := hrel
    have hbs := hbl.size
    have p4 := (P0.keep hbl).2 4 _ rfl
    by_cases hlt : k < x.l.length
    · have hki : (k : Int) < (x.l.length : Int) := by omega
      have hst := pres_take x.l k hlt
      obtain ⟨b, o, cs, rfl, hbk, hSb, hcs, hin⟩ := (unhide HG).at1.at k hlt
      have hcs := polRd_keeps d _ _ S None1 cs _ (Below.turn hbl) none_off hcs
      have hin := hin.turn hbk (Below.turn hbl) (fun e => e)
      have hrw : RowT Try.prog 29 cs.length := by rw [polRd_len hcs]; exact rowIPol
      have hmem : x.l[k] ∈ x.l := List.getElem_mem hlt
      generalize hX : x.l[k] = X at *
      have HST : Hid (rateB (polPres (x.l.take (k + 1))) = rateB (polPre X)) := hide (by rw [hst, rateB_app, unhide hno]; rfl)
      have HM : Hid (rateB (polPre X) = true → rateB (polPres x.l) = true) := hide (fun e => by
        unfold rateB at e ⊢
        rw [List.any_eq_true] at e ⊢
        obtain ⟨y, hy, hy2⟩ := e
        exact ⟨y, List.mem_flatten.2 ⟨_, List.mem_map.2 ⟨X, hmem, rfl⟩, hy⟩, hy2⟩)
      have HI := hide (ih X S cs wr hcs)
      clear hst hX hcs hmem hno
      cases hr : rateB (polPre X)
      · have HR := hide hr
        clear hr
        go_wp2_with (first | (refine wpl_load rfl 29 _ rfl _ _ rfl cs hin hrw ?_))
        refine (unhide HI).mono ?_
        rintro e w2 ⟨rfl, hb2⟩
        rw [unhide HR]
        clear HI hin hrw
        go_wp2
        go_roundw
        case rel => exact ⟨k + 1, by omega, by go_num, hide (by rw [unhide HST]; exact unhide HR), bthen hbl hb2⟩
        case measure => simp [intOf]; omega
      · have HR := hide hr
        clear hr
        go_wp2_with (first | (refine wpl_load rfl 29 _ rfl _ _ rfl cs hin hrw ?_))
        refine (unhide HI).mono ?_
        rintro e w2 ⟨rfl, hb2⟩
        rw [unhide HR]
        clear HI hin hrw
        go_wp2
        go_ret
        exact ⟨ret_bool (by rw [unhide HV, unhide HM (unhide HR)]), bthen B0 (bthen hbl hb2)⟩
    · have hki : ¬ (k : Int) < (x.l.length : Int) := by omega
      have HE : Hid (rateB (polPres x.l) = false) := hide (by have := unhide hno; rwa [List.take_of_length_le (by omega)] at this)
      go_wp2
      go_ret
      exact ⟨ret_bool (by rw [unhide HV, unhide HE]), bthen B0 hbl⟩
theorem ratP : ∀ d, RatP d
  | 0 => fun _ _ _ _ h => h.elim
  | d + 1 => dRatP d (ratP d)
theorem specHasRate (x : PolD) (S0 : Nat → Prop) (cs : List Value) (w : World) (h0 : polR w S0 cs x) (b0 : polBulk x ≤ 1048576) :
    Calls Try.prog 14 #[.agg cs.toArray] w fun e w' => e = .returned (.bool ((polPre x).any (fun y => decide (y.kind = 6)))) ∧ Below w.heap.size w w' := by
  obtain ⟨d, h⟩ := h0
  exact ratP d x S0 cs w h
end Go.Proofs.Ytlhjhnjpmafceaa
