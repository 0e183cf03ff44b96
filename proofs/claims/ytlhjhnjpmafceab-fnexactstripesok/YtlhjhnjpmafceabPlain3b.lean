/-
  Contracts of TrailOk of the program, by what is such among things; of SameTrail.
-/
import Derived.Test.YtlhjhnjpmafceabPlain3
namespace Go.Proofs.Ytlhjhnjpmafceab
open Go.ChangeShapes Go.WideShapes Go.ChangeAt Go.RowKit
set_option linter.unusedVariables false
set_option maxRecDepth 100000

def strangeB (x : TrailD) (s : SpanD) : Bool := !(ownB x s)
theorem implStrange (x : TrailD) (s : SpanD) (S0 : Nat → Prop) (c0 : List Value) (S1 : Nat → Prop) (c1 : List Value) (w : World) (h0 : trailR w S0 c0 x) (h1 : spanR w S1 c1 s) (b1 : spanBulk s ≤ 1048576) :
    Calls Try.prog 145 #[.agg c0.toArray, .agg c1.toArray] w fun e w' => e = .returned (.bool (strangeB x s)) ∧ Below w.heap.size w w' := by
  have q0 := trailR_c0 h0
  have q1 := spanR_c0 h1
  have P0 := (Held.new w c0 44).keep (bnew _ (.cells c1.toArray 63))
  have P1 := Held.new (w.alloc (.cells c0.toArray 44)) c1 63
  rw [show (w.alloc (.cells c0.toArray 44)).heap.size = w.heap.size + 1 by simp] at P1
  have B0 := bthen (bnew w (.cells c0.toArray 44)) (bnew _ (.cells c1.toArray 63))
  have r1 : RowT Try.prog 63 c1.length := by rw [spanR_len h1]; exact rowISpan
  by_cases e : s.1 = x.id
  · have q : (s.1 != x.id) = false := by simpa using e
    have HE := hide e
    clear e
    have HQ0 := hide q0
    have HQ1 := hide q1
    clear q0 q1
    go_enter Try.func145, Try.ntmps145
    go_upto_region 1 with fail
    generalize World.alloc (World.alloc w _) _ = w0 at *
    have p0 := P0.2 0 _ (unhide HQ0)
    have p1 := P1.2 0 _ (unhide HQ1)
    go_wp2_with (first | (refine wpl_loadG (by rfl) 63 _ rfl _ 0 rfl c1 P1.inB r1 ?_))
    refine (implSpanOkN s S1 c1 _ (spanR_keeps _ _ _ None1 _ _ (Below.turn B0) none_off h1) b1).mono ?_
    rintro e w1 ⟨rfl, hb1⟩
    go_wp2
    go_ret
    exact ⟨ret_bool (by rw [strangeB, ownB, decide_eq_true (unhide HE), Bool.and_true]), bthen B0 hb1⟩
  · have q : (s.1 != x.id) = true := by simpa using e
    have HQ0 := hide q0
    have HQ1 := hide q1
    clear q0 q1
    go_enter Try.func145, Try.ntmps145
    go_upto_region 1 with fail
    generalize World.alloc (World.alloc w _) _ = w0 at *
    have p0 := P0.2 0 _ (unhide HQ0)
    have p1 := P1.2 0 _ (unhide HQ1)
    go_wp2
    go_ret
    exact ⟨ret_bool (by rw [strangeB, ownB, decide_eq_false e, Bool.and_false]; rfl), B0⟩
set_option maxHeartbeats 2000000 in
theorem implIdxStrange (l : List SpanD) (S0 : Nat → Prop) (v0 : Value) (w : World) (h0 : LAt 6 spanR w S0 v0 l) (b0 : bulkL spanBulk l ≤ 1048576) (x : TrailD) (S1 : Nat → Prop) (c1 : List Value) (h1 : trailR w S1 c1 x) :
    Calls Try.prog 155 #[v0, .func (.func 145) #[.agg c1.toArray] #[]] w fun e w' => e = .returned (.int .i64 (idxv (strangeB x) l)) ∧ Below w.heap.size w w' := by
  obtain ⟨a, cap, rfl⟩ := h0.form
  have hl := h0.len
  have HA := hide h0
  clear h0
  go_enter Try.func155, Try.ntmps155
  go_wp2
  go_loopw [8] (fun i wk => ∃ k : Nat, k ≤ l.length ∧ i = .int .i64 k ∧ Hid (∀ j (h : j < l.length), j < k → (strangeB x) l[j] = false) ∧ Below w.heap.size w wk) (fun i _ => l.length - (intOf i).toNat)
  case atStart => exact ⟨0, Nat.zero_le _, rfl, hide (fun j h hj => absurd hj (Nat.not_lt_zero _)), Below.refl _ _⟩
  case round =>
    obtain ⟨k, hk, rfl, hno, hbl⟩ := hrel
    have hbs := hbl.size
    by_cases hlt : k < l.length
    · have hki : (k : Int) < (l.length : Int) := by omega
      obtain ⟨b, o, cs, rfl, hbk, hSb, hcs, hin⟩ := (unhide HA).at k hlt
      have hcs := spanR_keeps _ _ S0 None1 cs _ (Below.turn hbl) none_off hcs
      have hin := hin.turn hbk (Below.turn hbl) (fun e => e)
      have hXb : spanBulk l[k] ≤ 1048576 := by have := bulkL_mem spanBulk (List.getElem_mem hlt); omega
      have h1k := trailR_keeps _ _ S1 None1 c1 _ (Below.turn hbl) none_off h1
      have hrw : RowT Try.prog 63 cs.length := by rw [spanR_len hcs]; exact rowISpan
      generalize hX : l[k] = X at *
      have HX := hide hX
      clear hX
      go_wp2_with (first | (refine wpl_load rfl 63 _ rfl _ _ rfl cs hin hrw ?_))
      have hc := implStrange x X S1 c1 S0 cs _ h1k hcs hXb
      cases hp : (strangeB x) X
      · rw [hp] at hc
        refine hc.mono ?_
        rintro e w2 ⟨rfl, hb2⟩
        clear hc
        go_wp2
        go_roundw
        case rel =>
          refine ⟨k + 1, by omega, by go_num, hide (fun j h hj => ?_), bthen hbl hb2⟩
          by_cases hjk : j = k
          · subst hjk; rw [unhide HX]; exact hp
          · exact unhide hno j h (by omega)
        case measure => simp [intOf]; omega
      · rw [hp] at hc
        refine hc.mono ?_
        rintro e w2 ⟨rfl, hb2⟩
        clear hc
        have HF := hide (idxv_hit (p := strangeB x) hlt (unhide hno) (by rw [unhide HX]; exact hp))
        go_wp2
        go_ret
        exact ⟨by rw [unhide HF]; rfl, bthen hbl hb2⟩
    · have hki : ¬ (k : Int) < (l.length : Int) := by omega
      obtain rfl : k = l.length := by omega
      go_wp2
      go_ret
      exact ⟨by rw [idxv_miss (unhide hno)]; rfl, hbl⟩
theorem implHasStrange (l : List SpanD) (S0 : Nat → Prop) (v0 : Value) (w : World) (h0 : LAt 6 spanR w S0 v0 l) (b0 : bulkL spanBulk l ≤ 1048576) (x : TrailD) (S1 : Nat → Prop) (c1 : List Value) (h1 : trailR w S1 c1 x) :
    Calls Try.prog 144 #[v0, .func (.func 145) #[.agg c1.toArray] #[]] w fun e w' => e = .returned (.bool (l.any (strangeB x))) ∧ Below w.heap.size w w' := by
  obtain ⟨a, cap, rfl⟩ := h0.form
  go_enter Try.func144, Try.ntmps144
  go_wp2_with fail
  refine (implIdxStrange l S0 _ _ h0 b0 x S1 c1 h1).mono ?_
  rintro e w1 ⟨rfl, hb1⟩
  go_wp2
  go_ret
  exact ⟨ret_bool (by rw [← idxv_any]), hb1⟩
theorem all_strange (x : TrailD) : x.spans.all (ownB x) = !(x.spans.any (strangeB x)) := by
  rw [List.not_any_eq_all_not]
  congr 1
  funext s
  simp [strangeB]
set_option maxHeartbeats 1000000 in
theorem implTrailOk (x : TrailD) (S0 : Nat → Prop) (c0 : List Value) (w : World) (h0 : trailR w S0 c0 x) (b0 : trailBulk x ≤ 1048576) :
    Calls Try.prog 119 #[.agg c0.toArray] w fun e w' => e = .returned (.bool (trailB x)) ∧ Below w.heap.size w w' := by
  have HR := hide h0
  obtain ⟨a, k, q3, g⟩ := trailR_c3 h0
  have hl := g.len
  have HQ3 := hide q3
  have HG := hide g
  clear q3 g
  have P0 := Held.new w c0 44
  have B0 := bnew w (.cells c0.toArray 44)
  have r0 : RowT Try.prog 44 c0.length := by rw [trailR_len h0]; exact rowITrail
  have hmf := hmf
  clear h0
  cases e0 : inB x.id 1 999
  ·
    go_enter Try.func119, Try.ntmps119
    go_upto_region 1 with fail
    generalize World.alloc w _ = w0 at *
    have p0 := P0.2 0 _ (trailR_c0 (unhide HR))
    have p1 := P0.2 1 _ (trailR_c1 (unhide HR))
    have p2 := P0.2 2 _ (trailR_c2 (unhide HR))
    have p3 := P0.2 3 _ (unhide HQ3)
    go_wp2_with (first | (go_at_call 113; refine (implIdOk _ _ (by assumption) _).mono ?_; rintro e w' ⟨rfl, rfl⟩) | (go_at_call 57; refine (implAmountOk _ _ (by assumption) _).mono ?_; rintro e w' ⟨rfl, rfl⟩))
    go_ret
    exact ⟨ret_bool (by simp only [trailB, e0]; simp), B0⟩
  by_cases e1 : 1 ≤ x.stamp
  case neg =>
    go_enter Try.func119, Try.ntmps119
    go_upto_region 1 with fail
    generalize World.alloc w _ = w0 at *
    have p0 := P0.2 0 _ (trailR_c0 (unhide HR))
    have p1 := P0.2 1 _ (trailR_c1 (unhide HR))
    have p2 := P0.2 2 _ (trailR_c2 (unhide HR))
    have p3 := P0.2 3 _ (unhide HQ3)
    go_wp2_with (first | (go_at_call 113; refine (implIdOk _ _ (by assumption) _).mono ?_; rintro e w' ⟨rfl, rfl⟩) | (go_at_call 57; refine (implAmountOk _ _ (by assumption) _).mono ?_; rintro e w' ⟨rfl, rfl⟩))
    go_ret
    exact ⟨ret_bool (by simp only [trailB, decide_eq_false (show ¬ 1 ≤ x.stamp by omega)]; simp), B0⟩
  cases e2 : inB x.first 0 2147483647
  ·
    go_enter Try.func119, Try.ntmps119
    go_upto_region 1 with fail
    generalize World.alloc w _ = w0 at *
    have p0 := P0.2 0 _ (trailR_c0 (unhide HR))
    have p1 := P0.2 1 _ (trailR_c1 (unhide HR))
    have p2 := P0.2 2 _ (trailR_c2 (unhide HR))
    have p3 := P0.2 3 _ (unhide HQ3)
    go_wp2_with (first | (go_at_call 113; refine (implIdOk _ _ (by assumption) _).mono ?_; rintro e w' ⟨rfl, rfl⟩) | (go_at_call 57; refine (implAmountOk _ _ (by assumption) _).mono ?_; rintro e w' ⟨rfl, rfl⟩))
    go_ret
    exact ⟨ret_bool (by simp only [trailB, e2]; simp), B0⟩
  by_cases e3 : 0 < (x.spans.length : Int)
  case neg =>
    go_enter Try.func119, Try.ntmps119
    go_upto_region 1 with fail
    generalize World.alloc w _ = w0 at *
    have p0 := P0.2 0 _ (trailR_c0 (unhide HR))
    have p1 := P0.2 1 _ (trailR_c1 (unhide HR))
    have p2 := P0.2 2 _ (trailR_c2 (unhide HR))
    have p3 := P0.2 3 _ (unhide HQ3)
    go_wp2_with (first | (go_at_call 113; refine (implIdOk _ _ (by assumption) _).mono ?_; rintro e w' ⟨rfl, rfl⟩) | (go_at_call 57; refine (implAmountOk _ _ (by assumption) _).mono ?_; rintro e w' ⟨rfl, rfl⟩))
    go_ret
    exact ⟨ret_bool (by simp only [trailB, decide_eq_false (show ¬ 1 ≤ x.spans.length by omega)]; simp), B0⟩
  go_enter Try.func119, Try.ntmps119
  go_upto_region 1 with fail
  generalize World.alloc w _ = w0 at *
  have p0 := P0.2 0 _ (trailR_c0 (unhide HR))
  have p1 := P0.2 1 _ (trailR_c1 (unhide HR))
  have p2 := P0.2 2 _ (trailR_c2 (unhide HR))
  have p3 := P0.2 3 _ (unhide HQ3)
  go_wp2_with (first | (go_at_call 113; refine (implIdOk _ _ (by assumption) _).mono ?_; rintro e w' ⟨rfl, rfl⟩) | (go_at_call 57; refine (implAmountOk _ _ (by assumption) _).mono ?_; rintro e w' ⟨rfl, rfl⟩) | (refine wpl_loadG (by rfl) 44 _ rfl _ 0 rfl c0 P0.inB r0 ?_))
  refine (implHasStrange x.spans S0 _ _ ((unhide HG).keep spanR_keeps B0) (by unfold trailBulk at b0; exact b0) x S0 c0 (trailR_keeps _ _ _ None1 _ _ (Below.turn B0) none_off (unhide HR))).mono ?_
  rintro e w1 ⟨rfl, hb1⟩
  go_wp2
  go_ret
  exact ⟨ret_bool (by rw [trailB, all_strange, e0, e2, decide_eq_true e1, decide_eq_true (show 1 ≤ x.spans.length by omega)]; simp), bthen B0 hb1⟩

/-- Two lists are alike, one by one. -/
def eqL {α : Type} (p : α → α → Bool) (l m : List α) : Bool := decide (l.length = m.length) && (l.zip m).all (fun q => p q.1 q.2)
theorem eqL_len {α : Type} {p : α → α → Bool} {l m : List α} (h : l.length ≠ m.length) : eqL p l m = false := by simp [eqL, h]
theorem eqL_miss {α : Type} {p : α → α → Bool} {l m : List α} {k : Nat} (h1 : k < l.length) (h2 : k < m.length) (h : p l[k] m[k] = false) : eqL p l m = false := by
  unfold eqL
  rw [Bool.and_eq_false_iff]
  refine .inr ?_
  rw [List.all_eq_false]
  refine ⟨(l[k], m[k]), ?_, by rw [h]; simp⟩
  have hk : k < (l.zip m).length := by rw [List.length_zip]; omega
  have : (l.zip m)[k] = (l[k], m[k]) := by rw [List.getElem_zip]
  rw [← this]
  exact List.getElem_mem hk
theorem eqL_all {α : Type} {p : α → α → Bool} {l m : List α} (hl : l.length = m.length) (h : ∀ j (h1 : j < l.length) (h2 : j < m.length), p l[j] m[j] = true) : eqL p l m = true := by
  unfold eqL
  rw [decide_eq_true hl, Bool.true_and, List.all_eq_true]
  intro q hq
  obtain ⟨j, hj, rfl⟩ := List.mem_iff_getElem.1 hq
  rw [List.length_zip] at hj
  rw [List.getElem_zip]
  exact h j (by omega) (by omega)
def sameTB (x y : TrailD) : Bool := decide (x.id = y.id) && (decide (x.stamp = y.stamp) && (decide (x.first = y.first) && eqL sameSB x.spans y.spans))
end Go.Proofs.Ytlhjhnjpmafceab
