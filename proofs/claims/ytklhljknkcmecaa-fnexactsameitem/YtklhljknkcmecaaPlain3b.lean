/-
  Contracts of TrailOk of the program, by what is such among things; of SameTrail.
-/
import Derived.Test.YtklhljknkcmecaaPlain3
namespace Go.Proofs.Ytklhljknkcmecaa
open Go.ChangeShapes Go.WideShapes Go.ChangeAt Go.RowKit
set_option linter.unusedVariables false
set_option maxRecDepth 100000

def strangeB (x : TrailD) (s : SpanD) : Bool := !(ownB x s)
theorem implStrange (x : TrailD) (s : SpanD) (S0 : Nat → Prop) (c0 : List Value) (S1 : Nat → Prop) (c1 : List Value) (w : World) (h0 : trailR w S0 c0 x) (h1 : spanR w S1 c1 s) (b1 : spanBulk s ≤ 1048576) :
    Calls Try.prog 74 #[.agg c0.toArray, .agg c1.toArray] w fun e w' => e = .returned (.bool (strangeB x s)) ∧ Below w.heap.size w w' := by
  have q0 := trailR_c0 h0
  have q1 := spanR_c0 h1
  have P0 := (Held.new w c0 29).keep (bnew _ (.cells c1.toArray 41))
  have P1 := Held.new (w.alloc (.cells c0.toArray 29)) c1 41
  rw [show (w.alloc (.cells c0.toArray 29)).heap.size = w.heap.size + 1 by simp] at P1
  have B0 := bthen (bnew w (.cells c0.toArray 29)) (bnew _ (.cells c1.toArray 41))
  have r1 : RowT Try.prog 41 c1.length := by rw [spanR_len h1]; exact rowISpan
  by_cases e : s.1 = x.id
  · have q : (s.1 != x.id) = false := by simpa using e
    have HE := hide e
    clear e
    have HQ0 := hide q0
    have HQ1 := hide q1
    clear q0 q1
    go_enter Try.func74, Try.ntmps74
    go_upto_region 1 with fail
    generalize World.alloc (World.alloc w _) _ = w0 at *
    have p0 := P0.2 0 _ (unhide HQ0)
    have p1 := P1.2 0 _ (unhide HQ1)
    go_wp2_with (first | (refine wpl_loadG (by rfl) 41 _ rfl _ 0 rfl c1 P1.inB r1 ?_))
    refine (implSpanOkN s S1 c1 _ (spanR_keeps _ _ _ None1 _ _ (Below.turn B0) none_off h1) b1).mono ?_
    rintro e w1 ⟨rfl, hb1⟩
    go_wp2
    go_ret
    exact ⟨ret_bool (by rw [strangeB, ownB, decide_eq_true (unhide HE), Bool.and_true]), bthen B0 hb1⟩
  · have q : (s.1 != x.id) = true := by simpa using e
    have HQ0 := hide q0
    have HQ1 := hide q1
    clear q0 q1
    go_enter Try.func74, Try.ntmps74
    go_upto_region 1 with fail
    generalize World.alloc (World.alloc w _) _ = w0 at *
    have p0 := P0.2 0 _ (unhide HQ0)
    have p1 := P1.2 0 _ (unhide HQ1)
    go_wp2
    go_ret
    exact ⟨ret_bool (by rw [strangeB, ownB, decide_eq_false e, Bool.and_false]; rfl), B0⟩
set_option maxHeartbeats 2000000 in
theorem implIdxStrange (l : List SpanD) (S0 : Nat → Prop) (v0 : Value) (w : World) (h0 : LAt 6 spanR w S0 v0 l) (b0 : bulkL spanBulk l ≤ 1048576) (x : TrailD) (S1 : Nat → Prop) (c1 : List Value) (h1 : trailR w S1 c1 x) :
    Calls Try.prog 97 #[v0, .func (.func 74) #[.agg c1.toArray] #[]] w fun e w' => e = .returned (.int .i64 (idxv (strangeB x) l)) ∧ Below w.heap.size w w' := by
  obtain ⟨a, cap, rfl⟩ := h0.form
  have hl := h0.len
  have HA := hide h0
  clear h0
  go_enter Try.func97, Try.ntmps97
  go_wp2
  go_loopw [8] (fun i wk => ∃ k : Nat, k ≤ l.length ∧ i = .int .i64 k ∧ Hid (∀ j (h : j < l.length), j < k → (strangeB x) l[j] = false) ∧ Below w.heap.size w wk) (fun i _ => l.length - (intOf i).toNat)
  case atStart => exact ⟨0, Nat.zero_le _, rfl, hide (fun j h hj => absurd hj (Nat.not_lt_zero _)), Below.refl _ _⟩
  case round =>
    obtain ⟨k, hk, rfl, hno, hbl⟩ := hrel
    have hbs := hbl.size
    by_cases hlt : k < l.length
    · have hki : (k : Int) < (l.length : Int) := by omega
      obtain ⟨b, o, cs, rfl, hbk, hSb, hcs, hin⟩ := (unhide HA).at k hlt
      have hcs := spanR_keeps _ _ S0 None1 cs _ (Below.turn hbl) none_off hcs
      have hin := hin.turn hbk (Below.turn hbl) (fun e => e)
      have hXb : spanBulk l[k] ≤ 1048576 := by have := bulkL_mem spanBulk (List.getElem_mem hlt); omega
      have h1k := trailR_keeps _ _ S1 None1 c1 _ (Below.turn hbl) none_off h1
      have hrw : RowT Try.prog 41 cs.length := by rw [spanR_len hcs]; exact rowISpan
      generalize hX : l[k] = X at *
      have HX := hide hX
      clear hX
      go_wp2_with (first | (refine wpl_load rfl 41 _ rfl _ _ rfl cs hin hrw ?_))
      have hc := implStrange x X S1 c1 S0 cs _ h1k hcs hXb
      cases hp : (strangeB x) X
      · rw [hp] at hc
        refine hc.mono ?_
        rintro e w2 ⟨rfl, hb2⟩
        clear hc
        go_wp2
        go_roundw
        case rel =>
          refine ⟨k + 1, by omega, by go_num, hide (fun j h hj => ?_), bthen hbl hb2⟩
          by_cases hjk : j = k
          · subst hjk; rw [unhide HX]; exact hp
          · exact unhide hno j h (by omega)
        case measure => simp [intOf]; omega
      · rw [hp] at hc
        refine hc.mono ?_
        rintro e w2 ⟨rfl, hb2⟩
        clear hc
        have HF := hide (idxv_hit (p := strangeB x) hlt (unhide hno) (by rw [unhide HX]; exact hp))
        go_wp2
        go_ret
        exact ⟨by rw [unhide HF]; rfl, bthen hbl hb2⟩
    · have hki : ¬ (k : Int) < (l.length : Int) := by omega
      obtain rfl : k = l.length := by omega
      go_wp2
      go_ret
      exact ⟨by rw [idxv_miss (unhide hno)]; rfl, hbl⟩
theorem implHasStrange (l : List SpanD) (S0 : Nat → Prop) (v0 : Value) (w : World) (h0 : LAt 6 spanR w S0 v0 l) (b0 : bulkL spanBulk l ≤ 1048576) (x : TrailD) (S1 : Nat → Prop) (c1 : List Value) (h1 : trailR w S1 c1 x) :
    Calls Try.prog 73 #[v0, .func (.func 74) #[.agg c1.toArray] #[]] w fun e w' => e = .returned (.bool (l.any (strangeB x))) ∧ Below w.heap.size w w' := by
  obtain ⟨a, cap, rfl⟩ := h0.form
  go_enter Try.func73, Try.ntmps73
  go_wp2_with fail
  refine (implIdxStrange l S0 _ _ h0 b0 x S1 c1 h1).mono ?_
  rintro e w1 ⟨rfl, hb1⟩
  go_wp2
  go_ret
  exact ⟨ret_bool (by rw [← idxv_any]), hb1⟩
theorem all_strange (x : TrailD) : x.spans.all (ownB x) = !(x.spans.any (strangeB x)) := by
  rw [List.not_any_eq_all_not]
  congr 1
  funext s
  simp [strangeB]
set_option maxHeartbeats 1000000 in
theorem implTrailOk (x : TrailD) (S0 : Nat → Prop) (c0 : List Value) (w : World) (h0 : trailR w S0 c0 x) (b0 : trailBulk x ≤ 1048576) :
    Calls Try.prog 40 #[.agg c0.toArray] w fun e w' => e = .returned (.bool (trailB x)) ∧ Below w.heap.size w w' := by
  have HR := hide h0
  obtain ⟨a, k, q3, g⟩ := trailR_c3 h0
  have hl := g.len
  have HQ3 := hide q3
  have HG := hide g
  clear q3 g
  have P0 := Held.new w c0 29
  have B0 := bnew w (.cells c0.toArray 29)
  have r0 : RowT Try.prog 29 c0.length := by rw [trailR_len h0]; exact rowITrail
  have hmf := hmf
  clear h0
  cases e0 : inB x.id 1 999
  ·
    go_enter Try.func40, Try.ntmps40
    go_upto_region 1 with fail
    generalize World.alloc w _ = w0 at *
    have p0 := P0.2 0 _ (trailR_c0 (unhide HR))
    have p1 := P0.2 1 _ (trailR_c1 (unhide HR))
    have p2 := P0.2 2 _ (trailR_c2 (unhide HR))
    have p3 := P0.2 3 _ (unhide HQ3)
    go_wp2_with (first | (go_at_call 71; refine (implIdOk _ _ (by assumption) _).mono ?_; rintro e w' ⟨rfl, rfl⟩) | (go_at_call 72; refine (implAmountOk _ _ (by assumption) _).mono ?_; rintro e w' ⟨rfl, rfl⟩))
    go_ret
    exact ⟨ret_bool (by simp only [trailB, e0]; simp), B0⟩
  by_cases e1 : 1 ≤ x.stamp
  case neg =>
    go_enter Try.func40, Try.ntmps40
    go_upto_region 1 with fail
    generalize World.alloc w _ = w0 at *
    have p0 := P0.2 0 _ (trailR_c0 (unhide HR))
    have p1 := P0.2 1 _ (trailR_c1 (unhide HR))
    have p2 := P0.2 2 _ (trailR_c2 (unhide HR))
    have p3 := P0.2 3 _ (unhide HQ3)
    go_wp2_with (first | (go_at_call 71; refine (implIdOk _ _ (by assumption) _).mono ?_; rintro e w' ⟨rfl, rfl⟩) | (go_at_call 72; refine (implAmountOk _ _ (by assumption) _).mono ?_; rintro e w' ⟨rfl, rfl⟩))
    go_ret
    exact ⟨ret_bool (by simp only [trailB, decide_eq_false (show ¬ 1 ≤ x.stamp by omega)]; simp), B0⟩
  cases e2 : inB x.first 0 2147483647
  ·
    go_enter Try.func40, Try.ntmps40
    go_upto_region 1 with fail
    generalize World.alloc w _ = w0 at *
    have p0 := P0.2 0 _ (trailR_c0 (unhide HR))
    have p1 := P0.2 1 _ (trailR_c1 (unhide HR))
    have p2 := P0.2 2 _ (trailR_c2 (unhide HR))
    have p3 := P0.2 3 _ (unhide HQ3)
    go_wp2_with (first | (go_at_call 71; refine (implIdOk _ _ (by assumption) _).mono ?_; rintro e w' ⟨rfl, rfl⟩) | (go_at_call 72; refine (implAmountOk _ _ (by assumption) _).mono ?_; rintro e w' ⟨rfl, rfl⟩))
    go_ret
    exact ⟨ret_bool (by simp only [trailB, e2]; simp), B0⟩
  by_cases e3 : 0 < (x.spans.length : Int)
  case neg =>
    go_enter Try.func40, Try.ntmps40
    go_upto_region 1 with fail
    generalize World.alloc w _ = w0 at *
    have p0 := P0.2 0 _ (trailR_c0 (unhide HR))
    have p1 := P0.2 1 _ (trailR_c1 (unhide HR))
    have p2 := P0.2 2 _ (trailR_c2 (unhide HR))
    have p3 := P0.2 3 _ (unhide HQ3)
    go_wp2_with (first | (go_at_call 71; refine (implIdOk _ _ (by assumption) _).mono ?_; rintro e w' ⟨rfl, rfl⟩) | (go_at_call 72; refine (implAmountOk _ _ (by assumption) _).mono ?_; rintro e w' ⟨rfl, rfl⟩))
    go_ret
    exact ⟨ret_bool (by simp only [trailB, decide_eq_false (show ¬ 1 ≤ x.spans.length by omega)]; simp), B0⟩
  go_enter Try.func40, Try.ntmps40
  go_upto_region 1 with fail
  generalize World.alloc w _ = w0 at *
  have p0 := P0.2 0 _ (trailR_c0 (unhide HR))
  have p1 := P0.2 1 _ (trailR_c1 (unhide HR))
  have p2 := P0.2 2 _ (trailR_c2 (unhide HR))
  have p3 := P0.2 3 _ (unhide HQ3)
  go_wp2_with (first | (go_at_call 71; refine (implIdOk _ _ (by assumption) _).mono ?_; rintro e w' ⟨rfl, rfl⟩) | (go_at_call 72; refine (implAmountOk _ _ (by assumption) _).mono ?_; rintro e w' ⟨rfl, rfl⟩) | (refine wpl_loadG (by rfl) 29 _ rfl _ 0 rfl c0 P0.inB r0 ?_))
  refine (implHasStrange x.spans S0 _ _ ((unhide HG).keep spanR_keeps B0) (by unfold trailBulk at b0; exact b0) x S0 c0 (trailR_keeps _ _ _ None1 _ _ (Below.turn B0) none_off (unhide HR))).mono ?_
  rintro e w1 ⟨rfl, hb1⟩
  go_wp2
  go_ret
  exact ⟨ret_bool (by rw [trailB, all_strange, e0, e2, decide_eq_true e1, decide_eq_true (show 1 ≤ x.spans.length by omega)]; simp), bthen B0 hb1⟩

/-- Two lists are alike, one by one. -/
def eqL {α : Type} (p : α → α → Bool) (l m : List α) : Bool := decide (l.length = m.length) && (l.zip m).all (fun q => p q.1 q.2)
theorem eqL_len {α : Type} {p : α → α → Bool} {l m : List α} (h : l.length ≠ m.length) : eqL p l m = false := by simp [eqL, h]
theorem eqL_miss {α : Type} {p : α → α → Bool} {l m : List α} {k : Nat} (h1 : k < l.length) (h2 : k < m.length) (h : p l[k] m[k] = false) : eqL p l m = false := by
  unfold eqL
  rw [Bool.and_eq_false_iff]
  refine .inr ?_
  rw [List.all_eq_false]
  refine ⟨(l[k], m[k]), ?_, by rw [h]; simp⟩
  have hk : k < (l.zip m).length := by rw [List.length_zip]; omega
  have : (l.zip m)[k] = (l[k], m[k]) := by rw [List.getElem_zip]
  rw [← this]
  exact List.getElem_mem hk
theorem eqL_all {α : Type} {p : α → α → Bool} {l m : List α} (hl : l.length = m.length) (h : ∀ j (h1 : j < l.length) (h2 : j < m.length), p l[j] m[j] = true) : eqL p l m = true := by
  unfold eqL
  rw [decide_eq_true hl, Bool.true_and, List.all_eq_true]
  intro q hq
  obtain ⟨j, hj, rfl⟩ := List.mem_iff_getElem.1 hq
  rw [List.length_zip] at hj
  rw [List.getElem_zip]
  exact h j (by omega) (by omega)
def sameTB (x y : TrailD) : Bool := decide (x.id = y.id) && (decide (x.stamp = y.stamp) && (decide (x.first = y.first) && eqL sameSB x.spans y.spans))
set_option maxHeartbeats 4000000 in
theorem implEqSpans (l m : List SpanD) (S0 S1 : Nat → Prop) (v0 v1 : Value) (w : World) (h0 : LAt 6 spanR w S0 v0 l) (h1 : LAt 6 spanR w S1 v1 m) (b0 : bulkL spanBulk l ≤ 1048576) (b1 : bulkL spanBulk m ≤ 1048576) :
    Calls Try.prog 76 #[v0, v1, .func (.func 77) #[] #[]] w fun e w' => e = .returned (.bool (eqL sameSB l m)) ∧ Below w.heap.size w w' := by
  obtain ⟨a, cap, rfl⟩ := h0.form
  obtain ⟨a', cap', rfl⟩ := h1.form
  have hl := h0.len
  have hl' := h1.len
  have HA := hide h0
  have HB := hide h1
  clear h0 h1
  by_cases hne : l.length = m.length
  case neg =>
    have hne' : ((l.length : Int) == (m.length : Int)) = false := beq_eq_false_iff_ne.2 (by omega)
    have hnn : ((l.length : Int) != (m.length : Int)) = true := by simp; omega
    have HF := hide (eqL_len (p := sameSB) hne)
    clear hne
    go_enter Try.func76, Try.ntmps76
    go_wp2
    go_ret
    exact ⟨ret_bool (unhide HF).symm, Below.refl _ _⟩
  have hnn : ((l.length : Int) != (m.length : Int)) = false := by simp; omega
  have HN := hide hne
  clear hne
  go_enter Try.func76, Try.ntmps76
  go_wp2
  go_loopw [17] (fun i wk => ∃ k : Nat, k ≤ l.length ∧ i = .int .i64 k ∧ Hid (∀ j (h1 : j < l.length) (h2 : j < m.length), j < k → sameSB l[j] m[j] = true) ∧ Below w.heap.size w wk) (fun i _ => l.length - (intOf i).toNat)
  case atStart => exact ⟨0, Nat.zero_le _, rfl, hide (fun j h h2 hj => absurd hj (Nat.not_lt_zero _)), Below.refl _ _⟩
  case round =>
    obtain ⟨k, hk, rfl, hall, hbl⟩ := hrel
    have hbs := hbl.size
    by_cases hlt : k < l.length
    · have hlt' : k < m.length := by have := unhide HN; omega
      have hki : (k : Int) < (l.length : Int) := by omega
      have hki' : (k : Int) < (m.length : Int) := by omega
      obtain ⟨b, o, cs, rfl, hbk, hSb, hcs, hin⟩ := (unhide HA).at k hlt
      obtain ⟨b', o', cs2, rfl, hbk', hSb', hcs2, hin2⟩ := (unhide HB).at k hlt'
      have hcs := spanR_keeps _ _ S0 None1 cs _ (Below.turn hbl) none_off hcs
      have hin := hin.turn hbk (Below.turn hbl) (fun e => e)
      have hcs2 := spanR_keeps _ _ S1 None1 cs2 _ (Below.turn hbl) none_off hcs2
      have hin2 := hin2.turn hbk' (Below.turn hbl) (fun e => e)
      have hXb : spanBulk l[k] ≤ 1048576 := by have := bulkL_mem spanBulk (List.getElem_mem hlt); omega
      have hYb : spanBulk m[k] ≤ 1048576 := by have := bulkL_mem spanBulk (List.getElem_mem hlt'); omega
      have hrw : RowT Try.prog 41 cs.length := by rw [spanR_len hcs]; exact rowISpan
      have hrw2 : RowT Try.prog 41 cs2.length := by rw [spanR_len hcs2]; exact rowISpan
      generalize hX : l[k] = X at *
      generalize hY : m[k] = Y at *
      have HX := hide hX
      have HY := hide hY
      clear hX hY
      have hl1 := spanR_len hcs
      have hl2 := spanR_len hcs2
      have HL1 := hide hl1
      have HL2 := hide hl2
      have on1 := spanR_one hcs
      have on2 := spanR_one hcs2
      clear hl1 hl2
      have hbkA := Nat.lt_of_lt_of_le hbk hbs
      have hbkB := Nat.lt_of_lt_of_le hbk' hbs
      have hA1 := Held.new wr cs 41
      have hbA := bnew wr (.cells cs.toArray 41)
      have hin2 := hin2.turn hbkB (Below.turn hbA) (fun e => e)
      go_upto_region 6 with (first | (refine wpl_load rfl 41 _ rfl _ _ rfl cs hin hrw ?_) | (refine wpl_store_new rfl _ _ _ rfl _ cs rfl rfl ?_ on1 hrw ?_; (rw [unhide HL1]; rfl)))
      generalize hWa : World.alloc wr _ = wa at *
      clear hWa
      have hB1 := Held.new wa cs2 41
      have hbB := bnew wa (.cells cs2.toArray 41)
      have hA1 := hA1.keep hbB
      have hbC := bthen hbA hbB
      go_upto_region 7 with (first | (refine wpl_load rfl 41 _ rfl _ _ rfl cs2 hin2 hrw2 ?_) | (refine wpl_store_new rfl _ _ _ rfl _ cs2 rfl rfl ?_ on2 hrw2 ?_; (rw [unhide HL2]; rfl)))
      generalize hWb : World.alloc wa _ = wb at *
      clear hWb
      have hcs := spanR_keeps _ _ S0 None1 cs _ (Below.turn hbC) none_off hcs
      have hcs2 := spanR_keeps _ _ S1 None1 cs2 _ (Below.turn hbC) none_off hcs2
      go_wp2_with (first | (refine wpl_load rfl 41 _ rfl _ 0 rfl cs hA1.inB hrw ?_) | (refine wpl_load rfl 41 _ rfl _ 0 rfl cs2 hB1.inB hrw2 ?_))
      have hc := implSameSpanN X Y _ cs _ cs2 _ hcs hXb hcs2 hYb
      cases hp : sameSB X Y
      · rw [hp] at hc
        refine hc.mono ?_
        rintro e w2 ⟨rfl, hb2⟩
        clear hc
        have HF := hide (eqL_miss (p := sameSB) hlt hlt' (by rw [unhide HX, unhide HY]; exact hp))
        go_wp2
        go_ret
        exact ⟨ret_bool (unhide HF).symm, bthen hbl (bthen hbC hb2)⟩
      · rw [hp] at hc
        refine hc.mono ?_
        rintro e w2 ⟨rfl, hb2⟩
        clear hc
        go_wp2
        go_roundw
        case rel =>
          refine ⟨k + 1, by omega, by go_num, hide (fun j h h2 hj => ?_), bthen hbl (bthen hbC hb2)⟩
          by_cases hjk : j = k
          · subst hjk; rw [unhide HX, unhide HY]; exact hp
          · exact unhide hall j h h2 (by omega)
        case measure => simp [intOf]; omega
    · have hki : ¬ (k : Int) < (l.length : Int) := by omega
      obtain rfl : k = l.length := by omega
      have HF := hide (eqL_all (p := sameSB) (unhide HN) (fun j h1 h2 => unhide hall j h1 h2 h1))
      go_wp2
      go_ret
      exact ⟨ret_bool (unhide HF).symm, hbl⟩
set_option maxHeartbeats 4000000 in
theorem specEqSpans (l m : List SpanD) (S0 S1 : Nat → Prop) (v0 v1 : Value) (w : World) (h0 : LAt 6 spanR w S0 v0 l) (h1 : LAt 6 spanR w S1 v1 m) (b0 : bulkL spanBulk l ≤ 1048576) (b1 : bulkL spanBulk m ≤ 1048576) :
    Calls Try.prog 75 #[v0, v1] w fun e w' => e = .returned (.bool (eqL sameSB l m)) ∧ Below w.heap.size w w' := by
  obtain ⟨a, cap, rfl⟩ := h0.form
  obtain ⟨a', cap', rfl⟩ := h1.form
  have hl := h0.len
  have hl' := h1.len
  have HA := hide h0
  have HB := hide h1
  clear h0 h1
  by_cases hne : l.length = m.length
  case neg =>
    have hne' : ((l.length : Int) == (m.length : Int)) = false := beq_eq_false_iff_ne.2 (by omega)
    have hnn : ((l.length : Int) != (m.length : Int)) = true := by simp; omega
    have HF := hide (eqL_len (p := sameSB) hne)
    clear hne
    go_enter Try.func75, Try.ntmps75
    go_wp2
    go_ret
    exact ⟨ret_bool (unhide HF).symm, Below.refl _ _⟩
  have hnn : ((l.length : Int) != (m.length : Int)) = false := by simp; omega
  have HN := hide hne
  clear hne
  go_enter Try.func75, Try.ntmps75
  go_wp2
  go_loopw [5] (fun i wk => ∃ k : Nat, k ≤ l.length ∧ i = .int .i64 k ∧ Hid (∀ j (h1 : j < l.length) (h2 : j < m.length), j < k → sameSB l[j] m[j] = true) ∧ Below w.heap.size w wk) (fun i _ => l.length - (intOf i).toNat)
  case atStart => exact ⟨0, Nat.zero_le _, rfl, hide (fun j h h2 hj => absurd hj (Nat.not_lt_zero _)), Below.refl _ _⟩
  case round =>
    obtain ⟨k, hk, rfl, hall, hbl⟩ := hrel
    have hbs := hbl.size
    by_cases hlt : k < l.length
    · have hlt' : k < m.length := by have := unhide HN; omega
      have hki : (k : Int) < (l.length : Int) := by omega
      have hki' : (k : Int) < (m.length : Int) := by omega
      obtain ⟨b, o, cs, rfl, hbk, hSb, hcs, hin⟩ := (unhide HA).at k hlt
      obtain ⟨b', o', cs2, rfl, hbk', hSb', hcs2, hin2⟩ := (unhide HB).at k hlt'
      have hcs := spanR_keeps _ _ S0 None1 cs _ (Below.turn hbl) none_off hcs
      have hin := hin.turn hbk (Below.turn hbl) (fun e => e)
      have hcs2 := spanR_keeps _ _ S1 None1 cs2 _ (Below.turn hbl) none_off hcs2
      have hin2 := hin2.turn hbk' (Below.turn hbl) (fun e => e)
      have hXb : spanBulk l[k] ≤ 1048576 := by have := bulkL_mem spanBulk (List.getElem_mem hlt); omega
      have hYb : spanBulk m[k] ≤ 1048576 := by have := bulkL_mem spanBulk (List.getElem_mem hlt'); omega
      have hrw : RowT Try.prog 41 cs.length := by rw [spanR_len hcs]; exact rowISpan
      have hrw2 : RowT Try.prog 41 cs2.length := by rw [spanR_len hcs2]; exact rowISpan
      generalize hX : l[k] = X at *
      generalize hY : m[k] = Y at *
      have HX := hide hX
      have HY := hide hY
      clear hX hY
      have hbkA := Nat.lt_of_lt_of_le hbk hbs
      have hbkB := Nat.lt_of_lt_of_le hbk' hbs
      go_upto_region 6 with fail
      cases hp : sameSB X Y
      ·
        refine wp_region_held_drew (S := fun w' => Below wr.heap.size wr w') (by kernel_rfl) (Below.drew (Below.refl _ _)) (fun hHeld => ?_)
        refine wpAnyH_take (i := 0) (oi := ?oo1) (v := ?vv1) ?hi1 (by kernel_rfl) (by kernel_rfl) (by kernel_rfl) ?hQ1 ?hy1 (by assumption) ?rest1
        case hi1 => (simp only [List.getElem?_toArray, List.getElem?_cons_zero]; rfl)
        case hQ1 => exact fun _ _ _ h => h
        case hy1 => exact Or.inl ⟨by rfl, by intro wS hSw; (try dsimp only at hSw); go_simp; try first | (with_reducible rfl) | (simp only [*]; done) | omega⟩
        try simp only [Act.put, List.setIfInBounds_toArray, List.set_cons_zero, List.set_cons_succ]
        refine wpAnyH_take (i := 1) (oi := ?oo2) (v := ?vv2) ?hi2 (by kernel_rfl) (by kernel_rfl) (by kernel_rfl) ?hQ2 ?hy2 (by assumption) ?rest2
        case hi2 => (simp only [List.getElem?_toArray, List.getElem?_cons_zero, List.getElem?_cons_succ]; rfl)
        case hQ2 => exact fun _ _ _ h => h
        case hy2 => exact Or.inl ⟨by rfl, by intro wS hSw; (try dsimp only at hSw); go_simp; try first | (with_reducible rfl) | (simp only [*]; done) | omega⟩
        try simp only [Act.put, List.setIfInBounds_toArray, List.set_cons_zero, List.set_cons_succ]
        refine wpAnyH_take (i := 2) (oi := ?oo3) (v := ?vv3) ?hi3 (by kernel_rfl) (by kernel_rfl) (by kernel_rfl) ?hQ3 ?hy3 (by assumption) ?rest3
        case hi3 => (simp only [List.getElem?_toArray, List.getElem?_cons_zero, List.getElem?_cons_succ]; rfl)
        case hQ3 => exact fun _ _ _ h => h
        case hy3 => exact Or.inl ⟨by rfl, by intro wS hSw; (try dsimp only at hSw); go_simp; try first | (with_reducible rfl) | (simp only [*]; done) | omega⟩
        try simp only [Act.put, List.setIfInBounds_toArray, List.set_cons_zero, List.set_cons_succ]
        refine wpAnyH_take (i := 3) (oi := ?oo4) (v := .agg cs.toArray) ?hi4 (by kernel_rfl) (by kernel_rfl) (by kernel_rfl) ?hQ4 ?hy4 (by assumption) ?rest4
        case hi4 => (simp only [List.getElem?_toArray, List.getElem?_cons_zero, List.getElem?_cons_succ]; rfl)
        case hQ4 => exact fun _ _ _ h => h
        case hy4 => exact yld_load (by rfl) _ _ rfl _ _ rfl cs (fun w' hS => hin.turn hbkA (Below.turn hS) (fun e => e)) hrw
        try simp only [Act.put, List.setIfInBounds_toArray, List.set_cons_zero, List.set_cons_succ]
        refine wpAnyH_take (i := 4) (oi := ?oo5) (v := ?vv5) ?hi5 (by kernel_rfl) (by kernel_rfl) (by kernel_rfl) ?hQ5 ?hy5 (by assumption) ?rest5
        case hi5 => (simp only [List.getElem?_toArray, List.getElem?_cons_zero, List.getElem?_cons_succ]; rfl)
        case hQ5 => exact fun _ _ _ h => h
        case hy5 => exact Or.inl ⟨by rfl, by intro wS hSw; (try dsimp only at hSw); go_simp; try first | (with_reducible rfl) | (simp only [*]; done) | omega⟩
        try simp only [Act.put, List.setIfInBounds_toArray, List.set_cons_zero, List.set_cons_succ]
        refine wpAnyH_take (i := 5) (oi := ?oo6) (v := ?vv6) ?hi6 (by kernel_rfl) (by kernel_rfl) (by kernel_rfl) ?hQ6 ?hy6 (by assumption) ?rest6
        case hi6 => (simp only [List.getElem?_toArray, List.getElem?_cons_zero, List.getElem?_cons_succ]; rfl)
        case hQ6 => exact fun _ _ _ h => h
        case hy6 => exact Or.inl ⟨by rfl, by intro wS hSw; (try dsimp only at hSw); go_simp; try first | (with_reducible rfl) | (simp only [*]; done) | omega⟩
        try simp only [Act.put, List.setIfInBounds_toArray, List.set_cons_zero, List.set_cons_succ]
        refine wpAnyH_take (i := 6) (oi := ?oo7) (v := ?vv7) ?hi7 (by kernel_rfl) (by kernel_rfl) (by kernel_rfl) ?hQ7 ?hy7 (by assumption) ?rest7
        case hi7 => (simp only [List.getElem?_toArray, List.getElem?_cons_zero, List.getElem?_cons_succ]; rfl)
        case hQ7 => exact fun _ _ _ h => h
        case hy7 => exact Or.inl ⟨by rfl, by intro wS hSw; (try dsimp only at hSw); go_simp; try first | (with_reducible rfl) | (simp only [*]; done) | omega⟩
        try simp only [Act.put, List.setIfInBounds_toArray, List.set_cons_zero, List.set_cons_succ]
        refine wpAnyH_take (i := 7) (oi := ?oo8) (v := .agg cs2.toArray) ?hi8 (by kernel_rfl) (by kernel_rfl) (by kernel_rfl) ?hQ8 ?hy8 (by assumption) ?rest8
        case hi8 => (simp only [List.getElem?_toArray, List.getElem?_cons_zero, List.getElem?_cons_succ]; rfl)
        case hQ8 => exact fun _ _ _ h => h
        case hy8 => exact yld_load (by rfl) _ _ rfl _ _ rfl cs2 (fun w' hS => hin2.turn hbkB (Below.turn hS) (fun e => e)) hrw2
        try simp only [Act.put, List.setIfInBounds_toArray, List.set_cons_zero, List.set_cons_succ]
        refine wpAnyH_ready (rs := [8]) (by kernel_rfl) (by simp) ?_
        refine (AllReadyH.cons (o := ?bo9n8) ?bh9n8 (fun K hK => ?br9n8) AllReadyH.nil)
        case bh9n8 => (simp only [List.getElem?_toArray, List.getElem?_cons_zero, List.getElem?_cons_succ]; rfl)
        case br9n8 =>
          go_simp
          have hc := specSameSpanN X Y _ cs _ cs2 _ (spanR_keeps _ _ _ None1 _ _ (Below.turn hHeld) none_off hcs) hXb (spanR_keeps _ _ _ None1 _ _ (Below.turn hHeld) none_off hcs2) hYb
          rw [hp] at hc
          refine hc.mono ?_
          rintro e w5 ⟨rfl, hb5⟩
          have hH5 := bthen hHeld hb5
          clear hc hHeld hb5
          go_wp2_with fail
          refine hK.out _ _ (hH5) (fun hHeld => ?_)
          clear hK
          refine wpAnyH_take (i := 9) (oi := ?oo10) (v := ?vv10) ?hi10 (by kernel_rfl) (by kernel_rfl) (by kernel_rfl) ?hQ10 ?hy10 (by assumption) ?rest10
          case hi10 => (simp only [List.getElem?_toArray, List.getElem?_cons_zero, List.getElem?_cons_succ]; rfl)
          case hQ10 => exact fun _ _ _ h => h
          case hy10 => exact Or.inl ⟨by rfl, by intro wS hSw; (try dsimp only at hSw); go_simp; try first | (with_reducible rfl) | (simp only [*]; done) | omega⟩
          try simp only [Act.put, List.setIfInBounds_toArray, List.set_cons_zero, List.set_cons_succ]
          refine wpAnyH_done (by kernel_rfl) ?_ _
          have HF := hide (eqL_miss (p := sameSB) hlt hlt' (by rw [unhide HX, unhide HY]; exact hp))
          go_wp2
          go_ret
          exact ⟨ret_bool (unhide HF).symm, bthen hbl hHeld⟩
      ·
        refine wp_region_held_drew (S := fun w' => Below wr.heap.size wr w') (by kernel_rfl) (Below.drew (Below.refl _ _)) (fun hHeld => ?_)
        refine wpAnyH_take (i := 0) (oi := ?oo11) (v := ?vv11) ?hi11 (by kernel_rfl) (by kernel_rfl) (by kernel_rfl) ?hQ11 ?hy11 (by assumption) ?rest11
        case hi11 => (simp only [List.getElem?_toArray, List.getElem?_cons_zero]; rfl)
        case hQ11 => exact fun _ _ _ h => h
        case hy11 => exact Or.inl ⟨by rfl, by intro wS hSw; (try dsimp only at hSw); go_simp; try first | (with_reducible rfl) | (simp only [*]; done) | omega⟩
        try simp only [Act.put, List.setIfInBounds_toArray, List.set_cons_zero, List.set_cons_succ]
        refine wpAnyH_take (i := 1) (oi := ?oo12) (v := ?vv12) ?hi12 (by kernel_rfl) (by kernel_rfl) (by kernel_rfl) ?hQ12 ?hy12 (by assumption) ?rest12
        case hi12 => (simp only [List.getElem?_toArray, List.getElem?_cons_zero, List.getElem?_cons_succ]; rfl)
        case hQ12 => exact fun _ _ _ h => h
        case hy12 => exact Or.inl ⟨by rfl, by intro wS hSw; (try dsimp only at hSw); go_simp; try first | (with_reducible rfl) | (simp only [*]; done) | omega⟩
        try simp only [Act.put, List.setIfInBounds_toArray, List.set_cons_zero, List.set_cons_succ]
        refine wpAnyH_take (i := 2) (oi := ?oo13) (v := ?vv13) ?hi13 (by kernel_rfl) (by kernel_rfl) (by kernel_rfl) ?hQ13 ?hy13 (by assumption) ?rest13
        case hi13 => (simp only [List.getElem?_toArray, List.getElem?_cons_zero, List.getElem?_cons_succ]; rfl)
        case hQ13 => exact fun _ _ _ h => h
        case hy13 => exact Or.inl ⟨by rfl, by intro wS hSw; (try dsimp only at hSw); go_simp; try first | (with_reducible rfl) | (simp only [*]; done) | omega⟩
        try simp only [Act.put, List.setIfInBounds_toArray, List.set_cons_zero, List.set_cons_succ]
        refine wpAnyH_take (i := 3) (oi := ?oo14) (v := .agg cs.toArray) ?hi14 (by kernel_rfl) (by kernel_rfl) (by kernel_rfl) ?hQ14 ?hy14 (by assumption) ?rest14
        case hi14 => (simp only [List.getElem?_toArray, List.getElem?_cons_zero, List.getElem?_cons_succ]; rfl)
        case hQ14 => exact fun _ _ _ h => h
        case hy14 => exact yld_load (by rfl) _ _ rfl _ _ rfl cs (fun w' hS => hin.turn hbkA (Below.turn hS) (fun e => e)) hrw
        try simp only [Act.put, List.setIfInBounds_toArray, List.set_cons_zero, List.set_cons_succ]
        refine wpAnyH_take (i := 4) (oi := ?oo15) (v := ?vv15) ?hi15 (by kernel_rfl) (by kernel_rfl) (by kernel_rfl) ?hQ15 ?hy15 (by assumption) ?rest15
        case hi15 => (simp only [List.getElem?_toArray, List.getElem?_cons_zero, List.getElem?_cons_succ]; rfl)
        case hQ15 => exact fun _ _ _ h => h
        case hy15 => exact Or.inl ⟨by rfl, by intro wS hSw; (try dsimp only at hSw); go_simp; try first | (with_reducible rfl) | (simp only [*]; done) | omega⟩
        try simp only [Act.put, List.setIfInBounds_toArray, List.set_cons_zero, List.set_cons_succ]
        refine wpAnyH_take (i := 5) (oi := ?oo16) (v := ?vv16) ?hi16 (by kernel_rfl) (by kernel_rfl) (by kernel_rfl) ?hQ16 ?hy16 (by assumption) ?rest16
        case hi16 => (simp only [List.getElem?_toArray, List.getElem?_cons_zero, List.getElem?_cons_succ]; rfl)
        case hQ16 => exact fun _ _ _ h => h
        case hy16 => exact Or.inl ⟨by rfl, by intro wS hSw; (try dsimp only at hSw); go_simp; try first | (with_reducible rfl) | (simp only [*]; done) | omega⟩
        try simp only [Act.put, List.setIfInBounds_toArray, List.set_cons_zero, List.set_cons_succ]
        refine wpAnyH_take (i := 6) (oi := ?oo17) (v := ?vv17) ?hi17 (by kernel_rfl) (by kernel_rfl) (by kernel_rfl) ?hQ17 ?hy17 (by assumption) ?rest17
        case hi17 => (simp only [List.getElem?_toArray, List.getElem?_cons_zero, List.getElem?_cons_succ]; rfl)
        case hQ17 => exact fun _ _ _ h => h
        case hy17 => exact Or.inl ⟨by rfl, by intro wS hSw; (try dsimp only at hSw); go_simp; try first | (with_reducible rfl) | (simp only [*]; done) | omega⟩
        try simp only [Act.put, List.setIfInBounds_toArray, List.set_cons_zero, List.set_cons_succ]
        refine wpAnyH_take (i := 7) (oi := ?oo18) (v := .agg cs2.toArray) ?hi18 (by kernel_rfl) (by kernel_rfl) (by kernel_rfl) ?hQ18 ?hy18 (by assumption) ?rest18
        case hi18 => (simp only [List.getElem?_toArray, List.getElem?_cons_zero, List.getElem?_cons_succ]; rfl)
        case hQ18 => exact fun _ _ _ h => h
        case hy18 => exact yld_load (by rfl) _ _ rfl _ _ rfl cs2 (fun w' hS => hin2.turn hbkB (Below.turn hS) (fun e => e)) hrw2
        try simp only [Act.put, List.setIfInBounds_toArray, List.set_cons_zero, List.set_cons_succ]
        refine wpAnyH_ready (rs := [8]) (by kernel_rfl) (by simp) ?_
        refine (AllReadyH.cons (o := ?bo19n8) ?bh19n8 (fun K hK => ?br19n8) AllReadyH.nil)
        case bh19n8 => (simp only [List.getElem?_toArray, List.getElem?_cons_zero, List.getElem?_cons_succ]; rfl)
        case br19n8 =>
          go_simp
          have hc := specSameSpanN X Y _ cs _ cs2 _ (spanR_keeps _ _ _ None1 _ _ (Below.turn hHeld) none_off hcs) hXb (spanR_keeps _ _ _ None1 _ _ (Below.turn hHeld) none_off hcs2) hYb
          rw [hp] at hc
          refine hc.mono ?_
          rintro e w5 ⟨rfl, hb5⟩
          have hH5 := bthen hHeld hb5
          clear hc hHeld hb5
          go_wp2_with fail
          refine hK.out _ _ (hH5) (fun hHeld => ?_)
          clear hK
          refine wpAnyH_take (i := 9) (oi := ?oo20) (v := ?vv20) ?hi20 (by kernel_rfl) (by kernel_rfl) (by kernel_rfl) ?hQ20 ?hy20 (by assumption) ?rest20
          case hi20 => (simp only [List.getElem?_toArray, List.getElem?_cons_zero, List.getElem?_cons_succ]; rfl)
          case hQ20 => exact fun _ _ _ h => h
          case hy20 => exact Or.inl ⟨by rfl, by intro wS hSw; (try dsimp only at hSw); go_simp; try first | (with_reducible rfl) | (simp only [*]; done) | omega⟩
          try simp only [Act.put, List.setIfInBounds_toArray, List.set_cons_zero, List.set_cons_succ]
          refine wpAnyH_done (by kernel_rfl) ?_ _
          go_wp2
          go_roundw
          case rel =>
            refine ⟨k + 1, by omega, by go_num, hide (fun j h h2 hj => ?_), bthen hbl hHeld⟩
            by_cases hjk : j = k
            · subst hjk; rw [unhide HX, unhide HY]; exact hp
            · exact unhide hall j h h2 (by omega)
          case measure => simp [intOf]; omega
    · have hki : ¬ (k : Int) < (l.length : Int) := by omega
      obtain rfl : k = l.length := by omega
      have HF := hide (eqL_all (p := sameSB) (unhide HN) (fun j h1 h2 => unhide hall j h1 h2 h1))
      go_wp2
      go_ret
      exact ⟨ret_bool (unhide HF).symm, hbl⟩
end Go.Proofs.Ytklhljknkcmecaa
