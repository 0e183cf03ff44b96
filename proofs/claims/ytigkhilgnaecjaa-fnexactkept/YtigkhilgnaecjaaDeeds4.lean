/-
  Kept of the program and of the specification.
-/
import Derived.Test.YtigkhilgnaecjaaDeeds1
import Derived.Shelf.Abstract
namespace Go.Proofs.Ytigkhilgnaecjaa
open Go.ChangeShapes Go.WideShapes Go.ChangeAt Go.RowKit
set_option linter.unusedVariables false
set_option maxRecDepth 100000

theorem hmfK : ∀ (fn : Fn) (first cap : Array Value) (w : World), (Instr.makeFunc fn first cap).run Try.prog w = .ok (.func fn first cap) w := fun _ _ _ _ => rfl
theorem boxedK (w : World) (v : Value) (t : TypeId) : (w.alloc (.cells #[v] t)).cell? ⟨w.heap.size, 0, none⟩ = some v := by simp [go_sem]
set_option maxHeartbeats 2000000 in
theorem implKept1 (x : DeedD) (st : Int) (S0 : Nat → Prop) (c0 : List Value) (bp : Nat) (w : World) (h0 : deedR w S0 c0 x) (b0 : deedBulk x ≤ 1048576) (hc : w.cell? ⟨bp, 0, none⟩ = some (.int .i64 st)) (hbp : bp < w.heap.size) :
    Calls Try.prog 34 #[.agg c0.toArray, .pointer (some ⟨bp, 0, none⟩)] w fun e w' => e = .returned (.bool (keptB st x)) ∧ Below w.heap.size w w' := by
  have P0 := Held.new w c0 56
  have B0 := bnew w (.cells c0.toArray 56)
  have r0 : RowT Try.prog 56 c0.length := by rw [deedR_len h0]; exact rowIDeed
  have HR := hide h0
  clear h0
  have c1 := B0.cell (p := ⟨bp, 0, none⟩) hbp
  have hbp0 := Nat.lt_of_lt_of_le hbp B0.size
  rw [hc] at c1
  clear hc
  go_enter Try.func34, Try.ntmps34
  go_upto_region 1 with fail
  generalize World.alloc w _ = w0 at *
  go_wp2_with (first | (refine wpl_load rfl 56 _ rfl _ 0 rfl c0 P0.inB r0 ?_))
  have hq := implJudged x S0 c0 _ (deedR_keeps _ _ _ None1 _ _ (Below.turn B0) none_off (unhide HR)) b0
  cases hp : judB x
  · have HF := hide (show keptB st x = false by simp [keptB, hp])
    rw [hp] at hq
    refine hq.mono ?_
    rintro e w1 ⟨rfl, hb1⟩
    clear hq
    go_wp2
    go_ret
    exact ⟨ret_bool (unhide HF).symm, bthen B0 hb1⟩
  · rw [hp] at hq
    refine hq.mono ?_
    rintro e w1 ⟨rfl, hb1⟩
    clear hq
    have p11 := (P0.keep hb1).2 11 _ (deedR_c11 (unhide HR))
    have p9 := (P0.keep hb1).2 9 _ (deedR_c9 (unhide HR))
    have c2 := hb1.cell (p := ⟨bp, 0, none⟩) hbp0
    rw [c1] at c2
    cases hk : x.keep
    · have HF := hide (show keptB st x = false by simp [keptB, hk])
      rw [hk] at p11
      go_wp2
      go_ret
      exact ⟨ret_bool (unhide HF).symm, bthen B0 hb1⟩
    · rw [hk] at p11
      by_cases e : x.stamp = st
      · have q : (x.stamp == st) = true := by simpa using e
        have HF := hide (show keptB st x = true by simp [keptB, hk, hp, e])
        clear e
        go_wp2
        go_ret
        exact ⟨ret_bool (unhide HF).symm, bthen B0 hb1⟩
      · have q : (x.stamp == st) = false := by simpa using e
        have HF := hide (show keptB st x = false by simp [keptB, e])
        clear e
        go_wp2
        go_ret
        exact ⟨ret_bool (unhide HF).symm, bthen B0 hb1⟩
set_option maxHeartbeats 2000000 in
theorem implIdxKept (l : List DeedD) (S0 : Nat → Prop) (v0 : Value) (w : World) (h0 : LAt 20 deedR w S0 v0 l) (b0 : bulkL deedBulk l ≤ 1048576) (st : Int) (bp : Nat) (hp : w.cell? ⟨bp, 0, none⟩ = some (.int .i64 st)) (hbp : bp < w.heap.size) :
    Calls Try.prog 52 #[v0, .func (.func 34) #[] #[.pointer (some ⟨bp, 0, none⟩)]] w fun e w' => e = .returned (.int .i64 (idxv (keptB st) l)) ∧ Below w.heap.size w w' := by
  obtain ⟨a, cap, rfl⟩ := h0.form
  have hl := h0.len
  have HA := hide h0
  clear h0
  go_enter Try.func52, Try.ntmps52
  go_wp2
  go_loopw [8] (fun i wk => ∃ k : Nat, k ≤ l.length ∧ i = .int .i64 k ∧ Hid (∀ j (h : j < l.length), j < k → (keptB st) l[j] = false) ∧ Below w.heap.size w wk) (fun i _ => l.length - (intOf i).toNat)
  case atStart => exact ⟨0, Nat.zero_le _, rfl, hide (fun j h hj => absurd hj (Nat.not_lt_zero _)), Below.refl _ _⟩
  case round =>
    obtain ⟨k, hk, rfl, hno, hbl⟩ := hrel
    have hbs := hbl.size
    by_cases hlt : k < l.length
    · have hki : (k : Int) < (l.length : Int) := by omega
      obtain ⟨b, o, cs, rfl, hbk, hSb, hcs, hin⟩ := (unhide HA).at k hlt
      have hcs := deedR_keeps _ _ S0 None1 cs _ (Below.turn hbl) none_off hcs
      have hin := hin.turn hbk (Below.turn hbl) (fun e => e)
      have hXb : deedBulk l[k] ≤ 1048576 := by have := bulkL_mem deedBulk (List.getElem_mem hlt); omega
      have hpk : wr.cell? ⟨bp, 0, none⟩ = some (.int .i64 st) := by rw [hbl.cell (p := ⟨bp, 0, none⟩) hbp]; exact hp
      have hrw : RowT Try.prog 56 cs.length := by rw [deedR_len hcs]; exact rowIDeed
      generalize hX : l[k] = X at *
      have HX := hide hX
      clear hX
      go_wp2_with (first | (refine wpl_load rfl 56 _ rfl _ _ rfl cs hin hrw ?_))
      have hc := implKept1 X st S0 cs bp _ hcs hXb hpk (Nat.lt_of_lt_of_le hbp hbs)
      cases hp : (keptB st) X
      · rw [hp] at hc
        refine hc.mono ?_
        rintro e w2 ⟨rfl, hb2⟩
        clear hc
        go_wp2
        go_roundw
        case rel =>
          refine ⟨k + 1, by omega, by go_num, hide (fun j h hj => ?_), bthen hbl hb2⟩
          by_cases hjk : j = k
          · subst hjk; rw [unhide HX]; exact hp
          · exact unhide hno j h (by omega)
        case measure => simp [intOf]; omega
      · rw [hp] at hc
        refine hc.mono ?_
        rintro e w2 ⟨rfl, hb2⟩
        clear hc
        have HF := hide (idxv_hit (p := keptB st) hlt (unhide hno) (by rw [unhide HX]; exact hp))
        go_wp2
        go_ret
        exact ⟨by rw [unhide HF]; rfl, bthen hbl hb2⟩
    · have hki : ¬ (k : Int) < (l.length : Int) := by omega
      obtain rfl : k = l.length := by omega
      go_wp2
      go_ret
      exact ⟨by rw [idxv_miss (unhide hno)]; rfl, hbl⟩
theorem implHasKept (l : List DeedD) (S0 : Nat → Prop) (v0 : Value) (w : World) (h0 : LAt 20 deedR w S0 v0 l) (b0 : bulkL deedBulk l ≤ 1048576) (st : Int) (bp : Nat) (hp : w.cell? ⟨bp, 0, none⟩ = some (.int .i64 st)) (hbp : bp < w.heap.size) :
    Calls Try.prog 33 #[v0, .func (.func 34) #[] #[.pointer (some ⟨bp, 0, none⟩)]] w fun e w' => e = .returned (.bool (l.any (keptB st))) ∧ Below w.heap.size w w' := by
  obtain ⟨a, cap, rfl⟩ := h0.form
  go_enter Try.func33, Try.ntmps33
  go_wp2_with fail
  refine (implIdxKept l S0 _ _ h0 b0 st bp hp hbp).mono ?_
  rintro e w1 ⟨rfl, hb1⟩
  go_wp2
  go_ret
  exact ⟨ret_bool (by rw [← idxv_any]), hb1⟩
set_option maxHeartbeats 2000000 in
theorem implKept (l : List DeedD) (st : Int) (S0 : Nat → Prop) (v0 : Value) (w : World) (h0 : LAt 20 deedR w S0 v0 l) (b0 : bulkL deedBulk l ≤ 1048576) :
    Calls Try.prog 13 #[v0, .int .i64 st] w fun e w' => e = .returned (.bool (l.any (keptB st))) ∧ Below w.heap.size w w' := by
  obtain ⟨a, cap, rfl⟩ := h0.form
  have hmf := hmfK
  have hb := bnew w (.cells #[.int .i64 st] 3)
  have hbx := boxedK w (.int .i64 st) 3
  have HA := hide h0
  clear h0
  go_enter Try.func13, Try.ntmps13
  go_upto_region 1 with fail
  generalize hW : World.alloc w _ = wa at *
  have HSZ := hide (show w.heap.size < wa.heap.size by rw [← hW]; simp)
  clear hW
  go_wp2_with fail
  refine (implHasKept l S0 _ wa ((unhide HA).keep deedR_keeps hb) b0 st w.heap.size hbx (unhide HSZ)).mono ?_
  rintro e w1 ⟨rfl, hb1⟩
  clear hmf
  go_wp2
  go_ret
  exact ⟨rfl, bthen hb hb1⟩
theorem any_hit {α : Type} {p : α → Bool} {l : List α} {k : Nat} (h : k < l.length) (hp : p l[k] = true) : l.any p = true := List.any_eq_true.2 ⟨_, List.getElem_mem h, hp⟩
theorem any_miss {α : Type} {p : α → Bool} {l : List α} (h : ∀ j (h : j < l.length), p l[j] = false) : l.any p = false := by
  rw [List.any_eq_false]
  intro x hx
  obtain ⟨j, hj, rfl⟩ := List.mem_iff_getElem.1 hx
  rw [h j hj]; simp
set_option maxHeartbeats 4000000 in
theorem specKept (l : List DeedD) (st : Int) (S0 : Nat → Prop) (v0 : Value) (w : World) (h0 : LAt 20 deedR w S0 v0 l) (b0 : bulkL deedBulk l ≤ 1048576) :
    Calls Try.prog 11 #[v0, .int .i64 st] w fun e w' => e = .returned (.bool (l.any (keptB st))) ∧ Below w.heap.size w w' := by
  obtain ⟨a, cap, rfl⟩ := h0.form
  have hlen := bulkL_len deedBulk l
  have HA := hide h0
  clear h0
  go_enter Try.func11, Try.ntmps11
  go_wp2
  go_loopw [5] (fun i wk => ∃ k : Nat, k ≤ l.length ∧ i = .int .i64 k ∧ Hid (∀ j (h : j < l.length), j < k → keptB st l[j] = false) ∧ Below w.heap.size w wk) (fun i _ => l.length - (intOf i).toNat)
  case atStart => exact ⟨0, Nat.zero_le _, rfl, hide (fun j h hj => absurd hj (Nat.not_lt_zero _)), Below.refl _ _⟩
  case round =>
    obtain ⟨k, hk, rfl, hno, hbl⟩ := hrel
    by_cases hlt : k < l.length
    · have hki : (k : Int) < (l.length : Int) := by omega
      obtain ⟨b, o, cs, rfl, hbk, hSb, hcs, hin⟩ := (unhide HA).at k hlt
      have hin := hin.turn hbk (Below.turn hbl) (fun e => e)
      generalize hX : l[k] = x at *
      have HX := hide hX
      clear hX
      have p0 : World.cell? _ ⟨b, o + k * 20, none⟩ = some (.int .i64 x.op) := hin 0 _ (deedR_c0 hcs)
      have p9 : World.cell? _ ⟨b, o + k * 20 + 9, none⟩ = some (.int .i64 x.stamp) := hin 9 _ (deedR_c9 hcs)
      have p11 : World.cell? _ ⟨b, o + k * 20 + 11, none⟩ = some (.bool x.keep) := hin 11 _ (deedR_c11 hcs)
      have p12 : World.cell? _ ⟨b, o + k * 20 + 12, none⟩ = some (.bool x.void) := hin 12 _ (deedR_c12 hcs)
      have p18 : World.cell? _ ⟨b, o + k * 20 + 18, none⟩ = some (.int .i64 x.lin) := hin 18 _ (deedR_c18 hcs)
      clear hin
      by_cases e : x.op = 2
      case neg =>
        have q : (x.op == 2) = false := by simpa using e
        have HP := hide (show keptB st x = false by simp [keptB, judB, e])
        go_wp2
        go_roundw
        case rel =>
          refine ⟨k + 1, by omega, by go_num, hide (fun j h hj => ?_), hbl⟩
          by_cases hjk : j = k
          · subst hjk; rw [unhide HX]; exact unhide HP
          · exact unhide hno j h (by omega)
        case measure => simp [intOf]; omega
      have q : (x.op == 2) = true := by simpa using e
      by_cases e1 : x.stamp = st
      case neg =>
        have q1 : (x.stamp == st) = false := by simpa using e1
        have HP := hide (show keptB st x = false by simp [keptB, e1])
        go_wp2
        go_roundw
        case rel =>
          refine ⟨k + 1, by omega, by go_num, hide (fun j h hj => ?_), hbl⟩
          by_cases hjk : j = k
          · subst hjk; rw [unhide HX]; exact unhide HP
          · exact unhide hno j h (by omega)
        case measure => simp [intOf]; omega
      have q1 : (x.stamp == st) = true := by simpa using e1
      by_cases e2 : x.lin = -1
      case pos =>
        have q2 : (x.lin != -1) = false := by simpa using e2
        have HP := hide (show keptB st x = false by simp [keptB, judB, tookB, e2])
        go_wp2
        go_roundw
        case rel =>
          refine ⟨k + 1, by omega, by go_num, hide (fun j h hj => ?_), hbl⟩
          by_cases hjk : j = k
          · subst hjk; rw [unhide HX]; exact unhide HP
          · exact unhide hno j h (by omega)
        case measure => simp [intOf]; omega
      have q2 : (x.lin != -1) = true := by simpa using e2
      cases e3 : x.void
      case true =>
        rw [e3] at p12
        have HP := hide (show keptB st x = false by simp [keptB, judB, e3])
        go_wp2
        go_roundw
        case rel =>
          refine ⟨k + 1, by omega, by go_num, hide (fun j h hj => ?_), hbl⟩
          by_cases hjk : j = k
          · subst hjk; rw [unhide HX]; exact unhide HP
          · exact unhide hno j h (by omega)
        case measure => simp [intOf]; omega
      rw [e3] at p12
      cases e4 : x.keep
      case false =>
        rw [e4] at p11
        have HP := hide (show keptB st x = false by simp [keptB, e4])
        go_wp2
        go_roundw
        case rel =>
          refine ⟨k + 1, by omega, by go_num, hide (fun j h hj => ?_), hbl⟩
          by_cases hjk : j = k
          · subst hjk; rw [unhide HX]; exact unhide HP
          · exact unhide hno j h (by omega)
        case measure => simp [intOf]; omega
      rw [e4] at p11
      have HP := hide (show keptB st x = true by simp [keptB, judB, tookB, e, e1, e2, e3, e4])
      clear e e1 e2
      have HF := hide (any_hit (p := keptB st) hlt (by rw [unhide HX]; exact unhide HP))
      go_wp2
      go_ret
      exact ⟨ret_bool (unhide HF).symm, hbl⟩
    · have hki : ¬ (k : Int) < (l.length : Int) := by omega
      obtain rfl : k = l.length := by omega
      have HF := hide (any_miss (p := keptB st) (fun j h => unhide hno j h h))
      go_wp2
      go_ret
      exact ⟨ret_bool (unhide HF).symm, hbl⟩
end Go.Proofs.Ytigkhilgnaecjaa
