/-
  Contracts of VerdictOf, of the program and of the specification.
-/
import Derived.Test.YtjhlammjnggghaaAVerdict
import Derived.Test.YtjhlammjnggghaaAbs2
import Derived.Test.YtjhlammjnggghaaToSt
namespace Go.Proofs.Ytjhlammjnggghaa
open Go.ChangeShapes Go.WideShapes Go.ChangeAt Go.RowKit
set_option linter.unusedVariables false
set_option maxRecDepth 100000

def ofB (tr : Int) (v : VerdictD) : Bool := decide (v.trace = tr)
def noV : VerdictD := ⟨0, 0, false⟩
def verdOf (l : List VerdictD) (tr : Int) : VerdictD := (l.find? (ofB tr)).getD noV
def verdIs (l : List VerdictD) (tr : Int) : Bool := (l.find? (ofB tr)).isSome
theorem find_at {α : Type} {p : α → Bool} {l : List α} {k : Nat} (hk : k < l.length) (hno : ∀ j (h : j < l.length), j < k → p l[j] = false) (h : p l[k] = true) : l.find? p = some l[k] := by
  rw [List.find?_eq_some_iff_getElem]
  exact ⟨h, k, hk, rfl, fun j hj => by rw [hno j (by omega) hj]; rfl⟩
theorem find_none {α : Type} {p : α → Bool} {l : List α} (hno : ∀ j (h : j < l.length), j < l.length → p l[j] = false) : l.find? p = none := by
  rw [List.find?_eq_none]
  intro x hx
  obtain ⟨j, hj, rfl⟩ := List.mem_iff_getElem.1 hx
  rw [hno j hj hj]
  simp
theorem find_idx {α : Type} {p : α → Bool} {l : List α} (h : idxv p l < 0) : l.find? p = none := by
  unfold idxv at h
  cases e : l.findIdx? p with
  | none =>
    rw [List.findIdx?_eq_none_iff] at e
    rw [List.find?_eq_none]
    intro x hx
    rw [e x hx]
    simp
  | some i => rw [e] at h; simp at h; omega
theorem idx_find {α : Type} {p : α → Bool} {l : List α} (h : ¬ idxv p l < 0) : ∃ (k : Nat) (hk : k < l.length), idxv p l = k ∧ l.find? p = some l[k] := by
  unfold idxv at *
  cases e : l.findIdx? p with
  | none => rw [e] at h; simp at h
  | some i =>
    obtain ⟨hi, h1, h2⟩ := List.findIdx?_eq_some_iff_getElem.1 e
    refine ⟨i, hi, rfl, find_at hi (fun j h hj => ?_) h1⟩
    have := h2 j hj
    simpa using this
set_option maxHeartbeats 2000000 in
theorem specVerdictOf (l : List VerdictD) (tr : Int) (S0 : Nat → Prop) (v0 : Value) (w : World) (h0 : LAt 3 verdictR w S0 v0 l) (b0 : bulkL verdictBulk l ≤ 1048576) :
    Calls Try.prog 40 #[v0, .int .i64 tr] w fun e w' => e = .returned (.tuple #[.agg #[.int .i64 (verdOf l tr).trace, .int .i64 (verdOf l tr).stamp, .bool (verdOf l tr).keep], .bool (verdIs l tr)]) ∧ Below w.heap.size w w' := by
  obtain ⟨a, cap, rfl⟩ := h0.form
  have hl := h0.len
  have HA := hide h0
  clear h0
  have hb0 := bnew w (.cells #[.int .i64 0, .int .i64 0, .bool false] 59)
  have P0 := Held.new w [.int .i64 0, .int .i64 0, .bool false] 59
  have Q0 := WrAt.new w #[.int .i64 0, .int .i64 0, .bool false] 59 3 rfl
  go_enter Try.func40, Try.ntmps40
  go_upto_region 1 with fail
  generalize World.alloc w _ = w0 at *
  go_wp2
  go_loopw [6] (fun i wk => ∃ k : Nat, k ≤ l.length ∧ i = .int .i64 k ∧ Hid (∀ j (h : j < l.length), j < k → ofB tr l[j] = false) ∧ Below w0.heap.size w0 wk) (fun i _ => l.length - (intOf i).toNat)
  case atStart => exact ⟨0, Nat.zero_le _, rfl, hide (fun j h hj => absurd hj (Nat.not_lt_zero _)), Below.refl _ _⟩
  case round =>
    obtain ⟨k, hk, rfl, hno, hbl⟩ := hrel
    have hbb := bthen hb0 hbl
    have P1 := P0.keep hbl
    have Q1 := Q0.keep hbl
    have p0 := P1.2 0 _ rfl
    have p1 := P1.2 1 _ rfl
    have p2 := P1.2 2 _ rfl
    have f0 := Q1.free 0 (by omega)
    have f1 := Q1.free 1 (by omega)
    have f2 := Q1.free 2 (by omega)
    simp only [Nat.zero_add, Nat.add_zero] at f0 f1 f2
    by_cases hlt : k < l.length
    · have hki : (k : Int) < (l.length : Int) := by omega
      obtain ⟨b, o, cs, rfl, hbk, hSb, hcs, hin⟩ := (unhide HA).at k hlt
      have hin := hin.turn hbk (Below.turn hbb) (fun e => e)
      have hne : b ≠ w.heap.size := by omega
      generalize hX : l[k] = X at *
      have HX := hide hX
      clear hX
      obtain rfl : cs = _ := hcs
      have c0 : wr.cell? ⟨b, o + k * 3, none⟩ = some (.int .i64 X.trace) := hin 0 _ rfl
      have c1 : wr.cell? ⟨b, o + k * 3 + 1, none⟩ = some (.int .i64 X.stamp) := hin 1 _ rfl
      have c2 : wr.cell? ⟨b, o + k * 3 + 2, none⟩ = some (.bool X.keep) := hin 2 _ rfl
      clear hin
      by_cases e : X.trace = tr
      · have q : (X.trace == tr) = true := by simpa using e
        have HF := hide (find_at (p := ofB tr) hlt (unhide hno) (by rw [unhide HX]; exact decide_eq_true e))
        clear e
        go_wp2
        refine bodyPost_ret (v := .tuple #[.agg #[.int .i64 X.trace, .int .i64 X.stamp, .bool X.keep], .bool true]) (by simp [results, Try.results40, go_sem, *]) rfl ⟨?_, ?_⟩
        · have hf := unhide HF
          rw [unhide HX] at hf
          rw [verdOf, verdIs, hf]; rfl
        · have hs := hb0.size
          exact ((hbb.setCell (Nat.le_refl _) _).setCell (Nat.le_refl _) _).setCell (Nat.le_refl _) _
      · have q : (X.trace == tr) = false := by simpa using e
        go_wp2
        go_roundw
        case rel =>
          refine ⟨k + 1, by omega, by go_num, hide (fun j h hj => ?_), hbl⟩
          by_cases hjk : j = k
          · subst hjk; rw [unhide HX]; exact decide_eq_false e
          · exact unhide hno j h (by omega)
        case measure => simp [intOf]; omega
    · have hki : ¬ (k : Int) < (l.length : Int) := by omega
      obtain rfl : k = l.length := by omega
      have HF := hide (find_none (p := ofB tr) (unhide hno))
      go_wp2
      refine bodyPost_ret (v := .tuple #[.agg #[.int .i64 0, .int .i64 0, .bool false], .bool false]) (by simp [results, Try.results40, go_sem, *]) rfl ⟨?_, ?_⟩
      · rw [verdOf, verdIs, unhide HF]; rfl
      · exact ((hbb.setCell (Nat.le_refl _) _).setCell (Nat.le_refl _) _).setCell (Nat.le_refl _) _
theorem hmfV : ∀ (fn : Fn) (first cap : Array Value) (w : World), (Instr.makeFunc fn first cap).run Try.prog w = .ok (.func fn first cap) w := fun _ _ _ _ => rfl
theorem implVerd1 (v : VerdictD) (tr : Int) (S : Nat → Prop) (cs : List Value) (bp : Nat) (w : World) (h0 : verdictR w S cs v) (hp : w.cell? ⟨bp, 0, none⟩ = some (.int .i64 tr)) (hbp : bp < w.heap.size) :
    Calls Try.prog 129 #[.agg cs.toArray, .pointer (some ⟨bp, 0, none⟩)] w fun e w' => e = .returned (.bool (ofB tr v)) ∧ Below w.heap.size w w' := by
  obtain rfl : cs = _ := h0
  go_enter Try.func129, Try.ntmps129
  go_wp2
  go_ret
  exact ⟨ret_bool (by by_cases h : v.trace = tr <;> simp [ofB, h]), by (repeat (first | with_reducible assumption | with_reducible exact Below.refl _ _ | with_reducible refine Below.drew ?_ | with_reducible refine bdrewN ?_ _ | (with_reducible refine Below.alloc ?_ ?side _; case side => (first | omega | (simp [go_sem]; done) | (simp [go_sem]; omega))) | (with_reducible refine Below.setCell ?_ ?side _; case side => (first | omega | (simp [go_sem]; done) | (simp [go_sem]; omega)))))⟩
set_option maxHeartbeats 2000000 in
theorem implIdxVerd (l : List VerdictD) (S0 : Nat → Prop) (v0 : Value) (w : World) (h0 : LAt 3 verdictR w S0 v0 l) (b0 : bulkL verdictBulk l ≤ 1048576) (tr : Int) (bp : Nat) (hp : w.cell? ⟨bp, 0, none⟩ = some (.int .i64 tr)) (hbp : bp < w.heap.size) :
    Calls Try.prog 128 #[v0, .func (.func 129) #[] #[.pointer (some ⟨bp, 0, none⟩)]] w fun e w' => e = .returned (.int .i64 (idxv (ofB tr) l)) ∧ Below w.heap.size w w' := by
  obtain ⟨a, cap, rfl⟩ := h0.form
  have hl := h0.len
  have HA := hide h0
  clear h0
  go_enter Try.func128, Try.ntmps128
  go_wp2
  go_loopw [8] (fun i wk => ∃ k : Nat, k ≤ l.length ∧ i = .int .i64 k ∧ Hid (∀ j (h : j < l.length), j < k → (ofB tr) l[j] = false) ∧ Below w.heap.size w wk) (fun i _ => l.length - (intOf i).toNat)
  case atStart => exact ⟨0, Nat.zero_le _, rfl, hide (fun j h hj => absurd hj (Nat.not_lt_zero _)), Below.refl _ _⟩
  case round =>
    obtain ⟨k, hk, rfl, hno, hbl⟩ := hrel
    have hbs := hbl.size
    by_cases hlt : k < l.length
    · have hki : (k : Int) < (l.length : Int) := by omega
      obtain ⟨b, o, cs, rfl, hbk, hSb, hcs, hin⟩ := (unhide HA).at k hlt
      have hcs := verdictR_keeps _ _ S0 None1 cs _ (Below.turn hbl) none_off hcs
      have hin := hin.turn hbk (Below.turn hbl) (fun e => e)
      have hXb : verdictBulk l[k] ≤ 1048576 := by have := bulkL_mem verdictBulk (List.getElem_mem hlt); omega
      have hpk : wr.cell? ⟨bp, 0, none⟩ = some (.int .i64 tr) := by rw [hbl.cell hbp]; exact hp
      have hrw : RowT Try.prog 59 cs.length := by rw [verdictR_len hcs]; exact rowIVerdict
      generalize hX : l[k] = X at *
      have HX := hide hX
      clear hX
      go_wp2_with (first | (refine wpl_load rfl 59 _ rfl _ _ rfl cs hin hrw ?_))
      have hc := implVerd1 X tr S0 cs bp _ hcs hpk (Nat.lt_of_lt_of_le hbp hbs)
      cases hp : (ofB tr) X
      · rw [hp] at hc
        refine hc.mono ?_
        rintro e w2 ⟨rfl, hb2⟩
        clear hc
        go_wp2
        go_roundw
        case rel =>
          refine ⟨k + 1, by omega, by go_num, hide (fun j h hj => ?_), bthen hbl hb2⟩
          by_cases hjk : j = k
          · subst hjk; rw [unhide HX]; exact hp
          · exact unhide hno j h (by omega)
        case measure => simp [intOf]; omega
      · rw [hp] at hc
        refine hc.mono ?_
        rintro e w2 ⟨rfl, hb2⟩
        clear hc
        have HF := hide (idxv_hit (p := ofB tr) hlt (unhide hno) (by rw [unhide HX]; exact hp))
        go_wp2
        go_ret
        exact ⟨by rw [unhide HF]; rfl, bthen hbl hb2⟩
    · have hki : ¬ (k : Int) < (l.length : Int) := by omega
      obtain rfl : k = l.length := by omega
      go_wp2
      go_ret
      exact ⟨by rw [idxv_miss (unhide hno)]; rfl, hbl⟩
set_option maxHeartbeats 2000000 in
theorem implVerdictOf (l : List VerdictD) (tr : Int) (S0 : Nat → Prop) (v0 : Value) (w : World) (h0 : LAt 3 verdictR w S0 v0 l) (b0 : bulkL verdictBulk l ≤ 1048576) :
    Calls Try.prog 39 #[v0, .int .i64 tr] w fun e w' => e = .returned (.tuple #[.agg #[.int .i64 (verdOf l tr).trace, .int .i64 (verdOf l tr).stamp, .bool (verdOf l tr).keep], .bool (verdIs l tr)]) ∧ Below w.heap.size w w' := by
  obtain ⟨a, cap, rfl⟩ := h0.form
  have hl := h0.len
  have hmf := hmfV
  have HA := hide h0
  clear h0
  have hb0 := bthen (bnew w (.cells #[.int .i64 tr] 3)) (bnew _ (.cells #[.int .i64 0, .int .i64 0, .bool false] 59))
  have P0 := Held.new (w.alloc (.cells #[.int .i64 tr] 3)) [.int .i64 0, .int .i64 0, .bool false] 59
  have Q0 := WrAt.new (w.alloc (.cells #[.int .i64 tr] 3)) #[.int .i64 0, .int .i64 0, .bool false] 59 3 rfl
  have R0 := (Held.new w [.int .i64 tr] 3).keep (bnew _ (.cells #[.int .i64 0, .int .i64 0, .bool false] 59))
  rw [show (w.alloc (.cells #[.int .i64 tr] 3)).heap.size = w.heap.size + 1 by simp] at P0 Q0
  go_enter Try.func39, Try.ntmps39
  go_upto_region 1 with fail
  generalize World.alloc (World.alloc w _) _ = w0 at *
  go_wp2_with fail
  refine (implIdxVerd l S0 _ _ ((unhide HA).keep verdictR_keeps hb0) b0 tr w.heap.size (R0.2 0 _ rfl) R0.1).mono ?_
  rintro e w1 ⟨rfl, hb1⟩
  have hbb := bthen hb0 hb1
  have P1 := P0.keep hb1
  have Q1 := Q0.keep hb1
  have p0 := P1.2 0 _ rfl
  have p1 := P1.2 1 _ rfl
  have p2 := P1.2 2 _ rfl
  have f0 := Q1.free 0 (by omega)
  have f1 := Q1.free 1 (by omega)
  have f2 := Q1.free 2 (by omega)
  simp only [Nat.zero_add, Nat.add_zero] at f0 f1 f2
  by_cases hneg : idxv (ofB tr) l < 0
  · have HF := hide (find_idx hneg)
    go_wp2
    refine bodyPost_ret (v := .tuple #[.agg #[.int .i64 0, .int .i64 0, .bool false], .bool false]) (by simp [results, Try.results39, go_sem, *]) rfl ⟨?_, ?_⟩
    · rw [verdOf, verdIs, unhide HF]; rfl
    · exact ((hbb.setCell (Nat.le_succ _) _).setCell (Nat.le_succ _) _).setCell (Nat.le_succ _) _
  · obtain ⟨k, hk, hik, hf⟩ := idx_find hneg
    have HF := hide hf
    obtain ⟨b, o, cs, rfl, hbk, hSb, hcs, hin⟩ := (unhide HA).at k hk
    have hin := hin.turn hbk (Below.turn hbb) (fun e => e)
    have hne : b ≠ w.heap.size + 1 := by omega
    clear hf
    generalize hX : l[k] = X at *
    clear hX
    obtain rfl : cs = _ := hcs
    have c0 : w1.cell? ⟨b, o + k * 3, none⟩ = some (.int .i64 X.trace) := hin 0 _ rfl
    have c1 : w1.cell? ⟨b, o + k * 3 + 1, none⟩ = some (.int .i64 X.stamp) := hin 1 _ rfl
    have c2 : w1.cell? ⟨b, o + k * 3 + 2, none⟩ = some (.bool X.keep) := hin 2 _ rfl
    have hki : (k : Int) < (l.length : Int) := by omega
    rw [hik]
    clear hin hik hneg
    go_wp2
    refine bodyPost_ret (v := .tuple #[.agg #[.int .i64 X.trace, .int .i64 X.stamp, .bool X.keep], .bool true]) (by simp [results, Try.results39, go_sem, *]) rfl ⟨?_, ?_⟩
    · rw [verdOf, verdIs, unhide HF]; rfl
    · exact ((hbb.setCell (Nat.le_succ _) _).setCell (Nat.le_succ _) _).setCell (Nat.le_succ _) _
end Go.Proofs.Ytjhlammjnggghaa
