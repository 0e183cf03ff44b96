/-
  Contracts of TotalOf, Errors and Longest, of the program and of the specification.
-/
import Derived.Test.YtjhlammjnggghaaSpans
import Derived.Test.YtjhlammjnggghaaSizeOf
namespace Go.Proofs.Ytjhlammjnggghaa
open Go.ChangeShapes Go.WideShapes Go.ChangeAt Go.RowKit
set_option linter.unusedVariables false
set_option maxRecDepth 100000

def sizeS (x : SpanD) : Int := 12 + sumA x.2.2.2.2.2
def totS (l : List SpanD) : Int := (l.map sizeS).sum
def errS (l : List SpanD) : Int := (l.map fun x => if x.2.2.2.2.1 then (1 : Int) else 0).sum
def longS (l : List SpanD) : Int := l.foldl (fun n x => if n < subv x.2.2.2.1 x.2.2.1 then subv x.2.2.2.1 x.2.2.1 else n) 0
theorem totS_snoc (l : List SpanD) (k : Nat) (h : k < l.length) : totS (l.take (k + 1)) = totS (l.take k) + sizeS (l.getD k dS) := by
  unfold totS
  rw [List.take_succ_eq_append_getElem h, List.map_append, List.sum_append]
  simp [List.getD, h]
theorem errS_snoc (l : List SpanD) (k : Nat) (h : k < l.length) : errS (l.take (k + 1)) = errS (l.take k) + (if (l.getD k dS).2.2.2.2.1 then (1 : Int) else 0) := by
  unfold errS
  rw [List.take_succ_eq_append_getElem h, List.map_append, List.sum_append]
  simp [List.getD, h]
theorem longS_snoc (l : List SpanD) (k : Nat) (h : k < l.length) : longS (l.take (k + 1)) = if longS (l.take k) < subv (l.getD k dS).2.2.2.1 (l.getD k dS).2.2.1 then subv (l.getD k dS).2.2.2.1 (l.getD k dS).2.2.1 else longS (l.take k) := by
  unfold longS
  rw [List.take_succ_eq_append_getElem h, List.foldl_append]
  simp [List.getD, h]
theorem totS_lo (l : List SpanD) : 0 ≤ totS l := by
  unfold totS
  induction l with
  | nil => simp
  | cons x r ih => have := sumA_lo x.2.2.2.2.2; simp only [List.map_cons, List.sum_cons, sizeS]; omega
theorem totS_hi (l : List SpanD) : totS l ≤ 12 * l.length + 4 * bulkS l := by
  unfold totS bulkS
  induction l with
  | nil => simp
  | cons x r ih => have := sumA_hi x.2.2.2.2.2; simp only [List.map_cons, List.sum_cons, List.length_cons, sizeS]; omega
theorem errS_in (l : List SpanD) : 0 ≤ errS l ∧ errS l ≤ l.length := by
  unfold errS
  induction l with
  | nil => simp
  | cons x r ih => simp only [List.map_cons, List.sum_cons, List.length_cons]; split <;> omega
theorem bulkS_take (l : List SpanD) (k : Nat) : bulkS (l.take k) ≤ bulkS l := by
  unfold bulkS
  conv => rhs; rw [← List.take_append_drop k l]
  rw [List.map_append, List.sum_append]
  omega

set_option maxHeartbeats 2000000 in
theorem specErrors (l : List SpanD) (v : Value) (w : World) (ha : SpansAt w v l) (h1 : l.length ≤ 1048576) (h2 : bulkS l ≤ 1048576) :
    Calls Try.prog 161 #[v] w fun e w' => e = .returned (.int .i64 (errS l)) ∧ Below w.heap.size w w' := by
    obtain ⟨a, cap, rfl⟩ := ha.form
    have hl := ha.len
    have HA := hide ha
    clear ha
    go_enter Try.func161, Try.ntmps161
    go_wp2
    go_loopw [3, 4] (fun n i wk => ∃ k : Nat, k ≤ l.length ∧ i = .int .i64 k ∧ n = .int .i64 (errS (l.take k)) ∧ Below w.heap.size w wk) (fun _ i _ => l.length - (intOf i).toNat)
    case atStart => exact ⟨0, Nat.zero_le _, rfl, rfl, Below.refl _ _⟩
    case round =>
      obtain ⟨k, hk, rfl, rfl, hbl⟩ := hrel
      have hbs := hbl.size
      have s0 := errS_in (l.take k)
      rw [List.length_take] at s0
      by_cases hlt : k < l.length
      case pos =>
        obtain ⟨b, o, rfl, hbk, hx⟩ := (unhide HA).at k hlt
        have hsn := errS_snoc l k hlt
        have hbulk := bulkS_mem (getD_mem l dS k hlt)
        have hx' := hx.keep hbk hbl
        clear hx
        generalize l.getD k dS = x at *
        obtain ⟨tr, id, st, en, er, at'⟩ := x
        obtain ⟨sl, c0, c1, c2, c3, c4, c5, hat⟩ := hx'
        simp only at c0 c1 c2 c3 c4 c5 hat hbulk hsn
        obtain ⟨asl, acap, rfl⟩ := hat.form
        have hki : (k : Int) < (l.length : Int) := by omega
        have HT := hide hat
        clear hat
        generalize errS (l.take k) = S at *
        cases er
        case false =>
          simp only [Bool.false_eq_true, if_false] at hsn
          have HS := hide hsn
          clear hsn
          go_wp2
          go_roundw
          case rel => exact ⟨k + 1, by omega, by go_num, by rw [unhide HS, Int.add_zero], by (repeat (first | with_reducible assumption | with_reducible exact Below.refl _ _ | with_reducible refine Below.drew ?_ | with_reducible refine bdrewN ?_ _ | (with_reducible refine Below.alloc ?_ ?side _; case side => (first | omega | (simp [go_sem]; done) | (simp [go_sem]; omega))) | (with_reducible refine Below.setCell ?_ ?side _; case side => (first | omega | (simp [go_sem]; done) | (simp [go_sem]; omega)))))⟩
          case measure => simp [intOf]; omega
        case true =>
          simp only [if_true] at hsn
          have HS := hide hsn
          clear hsn
          go_wp2
          go_roundw
          case rel => exact ⟨k + 1, by omega, by go_num, by rw [unhide HS], by (repeat (first | with_reducible assumption | with_reducible exact Below.refl _ _ | with_reducible refine Below.drew ?_ | with_reducible refine bdrewN ?_ _ | (with_reducible refine Below.alloc ?_ ?side _; case side => (first | omega | (simp [go_sem]; done) | (simp [go_sem]; omega))) | (with_reducible refine Below.setCell ?_ ?side _; case side => (first | omega | (simp [go_sem]; done) | (simp [go_sem]; omega)))))⟩
          case measure => simp [intOf]; omega
      case neg =>
        have hki : ¬ (k : Int) < (l.length : Int) := by omega
        have e : l.take k = l := List.take_of_length_le (by omega)
        rw [e]
        go_wp2
        go_ret
        exact ⟨rfl, hbl⟩
set_option maxHeartbeats 2000000 in
theorem specLongest (l : List SpanD) (v : Value) (w : World) (ha : SpansAt w v l) (h1 : l.length ≤ 1048576) (h2 : bulkS l ≤ 1048576) :
    Calls Try.prog 162 #[v] w fun e w' => e = .returned (.int .i64 (longS l)) ∧ Below w.heap.size w w' := by
    obtain ⟨a, cap, rfl⟩ := ha.form
    have hl := ha.len
    have HA := hide ha
    clear ha
    go_enter Try.func162, Try.ntmps162
    go_wp2
    go_loopw [3, 4] (fun n i wk => ∃ k : Nat, k ≤ l.length ∧ i = .int .i64 k ∧ n = .int .i64 (longS (l.take k)) ∧ Below w.heap.size w wk) (fun _ i _ => l.length - (intOf i).toNat)
    case atStart => exact ⟨0, Nat.zero_le _, rfl, rfl, Below.refl _ _⟩
    case round =>
      obtain ⟨k, hk, rfl, rfl, hbl⟩ := hrel
      have hbs := hbl.size
      by_cases hlt : k < l.length
      case pos =>
        obtain ⟨b, o, rfl, hbk, hx⟩ := (unhide HA).at k hlt
        have hsn := longS_snoc l k hlt
        have hbulk := bulkS_mem (getD_mem l dS k hlt)
        have hx' := hx.keep hbk hbl
        clear hx
        generalize l.getD k dS = x at *
        obtain ⟨tr, id, st, en, er, at'⟩ := x
        obtain ⟨sl, c0, c1, c2, c3, c4, c5, hat⟩ := hx'
        simp only at c0 c1 c2 c3 c4 c5 hat hbulk hsn
        obtain ⟨asl, acap, rfl⟩ := hat.form
        have hki : (k : Int) < (l.length : Int) := by omega
        have HT := hide hat
        clear hat
        generalize longS (l.take k) = S at *
        by_cases hgt : S < subv en st
        case pos =>
          rw [if_pos hgt] at hsn
          have HS := hide hsn
          clear hsn
          go_wp2_with fail
          refine (specLengthOf tr id st en er _ ⟨_, _, _, rfl⟩ _).mono ?_
          rintro e w2 ⟨rfl, hb2⟩
          rw [← hb2.cell (Nat.lt_of_lt_of_le hbk hbs)] at c0 c1 c2 c3 c4 c5
          go_wp2_with fail
          refine (specLengthOf tr id st en er _ ⟨_, _, _, rfl⟩ _).mono ?_
          rintro e w3 ⟨rfl, hb3⟩
          go_wp2
          go_roundw
          case rel => exact ⟨k + 1, by omega, by go_num, by rw [unhide HS], bthen hbl (bthen hb2 hb3)⟩
          case measure => simp [intOf]; omega
        case neg =>
          rw [if_neg hgt] at hsn
          have HS := hide hsn
          clear hsn
          go_wp2_with fail
          refine (specLengthOf tr id st en er _ ⟨_, _, _, rfl⟩ _).mono ?_
          rintro e w2 ⟨rfl, hb2⟩
          go_wp2
          go_roundw
          case rel => exact ⟨k + 1, by omega, by go_num, by rw [unhide HS], bthen hbl hb2⟩
          case measure => simp [intOf]; omega
      case neg =>
        have hki : ¬ (k : Int) < (l.length : Int) := by omega
        have e : l.take k = l := List.take_of_length_le (by omega)
        rw [e]
        go_wp2
        go_ret
        exact ⟨rfl, hbl⟩
end Go.Proofs.Ytjhlammjnggghaa
