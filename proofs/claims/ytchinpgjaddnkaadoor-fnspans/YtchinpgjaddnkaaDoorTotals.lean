/-
  Contracts of TotalOf, Errors and Longest, of the program and of the specification.
-/
import Derived.Test.YtchinpgjaddnkaaDoorSpans
import Derived.Test.YtchinpgjaddnkaaDoorSizeOf
namespace Go.Proofs.YtchinpgjaddnkaaDoor
open Go.ChangeShapes Go.WideShapes Go.ChangeAt Go.RowKit
set_option linter.unusedVariables false
set_option maxRecDepth 100000

def sizeS (x : SpanD) : Int := 12 + sumA x.2.2.2.2.2
def totS (l : List SpanD) : Int := (l.map sizeS).sum
def errS (l : List SpanD) : Int := (l.map fun x => if x.2.2.2.2.1 then (1 : Int) else 0).sum
def longS (l : List SpanD) : Int := l.foldl (fun n x => if n < subv x.2.2.2.1 x.2.2.1 then subv x.2.2.2.1 x.2.2.1 else n) 0
theorem totS_snoc (l : List SpanD) (k : Nat) (h : k < l.length) : totS (l.take (k + 1)) = totS (l.take k) + sizeS (l.getD k dS) := by
  unfold totS
  rw [List.take_succ_eq_append_getElem h, List.map_append, List.sum_append]
  simp [List.getD, h]
theorem errS_snoc (l : List SpanD) (k : Nat) (h : k < l.length) : errS (l.take (k + 1)) = errS (l.take k) + (if (l.getD k dS).2.2.2.2.1 then (1 : Int) else 0) := by
  unfold errS
  rw [List.take_succ_eq_append_getElem h, List.map_append, List.sum_append]
  simp [List.getD, h]
theorem longS_snoc (l : List SpanD) (k : Nat) (h : k < l.length) : longS (l.take (k + 1)) = if longS (l.take k) < subv (l.getD k dS).2.2.2.1 (l.getD k dS).2.2.1 then subv (l.getD k dS).2.2.2.1 (l.getD k dS).2.2.1 else longS (l.take k) := by
  unfold longS
  rw [List.take_succ_eq_append_getElem h, List.foldl_append]
  simp [List.getD, h]
theorem totS_lo (l : List SpanD) : 0 ≤ totS l := by
  unfold totS
  induction l with
  | nil => simp
  | cons x r ih => have := sumA_lo x.2.2.2.2.2; simp only [List.map_cons, List.sum_cons, sizeS]; omega
theorem totS_hi (l : List SpanD) : totS l ≤ 12 * l.length + 4 * bulkS l := by
  unfold totS bulkS
  induction l with
  | nil => simp
  | cons x r ih => have := sumA_hi x.2.2.2.2.2; simp only [List.map_cons, List.sum_cons, List.length_cons, sizeS]; omega
theorem errS_in (l : List SpanD) : 0 ≤ errS l ∧ errS l ≤ l.length := by
  unfold errS
  induction l with
  | nil => simp
  | cons x r ih => simp only [List.map_cons, List.sum_cons, List.length_cons]; split <;> omega
theorem bulkS_take (l : List SpanD) (k : Nat) : bulkS (l.take k) ≤ bulkS l := by
  unfold bulkS
  conv => rhs; rw [← List.take_append_drop k l]
  rw [List.map_append, List.sum_append]
  omega

set_option maxHeartbeats 2000000 in
theorem specTotalOf (l : List SpanD) (v : Value) (w : World) (ha : SpansAt w v l) (h1 : l.length ≤ 1048576) (h2 : bulkS l ≤ 1048576) :
    Calls Tryd.prog 20 #[v] w fun e w' => e = .returned (.int .i64 (totS l)) ∧ Below w.heap.size w w' := by
    obtain ⟨a, cap, rfl⟩ := ha.form
    have hl := ha.len
    have HA := hide ha
    clear ha
    go_enter Tryd.func20, Tryd.ntmps20
    go_wp2
    go_loopw [3, 4] (fun n i wk => ∃ k : Nat, k ≤ l.length ∧ i = .int .i64 k ∧ n = .int .i64 (totS (l.take k)) ∧ Below w.heap.size w wk) (fun _ i _ => l.length - (intOf i).toNat)
    case atStart => exact ⟨0, Nat.zero_le _, rfl, rfl, Below.refl _ _⟩
    case round =>
      obtain ⟨k, hk, rfl, rfl, hbl⟩ := hrel
      have hbs := hbl.size
      have s0 := totS_lo (l.take k)
      have s1 := totS_hi (l.take k)
      have s2 := bulkS_take l k
      rw [List.length_take] at s1
      by_cases hlt : k < l.length
      case pos =>
        obtain ⟨b, o, rfl, hbk, hx⟩ := (unhide HA).at k hlt
        have hsn := totS_snoc l k hlt
        have hbulk := bulkS_mem (getD_mem l dS k hlt)
        have hx' := hx.keep hbk hbl
        clear hx
        generalize l.getD k dS = x at *
        obtain ⟨tr, id, st, en, er, at'⟩ := x
        obtain ⟨sl, c0, c1, c2, c3, c4, c5, hat⟩ := hx'
        simp only at c0 c1 c2 c3 c4 c5 hat hbulk hsn
        obtain ⟨asl, acap, rfl⟩ := hat.form
        have hki : (k : Int) < (l.length : Int) := by omega
        have HT := hide hat
        clear hat
        have s3 := sumA_lo at'
        have s4 := sumA_hi at'
        simp only [sizeS] at hsn
        generalize totS (l.take k) = S at *
        have HS := hide hsn
        clear hsn
        go_wp2_with fail
        refine (specSizeOf tr id st en er at' _ _ (unhide HT) (by omega) (by omega)).mono ?_
        rintro e w2 ⟨rfl, hb2⟩
        generalize sumA at' = z at *
        go_wp2
        go_roundw
        case rel => exact ⟨k + 1, by omega, by go_num, by rw [unhide HS], bthen hbl hb2⟩
        case measure => simp [intOf]; omega
      case neg =>
        have hki : ¬ (k : Int) < (l.length : Int) := by omega
        have e : l.take k = l := List.take_of_length_le (by omega)
        rw [e]
        go_wp2
        go_ret
        exact ⟨rfl, hbl⟩
set_option maxHeartbeats 2000000 in
theorem implTotalOf (l : List SpanD) (v : Value) (w : World) (ha : SpansAt w v l) (h1 : l.length ≤ 1048576) (h2 : bulkS l ≤ 1048576) :
    Calls Tryd.prog 19 #[v] w fun e w' => e = .returned (.int .i64 (totS l)) ∧ Below w.heap.size w w' := by
    obtain ⟨a, cap, rfl⟩ := ha.form
    have hl := ha.len
    have HA := hide ha
    clear ha
    go_enter Tryd.func19, Tryd.ntmps19
    go_wp2
    go_loopw [3, 7] (fun n i wk => ∃ k : Nat, k ≤ l.length ∧ i = .int .i64 k ∧ n = .int .i64 (totS (l.take k)) ∧ Below w.heap.size w wk) (fun _ i _ => l.length - (intOf i).toNat)
    case atStart => exact ⟨0, Nat.zero_le _, rfl, rfl, Below.refl _ _⟩
    case round =>
      obtain ⟨k, hk, rfl, rfl, hbl⟩ := hrel
      have hbs := hbl.size
      have s0 := totS_lo (l.take k)
      have s1 := totS_hi (l.take k)
      have s2 := bulkS_take l k
      rw [List.length_take] at s1
      by_cases hlt : k < l.length
      case pos =>
        obtain ⟨b, o, rfl, hbk, hx⟩ := (unhide HA).at k hlt
        have hsn := totS_snoc l k hlt
        have hbulk := bulkS_mem (getD_mem l dS k hlt)
        have hx' := hx.keep hbk hbl
        clear hx
        generalize l.getD k dS = x at *
        obtain ⟨tr, id, st, en, er, at'⟩ := x
        obtain ⟨sl, c0, c1, c2, c3, c4, c5, hat⟩ := hx'
        simp only at c0 c1 c2 c3 c4 c5 hat hbulk hsn
        obtain ⟨asl, acap, rfl⟩ := hat.form
        have hki : (k : Int) < (l.length : Int) := by omega
        have HT := hide hat
        clear hat
        have s3 := sumA_lo at'
        have s4 := sumA_hi at'
        simp only [sizeS] at hsn
        generalize totS (l.take k) = S at *
        have HS := hide hsn
        clear hsn
        go_wp2_with fail
        refine (implSizeOf tr id st en er at' _ _ (unhide HT) (by omega) (by omega)).mono ?_
        rintro e w2 ⟨rfl, hb2⟩
        generalize sumA at' = z at *
        go_wp2
        go_roundw
        case rel => exact ⟨k + 1, by omega, by go_num, by rw [unhide HS], bthen hbl hb2⟩
        case measure => simp [intOf]; omega
      case neg =>
        have hki : ¬ (k : Int) < (l.length : Int) := by omega
        have e : l.take k = l := List.take_of_length_le (by omega)
        rw [e]
        go_wp2
        go_ret
        exact ⟨rfl, hbl⟩

end Go.Proofs.YtchinpgjaddnkaaDoor
