/-
  Contracts of chapter 3's SizeOf, of the program and of the specification.
-/
import Derived.Test.YtjhlammjnggghaaSpan
import Derived.Test.YtjhlammjnggghaaAttrSize
namespace Go.Proofs.Ytjhlammjnggghaa
open Go.ChangeShapes Go.WideShapes Go.ChangeAt Go.RowKit
set_option linter.unusedVariables false
set_option maxRecDepth 100000

def asz (x : AttrD) : Int := asize x.1 x.2.1 x.2.2.2
def sumA (l : List AttrD) : Int := (l.map asz).sum
theorem asz_lo (x : AttrD) : 0 ≤ asz x := by unfold asz asize; split <;> omega
theorem asz_hi (x : AttrD) : asz x ≤ x.1.size + x.2.2.2.size + 4 := by unfold asz asize; split <;> omega
theorem sumA_snoc (l : List AttrD) (k : Nat) (h : k < l.length) : sumA (l.take (k + 1)) = sumA (l.take k) + asz (l.getD k dA) := by
  unfold sumA
  rw [List.take_succ_eq_append_getElem h, List.map_append, List.sum_append]
  simp [List.getD, h]
theorem sumA_lo (l : List AttrD) : 0 ≤ sumA l := by
  unfold sumA
  induction l with
  | nil => simp
  | cons x r ih => have := asz_lo x; simp only [List.map_cons, List.sum_cons]; omega
theorem sumA_hi (l : List AttrD) : sumA l ≤ 4 * l.length + bytesA l := by
  unfold sumA bytesA
  induction l with
  | nil => simp
  | cons x r ih => have := asz_hi x; simp only [List.map_cons, List.sum_cons, List.length_cons]; omega
theorem bytesA_take (l : List AttrD) (k : Nat) : bytesA (l.take k) ≤ bytesA l := by
  unfold bytesA
  conv => rhs; rw [← List.take_append_drop k l]
  rw [List.map_append, List.sum_append]
  omega
theorem bytesA_mem {l : List AttrD} {x : AttrD} (h : x ∈ l) : x.1.size + x.2.2.2.size ≤ bytesA l := by
  unfold bytesA
  induction l with
  | nil => simp at h
  | cons y r ih =>
    simp only [List.map_cons, List.sum_cons]
    rcases List.mem_cons.1 h with rfl | h
    · omega
    · have := ih h; omega

set_option maxHeartbeats 2000000 in
theorem specSizeOf (tr id st en : Int) (er : Bool) (l : List AttrD) (v : Value) (w : World) (ha : AttrsAt w v l) (h1 : l.length ≤ 1048576) (h2 : bytesA l ≤ 1048576) :
    Calls Try.prog 205 #[.agg #[.int .i64 tr, .int .i64 id, .int .i64 st, .int .i64 en, .bool er, v]] w fun e w' => e = .returned (.int .i64 (12 + sumA l)) ∧ Below w.heap.size w w' := by
    obtain ⟨a, cap, rfl⟩ := ha.form
    have HA := hide ha
    have c5 : (w.alloc (.cells #[.int .i64 tr, .int .i64 id, .int .i64 st, .int .i64 en, .bool er, .slice a l.length cap] 33)).cell? ⟨w.heap.size, 5, none⟩ = some (.slice a l.length cap) := by simp [go_sem]
    have hbo := bnew w (.cells #[.int .i64 tr, .int .i64 id, .int .i64 st, .int .i64 en, .bool er, .slice a l.length cap] 33)
    clear ha
    go_enter Try.func205, Try.ntmps205
    go_wp2
    generalize hW : w.alloc (.cells #[.int .i64 tr, .int .i64 id, .int .i64 st, .int .i64 en, .bool er, .slice a l.length cap] 33) = w1 at *
    have hlt0 : w.heap.size < w1.heap.size := by rw [← hW]; simp
    clear hW
    go_loopw [3, 4] (fun n i wk => ∃ k : Nat, k ≤ l.length ∧ i = .int .i64 k ∧ n = .int .i64 (12 + sumA (l.take k)) ∧ Below w1.heap.size w1 wk) (fun _ i _ => l.length - (intOf i).toNat)
    case atStart => exact ⟨0, Nat.zero_le _, rfl, rfl, Below.refl _ _⟩
    case round =>
      obtain ⟨k, hk, rfl, rfl, hbl⟩ := hrel
      have hbs := hbl.size
      rw [← hbl.cell hlt0] at c5
      have s0 := sumA_lo (l.take k)
      have s1 := sumA_hi (l.take k)
      have s2 := bytesA_take l k
      rw [List.length_take] at s1
      by_cases hlt : k < l.length
      · obtain ⟨b, o, rfl, hbk, c0, c1, c2, c3⟩ := (unhide HA).at k hlt
        have hm := bytesA_mem (getD_mem l dA k hlt)
        have hsn := sumA_snoc l k hlt
        generalize l.getD k dA = x at *
        obtain ⟨kk, bb, nn, tt⟩ := x
        simp only at c0 c1 c2 c3 hm
        have hbk1 : b < w1.heap.size := Nat.lt_of_lt_of_le hbk hbo.size
        rw [← hbo.cell hbk, ← hbl.cell hbk1] at c0 c1 c2 c3
        have hki : (k : Int) < (l.length : Int) := by omega
        have s3 := asz_lo (kk, bb, nn, tt)
        have s4 := asz_hi (kk, bb, nn, tt)
        simp only [asz] at s3 s4 hsn
        generalize sumA (l.take k) = S at *
        have HS := hide hsn
        clear hsn
        go_wp2_with fail
        refine (specAttrSize kk bb nn tt _ (by omega) (by omega)).mono ?_
        rintro e w2 ⟨rfl, hb2⟩
        generalize asize kk bb tt = z at *
        go_wp2
        go_roundw
        case rel => exact ⟨k + 1, by omega, by go_num, by rw [unhide HS, Int.add_assoc], bthen hbl hb2⟩
        case measure => simp [intOf]; omega
      · have hki : ¬ (k : Int) < (l.length : Int) := by omega
        have e : l.take k = l := List.take_of_length_le (by omega)
        rw [e]
        go_wp2
        go_ret
        exact ⟨rfl, bthen hbo hbl⟩
set_option maxHeartbeats 2000000 in
theorem implSizeOf (tr id st en : Int) (er : Bool) (l : List AttrD) (v : Value) (w : World) (ha : AttrsAt w v l) (h1 : l.length ≤ 1048576) (h2 : bytesA l ≤ 1048576) :
    Calls Try.prog 201 #[.agg #[.int .i64 tr, .int .i64 id, .int .i64 st, .int .i64 en, .bool er, v]] w fun e w' => e = .returned (.int .i64 (12 + sumA l)) ∧ Below w.heap.size w w' := by
    obtain ⟨a, cap, rfl⟩ := ha.form
    have HA := hide ha
    have c5 : (w.alloc (.cells #[.int .i64 tr, .int .i64 id, .int .i64 st, .int .i64 en, .bool er, .slice a l.length cap] 33)).cell? ⟨w.heap.size, 5, none⟩ = some (.slice a l.length cap) := by simp [go_sem]
    have hbo := bnew w (.cells #[.int .i64 tr, .int .i64 id, .int .i64 st, .int .i64 en, .bool er, .slice a l.length cap] 33)
    clear ha
    go_enter Try.func201, Try.ntmps201
    go_wp2
    generalize hW : w.alloc (.cells #[.int .i64 tr, .int .i64 id, .int .i64 st, .int .i64 en, .bool er, .slice a l.length cap] 33) = w1 at *
    have hlt0 : w.heap.size < w1.heap.size := by rw [← hW]; simp
    clear hW
    go_loopw [3, 8] (fun n i wk => ∃ k : Nat, k ≤ l.length ∧ i = .int .i64 k ∧ n = .int .i64 (12 + sumA (l.take k)) ∧ Below w1.heap.size w1 wk) (fun _ i _ => l.length - (intOf i).toNat)
    case atStart => exact ⟨0, Nat.zero_le _, rfl, rfl, Below.refl _ _⟩
    case round =>
      obtain ⟨k, hk, rfl, rfl, hbl⟩ := hrel
      have hbs := hbl.size
      rw [← hbl.cell hlt0] at c5
      have s0 := sumA_lo (l.take k)
      have s1 := sumA_hi (l.take k)
      have s2 := bytesA_take l k
      rw [List.length_take] at s1
      by_cases hlt : k < l.length
      · obtain ⟨b, o, rfl, hbk, c0, c1, c2, c3⟩ := (unhide HA).at k hlt
        have hm := bytesA_mem (getD_mem l dA k hlt)
        have hsn := sumA_snoc l k hlt
        generalize l.getD k dA = x at *
        obtain ⟨kk, bb, nn, tt⟩ := x
        simp only at c0 c1 c2 c3 hm
        have hbk1 : b < w1.heap.size := Nat.lt_of_lt_of_le hbk hbo.size
        rw [← hbo.cell hbk, ← hbl.cell hbk1] at c0 c1 c2 c3
        have hki : (k : Int) < (l.length : Int) := by omega
        have s3 := asz_lo (kk, bb, nn, tt)
        have s4 := asz_hi (kk, bb, nn, tt)
        simp only [asz] at s3 s4 hsn
        generalize sumA (l.take k) = S at *
        have HS := hide hsn
        clear hsn
        go_wp2_with fail
        refine (implAttrSize kk bb nn tt _ (by omega) (by omega)).mono ?_
        rintro e w2 ⟨rfl, hb2⟩
        generalize asize kk bb tt = z at *
        go_wp2
        go_roundw
        case rel => exact ⟨k + 1, by omega, by go_num, by rw [unhide HS, Int.add_assoc], bthen hbl hb2⟩
        case measure => simp [intOf]; omega
      · have hki : ¬ (k : Int) < (l.length : Int) := by omega
        have e : l.take k = l := List.take_of_length_le (by omega)
        rw [e]
        go_wp2
        go_ret
        exact ⟨rfl, bthen hbo hbl⟩
end Go.Proofs.Ytjhlammjnggghaa
