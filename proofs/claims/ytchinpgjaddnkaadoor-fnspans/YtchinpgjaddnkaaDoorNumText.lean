/-
  Contracts of NumText, of the program (over strconv.Itoa) and of the specification, over this seat's translation.
-/
import Derived.Test.YtchinpgjaddnkaaDoorNum
import Derived.Test.YtchinpgjaddnkaaDoorItoa
import Derived.WalkLawsBesides
import Derived.Laws.BytesArg
import Derived.WalkSmall
import Derived.Lib.LaidTab
namespace Go.Proofs.YtchinpgjaddnkaaDoor
open Go.ChangeShapes Go.WideShapes Go.ChangeAt Go.RowKit
set_option linter.unusedVariables false
set_option maxRecDepth 100000

/-- The digits of a number that is above 0; none of 0. -/
def pre (v : Nat) : List UInt8 := if v = 0 then [] else Lib.decDigits v
theorem pre_step (v : Nat) (h : 0 < v) : pre v = pre (v / 10) ++ [UInt8.ofNat (48 + v % 10)] := by
  unfold pre
  rw [if_neg (by omega), Lib.decDigits]
  by_cases h10 : v < 10
  · rw [dif_pos h10, if_pos (by omega), Nat.mod_eq_of_lt h10]; rfl
  · rw [dif_neg h10, if_neg (by omega)]
theorem ret_str {a b : ByteArray} (h : a = b) : Ending.returned (.string a) = .returned (.string b) := by rw [h]

theorem below_grow (w : World) (k : Nat) (os : Array Obj) : Below w.heap.size w (Sort.grow (w.drewN k) os) :=
  ⟨rfl, rfl, rfl, by show w.heap.size ≤ (w.heap ++ os).size; rw [Array.size_append]; omega, fun j hj => by show (w.heap ++ os)[j]? = _; rw [Array.getElem?_append_left hj]⟩
theorem app_str (x : Int) (l : List UInt8) : strOfNums [x] ++ (⟨l.toArray⟩ : ByteArray) = ⟨(UInt8.ofNat x.toNat :: l).toArray⟩ := by
  apply ByteArray.ext
  simp [strOfNums]

theorem gPow : Tryd.prog.globalNamed "internal/strconv.uint64pow10" = some 1 := by kernel_rfl
theorem htab_keep {w w' : World} (h : Lib.TabIs Tryd.prog w "internal/strconv.uint64pow10" .u64 Lib.pow10Tab) (hb : Below w.heap.size w w') : Lib.TabIs Tryd.prog w' "internal/strconv.uint64pow10" .u64 Lib.pow10Tab :=
  var?_below hb gPow (block_lt_of_cell (h.cell gPow 0 (by rw [Lib.pow10Tab_length]; omega))) h

theorem implNumText (n : Int) (h0 : -9223372036854775808 ≤ n) (h1 : n ≤ 9223372036854775807) (w : World) (htab : Lib.TabIs Tryd.prog w "internal/strconv.uint64pow10" .u64 Lib.pow10Tab) :
    Calls Tryd.prog 36 #[.int .i64 n] w fun e w' => e = .returned (.string ⟨(Lib.itoa n).toArray⟩) ∧ Below w.heap.size w w' := by
  go_enter Tryd.func36, Tryd.ntmps36
  go_wp2_with fail
  refine (Tryd.strconv_Itoa n h0 h1 w htab).mono ?_
  rintro e w' ⟨rfl, k, os, rfl⟩
  go_wp2
  go_ret
  exact ⟨rfl, below_grow _ _ _⟩

theorem size_one (x : Int) : (strOfNums [x]).size ≤ 1 := by rw [strOfNums_size]; exact Nat.le_refl _
theorem cell_one (w : World) (x : Int) (t : TypeId) (i : Nat) (hi : i < 1) : (w.alloc (.cells #[.int .u8 x] t)).cell? ⟨w.heap.size, 0 + i, none⟩ = some (.int .u8 ([x].getD i 0)) := by
  obtain rfl : i = 0 := by omega
  simp [go_sem]
theorem run_byte_string (w : World) (x : Int) : (convert 22 9 (.slice (some ⟨w.heap.size, 0, none⟩) 1 1)).run Tryd.prog (w.alloc (.cells #[.int .u8 x] 5)) = .ok (.string (strOfNums [x])) (w.alloc (.cells #[.int .u8 x] 5)) :=
  run_convert_bytes_arg (P := Tryd.prog) (w.alloc (.cells #[.int .u8 x] 5)) 22 5 Tryd.underlying22 Tryd.underlying5 w.heap.size 0 1 1 [x] rfl (cell_one w x _) 9 Tryd.underlying9
/-- What holds behind each digit: which digits are still to come, and that there is room. -/
def Said (n v : Nat) (l : List UInt8) : Prop := pre v ++ l = Lib.decDigits n ∧ 2 * l.length + v ≤ n + 1 ∧ (v ≠ 0 → 2 * l.length + v ≤ n)
theorem Said.start {n : Nat} (hn : 0 < n) : Said n n [] := ⟨by rw [List.append_nil]; unfold pre; rw [if_neg (by omega)], by simp, by simp⟩
theorem Said.step {n v : Nat} {l : List UInt8} (h : Said n v l) (hv : 0 < v) : Said n (v / 10) (UInt8.ofNat (48 + v % 10) :: l) := by
  obtain ⟨h1, h2, h3⟩ := h
  have h4 := h3 (by omega)
  refine ⟨?_, ?_, ?_⟩
  · rw [← h1, pre_step v hv, List.append_assoc]; rfl
  · simp; omega
  · simp; omega
theorem Said.done {n : Nat} {l : List UInt8} (h : Said n 0 l) : l = Lib.decDigits n := by have := h.1; simpa [pre] using this
set_option maxHeartbeats 400000 in
theorem specNumText_pos (n : Nat) (hn : 0 < n) (h1 : n ≤ 9223372036854775807) (w : World) :
    Calls Tryd.prog 39 #[.int .i64 (n : Int)] w fun e w' => e = .returned (.string ⟨(Lib.decDigits n).toArray⟩) ∧ Below w.heap.size w w' := by
  have hz : ((n : Int) == 0) = false := beq_eq_false_iff_ne.2 (by omega)
  go_enter Tryd.func39, Tryd.ntmps39
  go_wp2
  go_loopw [3, 4] (fun s x wr => ∃ (v : Nat) (l : List UInt8), v ≤ n ∧ x = .int .i64 (v : Int) ∧ s = .string ⟨l.toArray⟩ ∧ Said n v l ∧ Below w.heap.size w wr) (fun _ x _ => (intOf x).toNat)
  case atStart => exact ⟨n, [], Nat.le_refl _, rfl, rfl, Said.start hn, Below.refl _ _⟩
  case round =>
    obtain ⟨v, l, hv, rfl, rfl, hl, hb⟩ := hrel
    by_cases h0 : v = 0
    · subst h0
      go_wp2
      go_ret
      exact ⟨ret_str (by rw [hl.done]), hb⟩
    · have hne : ((v : Int) == 0) = false := beq_eq_false_iff_ne.2 (by omega)
      have hcv := run_byte_string wr (48 + (v : Int) % 10)
      have hsz := size_one (48 + (v : Int) % 10)
      have hln := hl.2.2 h0
      have HA := hide (app_str (48 + (v : Int) % 10) l)
      go_wp2
      go_roundw
      case rel =>
        refine ⟨v / 10, UInt8.ofNat (48 + v % 10) :: l, by omega, by go_num, ?_, hl.step (by omega), hb.alloc hb.size _⟩
        rw [unhide HA, show (48 + (v : Int) % 10).toNat = 48 + v % 10 by omega]
      case measure => simp [intOf]; omega
theorem neg_tmod (v : Nat) : (-(v : Int)).tmod 10 = -((v : Int) % 10) := by rw [Int.neg_tmod, Int.tmod_eq_emod_of_nonneg (by omega)]
theorem neg_tdiv (v : Nat) : (-(v : Int)).tdiv 10 = -((v : Int) / 10) := by rw [Int.neg_tdiv, Int.tdiv_eq_ediv_of_nonneg (by omega)]
set_option maxHeartbeats 400000 in
theorem specNumText_neg (n : Nat) (hn : 0 < n) (h1 : n ≤ 9223372036854775808) (w : World) :
    Calls Tryd.prog 39 #[.int .i64 (-(n : Int))] w fun e w' => e = .returned (.string ⟨(45 :: Lib.decDigits n).toArray⟩) ∧ Below w.heap.size w w' := by
  have hz : ((-(n : Int)) == 0) = false := beq_eq_false_iff_ne.2 (by omega)
  have hlt : -(n : Int) < 0 := by omega
  go_enter Tryd.func39, Tryd.ntmps39
  go_wp2
  go_loopw [3, 4] (fun s x wr => ∃ (v : Nat) (l : List UInt8), v ≤ n ∧ x = .int .i64 (-(v : Int)) ∧ s = .string ⟨l.toArray⟩ ∧ Said n v l ∧ Below w.heap.size w wr) (fun _ x _ => (-(intOf x)).toNat)
  case atStart => exact ⟨n, [], Nat.le_refl _, rfl, rfl, Said.start hn, Below.refl _ _⟩
  case round =>
    obtain ⟨v, l, hv, rfl, rfl, hl, hb⟩ := hrel
    by_cases h0 : v = 0
    · subst h0
      have hln := hl.2.1
      go_wp2
      go_ret
      refine ⟨ret_str ?_, hb⟩
      rw [← hl.done]
      apply ByteArray.ext
      simp
    · have hne : ((-(v : Int)) == 0) = false := beq_eq_false_iff_ne.2 (by omega)
      have hln := hl.2.2 h0
      have h2 := neg_tmod v
      have h3 := neg_tdiv v
      by_cases hd : v % 10 = 0
      · have h4 : (v : Int) % 10 = 0 := by omega
        have hcv := run_byte_string wr 48
        have hsz := size_one 48
        have HA := hide (app_str 48 l)
        rw [h4] at h2
        clear hd
        have H4 := hide h4
        clear h4
        go_wp2
        go_roundw
        case rel =>
          have h4 := unhide H4
          refine ⟨v / 10, UInt8.ofNat (48 + v % 10) :: l, by omega, by go_num, ?_, hl.step (by omega), hb.alloc hb.size _⟩
          rw [unhide HA, show (48 : Int).toNat = 48 + v % 10 by omega]
        case measure => simp [intOf]; omega
      · have h4 : 0 < (v : Int) % 10 := by omega
        have hcv := run_byte_string wr (48 + (v : Int) % 10)
        have hsz := size_one (48 + (v : Int) % 10)
        have HA := hide (app_str (48 + (v : Int) % 10) l)
        go_wp2
        go_roundw
        case rel =>
          refine ⟨v / 10, UInt8.ofNat (48 + v % 10) :: l, by omega, by go_num, ?_, hl.step (by omega), hb.alloc hb.size _⟩
          rw [unhide HA, show (48 + (v : Int) % 10).toNat = 48 + v % 10 by omega]
        case measure => simp [intOf]; omega
theorem itoa_zero : Lib.itoa 0 = [48] := by
  unfold Lib.itoa
  rw [if_neg (by omega)]
  show Lib.decDigits 0 = [48]
  rw [Lib.decDigits, dif_pos (by omega)]
  rfl
theorem specNumText (n : Int) (h0 : -9223372036854775808 ≤ n) (h1 : n ≤ 9223372036854775807) (w : World) :
    Calls Tryd.prog 39 #[.int .i64 n] w fun e w' => e = .returned (.string ⟨(Lib.itoa n).toArray⟩) ∧ Below w.heap.size w w' := by
  by_cases hz : n = 0
  · subst hz
    have HS := hide itoa_zero
    go_enter Tryd.func39, Tryd.ntmps39
    go_wp2
    go_ret
    exact ⟨ret_str (by rw [unhide HS]), Below.refl _ _⟩
  · by_cases hneg : n < 0
    · obtain ⟨m, rfl⟩ : ∃ m : Nat, n = -(m : Int) := ⟨n.natAbs, by omega⟩
      refine (specNumText_neg m (by omega) (by omega) w).mono fun e w' h => ?_
      have e1 : Lib.itoa (-(m : Int)) = 45 :: Lib.decDigits m := by unfold Lib.itoa; rw [if_pos hneg]; congr 2; omega
      rw [e1]; exact h
    · obtain ⟨m, rfl⟩ := Int.eq_ofNat_of_zero_le (by omega : 0 ≤ n)
      refine (specNumText_pos m (by omega) (by omega) w).mono fun e w' h => ?_
      have e1 : Lib.itoa (m : Int) = Lib.decDigits m := by unfold Lib.itoa; rw [if_neg hneg]; rfl
      rw [e1]; exact h

end Go.Proofs.YtchinpgjaddnkaaDoor
