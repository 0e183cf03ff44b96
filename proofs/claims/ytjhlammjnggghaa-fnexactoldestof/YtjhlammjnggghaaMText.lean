/-
  The text of a mark.
-/
import Derived.Test.YtjhlammjnggghaaMem
import Derived.Lib.ItoaNum
import Derived.WalkLawsBesides
import Derived.Laws.BytesArg
import Derived.WalkSmall
namespace Go.Proofs.Ytjhlammjnggghaa
open Go.ChangeShapes Go.WideShapes Go.ChangeAt Go.RowKit
set_option linter.unusedVariables false
set_option maxRecDepth 100000

/-- The digits of a number that is above 0; none of 0. -/
def mpre (v : Nat) : List UInt8 := if v = 0 then [] else Lib.decDigits v
theorem mpre_step (v : Nat) (h : 0 < v) : mpre v = mpre (v / 10) ++ [UInt8.ofNat (48 + v % 10)] := by
  unfold mpre
  rw [if_neg (by omega), Lib.decDigits]
  by_cases h10 : v < 10
  · rw [dif_pos h10, if_pos (by omega), Nat.mod_eq_of_lt h10]; rfl
  · rw [dif_neg h10, if_neg (by omega)]
theorem mret_str {a b : ByteArray} (h : a = b) : Ending.returned (.string a) = .returned (.string b) := by rw [h]

theorem mapp_str (x : Int) (l : List UInt8) : strOfNums [x] ++ (⟨l.toArray⟩ : ByteArray) = ⟨(UInt8.ofNat x.toNat :: l).toArray⟩ := by
  apply ByteArray.ext
  simp [strOfNums]

theorem msize_one (x : Int) : (strOfNums [x]).size ≤ 1 := by rw [strOfNums_size]; exact Nat.le_refl _
theorem mcell_one (w : World) (x : Int) (t : TypeId) (i : Nat) (hi : i < 1) : (w.alloc (.cells #[.int .u8 x] t)).cell? ⟨w.heap.size, 0 + i, none⟩ = some (.int .u8 ([x].getD i 0)) := by
  obtain rfl : i = 0 := by omega
  simp [go_sem]
theorem mrun_byte_string (w : World) (x : Int) : (convert 55 9 (.slice (some ⟨w.heap.size, 0, none⟩) 1 1)).run Try.prog (w.alloc (.cells #[.int .u8 x] 5)) = .ok (.string (strOfNums [x])) (w.alloc (.cells #[.int .u8 x] 5)) :=
  run_convert_bytes_arg (P := Try.prog) (w.alloc (.cells #[.int .u8 x] 5)) 55 5 Try.underlying55 Try.underlying5 w.heap.size 0 1 1 [x] rfl (mcell_one w x _) 9 Try.underlying9
/-- What holds behind each digit: which digits are still to come, and that there is room. -/
def MSaid (n v : Nat) (l : List UInt8) : Prop := mpre v ++ l = Lib.decDigits n ∧ 2 * l.length + v ≤ n + 1 ∧ (v ≠ 0 → 2 * l.length + v ≤ n)
theorem MSaid.start {n : Nat} (hn : 0 < n) : MSaid n n [] := ⟨by rw [List.append_nil]; unfold mpre; rw [if_neg (by omega)], by simp, by simp⟩
theorem MSaid.step {n v : Nat} {l : List UInt8} (h : MSaid n v l) (hv : 0 < v) : MSaid n (v / 10) (UInt8.ofNat (48 + v % 10) :: l) := by
  obtain ⟨h1, h2, h3⟩ := h
  have h4 := h3 (by omega)
  refine ⟨?_, ?_, ?_⟩
  · rw [← h1, mpre_step v hv, List.append_assoc]; rfl
  · simp; omega
  · simp; omega
theorem MSaid.done {n : Nat} {l : List UInt8} (h : MSaid n 0 l) : l = Lib.decDigits n := by have := h.1; simpa [mpre] using this
def markT (k : Int) : ByteArray := ⟨(109 :: Lib.decDigits k.toNat).toArray⟩
theorem mpre_len (v : Nat) : 2 * (mpre v).length ≤ v + 1 := by
  induction v using Nat.strongRecOn with
  | _ v ih =>
    by_cases h : v = 0
    · subst h; simp [mpre]
    · rw [mpre_step v (by omega)]
      have := ih (v / 10) (by omega)
      simp only [List.length_append, List.length_cons, List.length_nil]
      by_cases h10 : v < 10
      · have e : v / 10 = 0 := by omega
        rw [e] at this ⊢
        simp [mpre] at this ⊢
        omega
      · omega
theorem markT_size (k : Int) (h0 : 0 < k) (h1 : k ≤ 1099511627776) : (markT k).size ≤ maxLen := by
  have h := mpre_len k.toNat
  have e : mpre k.toNat = Lib.decDigits k.toNat := by unfold mpre; rw [if_neg (by omega)]
  rw [e] at h
  have hs : (markT k).size = 1 + (Lib.decDigits k.toNat).length := by unfold markT; simp [ByteArray.size]; omega
  unfold maxLen
  omega
set_option maxHeartbeats 400000 in
theorem mMarkText (k : Int) (h0 : 0 < k) (h1 : k ≤ 9223372036854775807) (w : World) :
    Calls Try.prog 181 #[.int .i64 k] w fun e w' => e = .returned (.string (markT k)) ∧ Below w.heap.size w w' := by
  obtain ⟨n, rfl⟩ : ∃ n : Nat, k = n := ⟨k.toNat, by omega⟩
  have hn : 0 < n := by omega
  have hz : ¬ (n : Int) ≤ 0 := by omega
  go_enter Try.func181, Try.ntmps181
  go_wp2
  go_loopw [0, 3] (fun x s wr => ∃ (v : Nat) (l : List UInt8), v ≤ n ∧ x = .int .i64 (v : Int) ∧ s = .string ⟨l.toArray⟩ ∧ MSaid n v l ∧ Below w.heap.size w wr) (fun x _ _ => (intOf x).toNat)
  case atStart => exact ⟨n, [], Nat.le_refl _, rfl, rfl, MSaid.start hn, Below.refl _ _⟩
  case round =>
    obtain ⟨v, l, hv, rfl, rfl, hl, hb⟩ := hrel
    by_cases h0 : v = 0
    · subst h0
      have hln := hl.2.1
      go_wp2
      go_ret
      refine ⟨mret_str ?_, hb⟩
      rw [markT, show ((n : Int)).toNat = n by omega, ← hl.done]
      apply ByteArray.ext
      simp
    · have hpos : (0 : Int) < (v : Int) := by omega
      have hcv := mrun_byte_string wr (48 + (v : Int) % 10)
      have hsz := msize_one (48 + (v : Int) % 10)
      have hln := hl.2.2 h0
      have HA := hide (mapp_str (48 + (v : Int) % 10) l)
      go_wp2
      go_roundw
      case rel =>
        refine ⟨v / 10, UInt8.ofNat (48 + v % 10) :: l, by omega, by go_num, ?_, hl.step (by omega), hb.alloc hb.size _⟩
        rw [unhide HA, show (48 + (v : Int) % 10).toNat = 48 + v % 10 by omega]
      case measure => simp [intOf]; omega
end Go.Proofs.Ytjhlammjnggghaa
