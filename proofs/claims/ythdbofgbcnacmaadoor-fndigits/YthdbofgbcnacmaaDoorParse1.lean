/-
  Contracts of chapter 1's ParseNum, of the program and of the specification, over this seat's translation.
-/
import Derived.Test.YthdbofgbcnacmaaDoorStr1
namespace Go.Proofs.YthdbofgbcnacmaaDoor
open Go.ChangeShapes Go.WideShapes Go.ChangeAt Go.RowKit
set_option linter.unusedVariables false

def digP (c : Nat) : Bool := decide (48 ≤ c) && decide (c ≤ 57)
theorem digP_yes {c : Nat} (h : 48 ≤ c) (h' : c ≤ 57) : digP c = true := by simp [digP, h, h']
theorem digP_no {c : Nat} (h : c < 48 ∨ 57 < c) : digP c = false := by
  unfold digP; rcases h with h | h
  · rw [decide_eq_false (by omega)]; rfl
  · rw [decide_eq_false (p := c ≤ 57) (by omega)]; simp
theorem digP_of {c : Nat} (h : digP c = true) : 48 ≤ c ∧ c ≤ 57 := by simpa [digP] using h
def numL (l : List UInt8) : Int := l.foldl (fun n c => n * 10 + ((c.toNat : Int) - 48)) 0
def numTo (s : ByteArray) (k : Nat) : Int := numL (s.data.toList.take k)
theorem numTo_zero (s : ByteArray) : numTo s 0 = 0 := rfl
theorem numTo_succ (s : ByteArray) (k : Nat) (h : k < s.size) : numTo s (k + 1) = numTo s k * 10 + (((s[k]'h).toNat : Int) - 48) := by
  unfold numTo numL
  rw [List.take_succ_eq_append_getElem (by simpa using h), List.foldl_append]
  rfl
theorem numTo_end (s : ByteArray) (k : Nat) (h : ¬ k < s.size) : numTo s k = numTo s s.size := by
  unfold numTo
  rw [List.take_of_length_le (by simp; omega), List.take_of_length_le (by simp)]
theorem allTo_at (p : Nat → Bool) (s : ByteArray) (k j : Nat) (h : j < s.size) (hj : j < k) (ha : allTo p s k = true) : p (s[j]'h).toNat = true := by
  unfold allTo at ha
  rw [List.all_eq_true] at ha
  refine ha _ ?_
  show s.data[j] ∈ _
  rw [List.mem_take_iff_getElem]
  exact ⟨j, by simp; omega, by simp⟩
theorem allB_at (p : Nat → Bool) (s : ByteArray) (j : Nat) (h : j < s.size) (ha : allB p s = true) : p (s[j]'h).toNat = true :=
  allTo_at p s s.size j h h (by rw [allTo_end p s s.size (by omega)]; exact ha)
/-- Digits lead to no number below 0, and each more digit to one that is no less. -/
theorem numTo_nonneg (s : ByteArray) (k : Nat) (hk : k ≤ s.size) (ha : allTo digP s k = true) : 0 ≤ numTo s k := by
  induction k with
  | zero => exact Int.le_refl _
  | succ k ih =>
    have hb := allTo_succ digP s k (by omega)
    rw [hb, Bool.and_eq_true] at ha
    have := ih (by omega) ha.1
    have hd := digP_of ha.2
    rw [numTo_succ s k (by omega)]
    omega
theorem numTo_lt (s : ByteArray) (k : Nat) (hk : k ≤ s.size) (ha : allTo digP s k = true) : numTo s k < 10 ^ k := by
  induction k with
  | zero => exact (by decide : (0 : Int) < 1)
  | succ k ih =>
    have hb := allTo_succ digP s k (by omega)
    rw [hb, Bool.and_eq_true] at ha
    have := ih (by omega) ha.1
    have hd := digP_of ha.2
    rw [numTo_succ s k (by omega), Int.pow_succ]
    omega
theorem numTo_mono (s : ByteArray) (k d : Nat) (hk : k + d ≤ s.size) (ha : allB digP s = true) (h0 : 0 ≤ numTo s k) : numTo s k ≤ numTo s (k + d) := by
  induction d with
  | zero => exact Int.le_refl _
  | succ d ih =>
    have := ih (by omega)
    have hd := digP_of (allB_at digP s (k + d) (by omega) ha)
    rw [← Nat.add_assoc, numTo_succ s (k + d) (by omega)]
    omega
theorem numTo_big (s : ByteArray) (k : Nat) (hk : k + 1 ≤ s.size) (ha : allB digP s = true) (h0 : (s[0]'(by omega)).toNat ≠ 48) : (10 : Int) ^ k ≤ numTo s (k + 1) := by
  induction k with
  | zero =>
    have hd := digP_of (allB_at digP s 0 (by omega) ha)
    rw [numTo_succ s 0 (by omega), numTo_zero]
    simp
    omega
  | succ k ih =>
    have := ih (by omega)
    have hd := digP_of (allB_at digP s (k + 1) (by omega) ha)
    rw [numTo_succ s (k + 1) (by omega), Int.pow_succ]
    omega
def nought (s : ByteArray) : Bool := if h : 1 < s.size then ((s[0]'(by omega)).toNat : Int) == 48 else false
/-- What ParseNum says: whether the text is a number, and which. -/
def parseB (s : ByteArray) : Bool := decide (1 ≤ s.size) && decide (s.size ≤ 10) && !nought s && allB digP s && decide (numTo s s.size ≤ 2147483647)
def parseV (s : ByteArray) : Int := if parseB s = true then numTo s s.size else 0
theorem parseV_no {s : ByteArray} (h : parseB s = false) : parseV s = 0 := by unfold parseV; rw [h]; rfl
theorem parseV_yes {s : ByteArray} (h : parseB s = true) : parseV s = numTo s s.size := by unfold parseV; rw [if_pos h]
theorem no_empty {s : ByteArray} (h : s.size = 0) : parseB s = false := by unfold parseB; rw [decide_eq_false (p := 1 ≤ s.size) (by omega)]; rfl
theorem no_long {s : ByteArray} (h : 10 < s.size) : parseB s = false := by unfold parseB; rw [decide_eq_false (p := s.size ≤ 10) (by omega)]; simp
theorem no_nought {s : ByteArray} (h : nought s = true) : parseB s = false := by unfold parseB; rw [h]; simp
theorem no_digit {s : ByteArray} (k : Nat) (h : k < s.size) (hp : (s[k]'h).toNat < 48 ∨ 57 < (s[k]'h).toNat) : parseB s = false := by
  unfold parseB; rw [allB_false digP s k h (digP_no hp)]; simp
theorem no_great {s : ByteArray} (h : 2147483647 < numTo s s.size) : parseB s = false := by unfold parseB; rw [decide_eq_false (p := numTo s s.size ≤ 2147483647) (by omega)]; simp
theorem no_early {s : ByteArray} (k : Nat) (hk : k ≤ s.size) (ha : allTo digP s k = true) (h : 2147483647 < numTo s k) : parseB s = false := by
  by_cases hall : allB digP s = true
  · apply no_great
    have := numTo_mono s k (s.size - k) (by omega) hall (by omega)
    rw [show k + (s.size - k) = s.size from by omega] at this
    omega
  · unfold parseB; rw [Bool.not_eq_true] at hall; rw [hall]; simp
theorem yes_short {s : ByteArray} (h1 : 1 ≤ s.size) (hn : nought s = false) (ha : allB digP s = true) (h : numTo s s.size ≤ 2147483647) : s.size ≤ 10 := by
  by_cases hs : s.size ≤ 10
  · exact hs
  · exfalso
    have h0 : (s[0]'(by omega)).toNat ≠ 48 := by
      intro e
      unfold nought at hn
      rw [dif_pos (by omega)] at hn
      rw [beq_eq_false_iff_ne] at hn
      omega
    have h10 : (10 : Int) ^ 10 ≤ numTo s 11 := numTo_big s 10 (by omega) ha h0
    have e : (10 : Int) ^ 10 = 10000000000 := by decide
    rw [e] at h10
    have := numTo_mono s 11 (s.size - 11) (by omega) ha (by omega)
    rw [show 11 + (s.size - 11) = s.size from by omega] at this
    omega
theorem yes_parse {s : ByteArray} (h1 : 1 ≤ s.size) (hn : nought s = false) (ha : allB digP s = true) (h : numTo s s.size ≤ 2147483647) : parseB s = true := by
  have hs := yes_short h1 hn ha h
  unfold parseB
  rw [decide_eq_true h1, decide_eq_true hs, hn, ha, decide_eq_true h]
  rfl
theorem pow_ten {k : Nat} (h : k ≤ 10) : (10 : Int) ^ k ≤ 10000000000 := by
  match k, h with
  | 0, _ => decide
  | 1, _ => decide
  | 2, _ => decide
  | 3, _ => decide
  | 4, _ => decide
  | 5, _ => decide
  | 6, _ => decide
  | 7, _ => decide
  | 8, _ => decide
  | 9, _ => decide
  | 10, _ => decide
theorem ret_ib {a b : Int} {c d : Bool} (h : a = b) (h' : c = d) : Ending.returned (.tuple #[.int .i64 a, .bool c]) = .returned (.tuple #[.int .i64 b, .bool d]) := by rw [h, h']

theorem implIsDigit (r : Int) (w : World) :
    Calls Tryd.prog 21 #[.int .i32 r] w fun e w' => e = .returned (.bool (inv r 48 57)) ∧ w' = w := by
  unfold inv
  by_cases h : 48 ≤ r
  · by_cases h' : r ≤ 57
    · rw [decide_eq_true h, decide_eq_true h']
      go_enter Tryd.func21, Tryd.ntmps21
      go_wp2
      go_ret
      exact ⟨by simp, rfl⟩
    · rw [decide_eq_true h, decide_eq_false h']
      go_enter Tryd.func21, Tryd.ntmps21
      go_wp2
      go_ret
      exact ⟨by simp, rfl⟩
  · rw [decide_eq_false h]
    go_enter Tryd.func21, Tryd.ntmps21
    go_wp2
    go_ret
    exact ⟨by simp, rfl⟩

theorem implNought (s : ByteArray) (w : World) :
    Calls Tryd.prog 20 #[.string s] w fun e w' => e = .returned (.bool (nought s)) ∧ w' = w := by
  by_cases h : 1 < s.size
  · have HS := hide (show nought s = (((s[0]'(by omega)).toNat : Int) == 48) by unfold nought; rw [dif_pos h])
    have h' : (1 : Int) < (s.size : Int) := by omega
    go_enter Tryd.func20, Tryd.ntmps20
    go_wp2
    go_ret
    exact ⟨ret_bool (unhide HS).symm, rfl⟩
  · have HS := hide (show nought s = false by unfold nought; rw [dif_neg h])
    have h' : decide ((1 : Int) < (s.size : Int)) = false := decide_eq_false (by omega)
    go_enter Tryd.func20, Tryd.ntmps20
    go_wp2
    go_ret
    exact ⟨ret_bool (unhide HS).symm, rfl⟩

theorem specParseNum (s : ByteArray) (w : World) (hs : s.size ≤ maxLen) :
    Calls Tryd.prog 9 #[.string s] w fun e w' => e = .returned (.tuple #[.int .i64 (parseV s), .bool (parseB s)]) ∧ w' = w := by
  unfold maxLen at hs
  by_cases h0 : s.size = 0
  · have HS := hide (no_empty h0)
    have h0' : ((s.size : Int) == 0) = true := beq_iff_eq.2 (by omega)
    go_enter Tryd.func9, Tryd.ntmps9
    go_wp2
    go_ret2
    exact ⟨ret_ib (parseV_no (unhide HS)).symm (unhide HS).symm, rfl⟩
  have h0' : ((s.size : Int) == 0) = false := beq_eq_false_iff_ne.2 (by omega)
  by_cases h10 : 10 < s.size
  · have HS := hide (no_long h10)
    have h10' : (10 : Int) < (s.size : Int) := by omega
    go_enter Tryd.func9, Tryd.ntmps9
    go_wp2
    go_ret2
    exact ⟨ret_ib (parseV_no (unhide HS)).symm (unhide HS).symm, rfl⟩
  have h10' : decide ((10 : Int) < (s.size : Int)) = false := decide_eq_false (by omega)
  by_cases hn : nought s = true
  · have HS := hide (no_nought hn)
    have h1 : 1 < s.size := by
      by_cases h1 : 1 < s.size
      · exact h1
      · unfold nought at hn; rw [dif_neg h1] at hn; cases hn
    have h1' : (1 : Int) < (s.size : Int) := by omega
    have hz : (((s[0]'(by omega)).toNat : Int) == 48) = true := by unfold nought at hn; rw [dif_pos h1] at hn; exact hn
    clear hn
    go_enter Tryd.func9, Tryd.ntmps9
    go_wp2
    go_ret2
    exact ⟨ret_ib (parseV_no (unhide HS)).symm (unhide HS).symm, rfl⟩
  rw [Bool.not_eq_true] at hn
  have Hn := hide hn
  clear hn
  have hsz : s.size ≤ 10 := by omega
  have hs1 : 1 ≤ s.size := by omega
  have Hz : Hid (∀ h : 1 < s.size, (((s[0]'(by omega)).toNat : Int) == 48) = false) := by
    have := unhide Hn
    unfold nought at this
    exact hide (fun h => by rw [dif_pos h] at this; exact this)
  have fin : (∀ h : 1 < s.size, (((s[0]'(by omega)).toNat : Int) == 48) = false) → Calls Tryd.prog 9 #[.string s] w fun e w' => e = .returned (.tuple #[.int .i64 (parseV s), .bool (parseB s)]) ∧ w' = w := by
    intro hz
    by_cases h1 : 1 < s.size
    · have h1' : (1 : Int) < (s.size : Int) := by omega
      have hz' := hz h1
      clear hz
      go_enter Tryd.func9, Tryd.ntmps9
      go_wp2
      go_loop [4, 5] (fun n i => ∃ k : Nat, k ≤ s.size ∧ i = .int .i64 k ∧ allTo digP s k = true ∧ n = .int .i64 (numTo s k)) (fun _ i => s.size - (intOf i).toNat)
      case atStart => exact ⟨0, Nat.zero_le _, rfl, allTo_zero _ _, rfl⟩
      case round =>
        obtain ⟨k, hk, rfl, hall, rfl⟩ := hrel
        have b0 := numTo_nonneg s k hk hall
        have b1 := numTo_lt s k hk hall
        have b2 := pow_ten (k := k) (by omega)
        have b3 : numTo s k < 10000000000 := by omega
        clear b1 b2
        have Hall := hide hall
        clear hall
        by_cases hlt : k < s.size
        · by_cases hbad : (s[k]'hlt).toNat < 48 ∨ 57 < (s[k]'hlt).toNat
          · have HS := hide (no_digit k hlt hbad)
            have c3 : (s[k]'hlt).toNat < 256 := UInt8.toNat_lt _
            have hin : inv ((s[k]'hlt).toNat : Int) 48 57 = false := by
              unfold inv; rcases hbad with h | h
              · rw [decide_eq_false (by omega)]; rfl
              · rw [decide_eq_false (p := ((s[k]'hlt).toNat : Int) ≤ 57) (by omega)]; simp
            clear hbad
            go_wp2_with (go_at_call 24; refine (specL1In _ _ _ _).mono ?_; rintro e w' ⟨rfl, rfl⟩)
            go_ret2
            exact ⟨ret_ib (parseV_no (unhide HS)).symm (unhide HS).symm, rfl⟩
          · have c1 : 48 ≤ (s[k]'hlt).toNat := by omega
            have c2 : (s[k]'hlt).toNat ≤ 57 := by omega
            have hin : inv ((s[k]'hlt).toNat : Int) 48 57 = true := by unfold inv; rw [decide_eq_true (by omega), decide_eq_true (by omega)]; rfl
            have HS := hide (show allTo digP s (k + 1) = true by rw [allTo_succ _ _ _ hlt, unhide Hall, digP_yes c1 c2]; rfl)
            have HN := hide (numTo_succ s k hlt)
            clear hbad
            generalize numTo s k = n at *
            go_wp2_with (go_at_call 24; refine (specL1In _ _ _ _).mono ?_; rintro e w' ⟨rfl, rfl⟩)
            go_round
            case rel => exact ⟨k + 1, by omega, by go_num, unhide HS, by rw [unhide HN]; go_num⟩
            case measure => simp [intOf]; omega
        · have ha : allB digP s = true := by rw [← allTo_end digP s k hlt]; exact unhide Hall
          rw [numTo_end s k hlt] at b0 b3 ⊢
          by_cases hg : 2147483647 < numTo s s.size
          · have HS := hide (no_great hg)
            generalize numTo s s.size = n at *
            clear ha
            go_wp2
            go_ret2
            exact ⟨ret_ib (parseV_no (unhide HS)).symm (unhide HS).symm, rfl⟩
          · have HS := hide (yes_parse hs1 (unhide Hn) ha (by omega))
            have HV := hide (parseV_yes (unhide HS))
            clear ha
            generalize numTo s s.size = n at *
            go_wp2
            go_ret2
            exact ⟨ret_ib (unhide HV).symm (unhide HS).symm, rfl⟩
    · have h1' : decide ((1 : Int) < (s.size : Int)) = false := decide_eq_false (by omega)
      clear hz
      go_enter Tryd.func9, Tryd.ntmps9
      go_wp2
      go_loop [4, 5] (fun n i => ∃ k : Nat, k ≤ s.size ∧ i = .int .i64 k ∧ allTo digP s k = true ∧ n = .int .i64 (numTo s k)) (fun _ i => s.size - (intOf i).toNat)
      case atStart => exact ⟨0, Nat.zero_le _, rfl, allTo_zero _ _, rfl⟩
      case round =>
        obtain ⟨k, hk, rfl, hall, rfl⟩ := hrel
        have b0 := numTo_nonneg s k hk hall
        have b1 := numTo_lt s k hk hall
        have b2 := pow_ten (k := k) (by omega)
        have b3 : numTo s k < 10000000000 := by omega
        clear b1 b2
        have Hall := hide hall
        clear hall
        by_cases hlt : k < s.size
        · by_cases hbad : (s[k]'hlt).toNat < 48 ∨ 57 < (s[k]'hlt).toNat
          · have HS := hide (no_digit k hlt hbad)
            have c3 : (s[k]'hlt).toNat < 256 := UInt8.toNat_lt _
            have hin : inv ((s[k]'hlt).toNat : Int) 48 57 = false := by
              unfold inv; rcases hbad with h | h
              · rw [decide_eq_false (by omega)]; rfl
              · rw [decide_eq_false (p := ((s[k]'hlt).toNat : Int) ≤ 57) (by omega)]; simp
            clear hbad
            go_wp2_with (go_at_call 24; refine (specL1In _ _ _ _).mono ?_; rintro e w' ⟨rfl, rfl⟩)
            go_ret2
            exact ⟨ret_ib (parseV_no (unhide HS)).symm (unhide HS).symm, rfl⟩
          · have c1 : 48 ≤ (s[k]'hlt).toNat := by omega
            have c2 : (s[k]'hlt).toNat ≤ 57 := by omega
            have hin : inv ((s[k]'hlt).toNat : Int) 48 57 = true := by unfold inv; rw [decide_eq_true (by omega), decide_eq_true (by omega)]; rfl
            have HS := hide (show allTo digP s (k + 1) = true by rw [allTo_succ _ _ _ hlt, unhide Hall, digP_yes c1 c2]; rfl)
            have HN := hide (numTo_succ s k hlt)
            clear hbad
            generalize numTo s k = n at *
            go_wp2_with (go_at_call 24; refine (specL1In _ _ _ _).mono ?_; rintro e w' ⟨rfl, rfl⟩)
            go_round
            case rel => exact ⟨k + 1, by omega, by go_num, unhide HS, by rw [unhide HN]; go_num⟩
            case measure => simp [intOf]; omega
        · have ha : allB digP s = true := by rw [← allTo_end digP s k hlt]; exact unhide Hall
          rw [numTo_end s k hlt] at b0 b3 ⊢
          by_cases hg : 2147483647 < numTo s s.size
          · have HS := hide (no_great hg)
            generalize numTo s s.size = n at *
            clear ha
            go_wp2
            go_ret2
            exact ⟨ret_ib (parseV_no (unhide HS)).symm (unhide HS).symm, rfl⟩
          · have HS := hide (yes_parse hs1 (unhide Hn) ha (by omega))
            have HV := hide (parseV_yes (unhide HS))
            clear ha
            generalize numTo s s.size = n at *
            go_wp2
            go_ret2
            exact ⟨ret_ib (unhide HV).symm (unhide HS).symm, rfl⟩
  exact fin (unhide Hz)

theorem implParseNum (s : ByteArray) (w : World) (hs : s.size ≤ maxLen) :
    Calls Tryd.prog 7 #[.string s] w fun e w' => e = .returned (.tuple #[.int .i64 (parseV s), .bool (parseB s)]) ∧ Below w.heap.size w w' := by
  unfold maxLen at hs
  by_cases h0 : s.size = 0
  · have HS := hide (no_empty h0)
    obtain rfl : s = ByteArray.empty := by simpa using h0
    go_enter Tryd.func7, Tryd.ntmps7
    go_wp2
    go_ret2
    exact ⟨ret_ib (parseV_no (unhide HS)).symm (unhide HS).symm, Below.refl _ _⟩
  have hne := ne_of_size h0
  have hs1 : 1 ≤ s.size := by omega
  by_cases hn : nought s = true
  · have HS := hide (no_nought hn)
    go_enter Tryd.func7, Tryd.ntmps7
    go_wp2_with (go_at_call 20; refine (implNought _ _).mono ?_; rintro e w' ⟨rfl, hw⟩; obtain rfl := hw.symm)
    go_ret2
    exact ⟨ret_ib (parseV_no (unhide HS)).symm (unhide HS).symm, Below.refl _ _⟩
  rw [Bool.not_eq_true] at hn
  go_enter Tryd.func7, Tryd.ntmps7
  go_wp2_with (go_at_call 20; refine (implNought _ _).mono ?_; rintro e w' ⟨rfl, hw⟩; obtain rfl := hw.symm)
  have Hn := hide hn
  clear hn
  go_loopw [4] (fun n wr => ∃ k : Nat, k ≤ s.size ∧ allTo digP s k = true ∧ numTo s k ≤ 2147483647 ∧ n = .int .i64 (numTo s k) ∧ wr = w.iter s k) (fun _ wr => s.size - wr.iterPos w.heap.size)
  case atStart => exact ⟨0, Nat.zero_le _, allTo_zero _ _, by rw [numTo_zero]; omega, rfl, rfl⟩
  case round =>
    obtain ⟨k, hk, hall, b3, rfl, rfl⟩ := hrel
    have b0 := numTo_nonneg s k hk hall
    have Hall := hide hall
    clear hall
    by_cases hlt : k < s.size
    · have hnx : ∀ ty, (Instr.next (.pointer (some ⟨w.heap.size, 0, none⟩)) true ty).run Tryd.prog (w.iter s k) = _ := fun ty => run_next_any w s k ty hlt
      rcases decode_bound s k hlt with ⟨ha, hd⟩ | ⟨ha, hb, hc⟩
      · simp only [hd] at hnx
        by_cases hbad : (s[k]'hlt).toNat < 48 ∨ 57 < (s[k]'hlt).toNat
        · have HS := hide (no_digit k hlt hbad)
          have hin : inv ((s[k]'hlt).toNat : Int) 48 57 = false := by
            unfold inv; rcases hbad with h | h
            · rw [decide_eq_false (by omega)]; rfl
            · rw [decide_eq_false (p := ((s[k]'hlt).toNat : Int) ≤ 57) (by omega)]; simp
          clear hbad
          go_wp2_with (go_at_call 21; refine (implIsDigit _ _).mono ?_; rintro e w' ⟨rfl, rfl⟩)
          go_ret2
          exact ⟨ret_ib (parseV_no (unhide HS)).symm (unhide HS).symm, bnew _ _⟩
        · have c1 : 48 ≤ (s[k]'hlt).toNat := by omega
          have c2 : (s[k]'hlt).toNat ≤ 57 := by omega
          have hin : inv ((s[k]'hlt).toNat : Int) 48 57 = true := by unfold inv; rw [decide_eq_true (by omega), decide_eq_true (by omega)]; rfl
          have ha1 : allTo digP s (k + 1) = true := by rw [allTo_succ _ _ _ hlt, unhide Hall, digP_yes c1 c2]; rfl
          have hn1 := numTo_succ s k hlt
          by_cases hg : 2147483647 < numTo s k * 10 + (((s[k]'hlt).toNat : Int) - 48)
          · have HS := hide (no_early (k + 1) (by omega) ha1 (by rw [hn1]; exact hg))
            clear hbad ha1 hn1
            generalize numTo s k = n at *
            go_wp2_with (go_at_call 21; refine (implIsDigit _ _).mono ?_; rintro e w' ⟨rfl, rfl⟩)
            go_ret2
            exact ⟨ret_ib (parseV_no (unhide HS)).symm (unhide HS).symm, bnew _ _⟩
          · have HS := hide ha1
            have HN := hide hn1
            clear hbad ha1 hn1
            generalize numTo s k = n at *
            go_wp2_with (go_at_call 21; refine (implIsDigit _ _).mono ?_; rintro e w' ⟨rfl, rfl⟩)
            go_roundw
            case rel => exact ⟨k + 1, by omega, unhide HS, by rw [unhide HN]; omega, by rw [unhide HN], rfl⟩
            case measure => simp; omega
      · have HS := hide (no_digit k hlt (by omega))
        generalize (Utf8.decode s k).1 = r at *
        generalize (Utf8.decode s k).2 = q at *
        have hin : inv (r : Int) 48 57 = false := by
          unfold inv; rw [decide_eq_false (p := (r : Int) ≤ 57) (by omega)]; simp
        go_wp2_with (go_at_call 21; refine (implIsDigit _ _).mono ?_; rintro e w' ⟨rfl, rfl⟩)
        go_ret2
        exact ⟨ret_ib (parseV_no (unhide HS)).symm (unhide HS).symm, bnew _ _⟩
    · have hnx : ∀ ty, (Instr.next (.pointer (some ⟨w.heap.size, 0, none⟩)) true ty).run Tryd.prog (w.iter s k) = _ := fun ty => run_next_end w s k ty hlt
      have ha : allB digP s = true := by rw [← allTo_end digP s k hlt]; exact unhide Hall
      rw [numTo_end s k hlt] at b0 b3 ⊢
      have HS := hide (yes_parse hs1 (unhide Hn) ha (by omega))
      have HV := hide (parseV_yes (unhide HS))
      clear ha
      generalize numTo s s.size = n at *
      go_wp2
      go_ret2
      exact ⟨ret_ib (unhide HV).symm (unhide HS).symm, bnew _ _⟩

end Go.Proofs.YthdbofgbcnacmaaDoor
