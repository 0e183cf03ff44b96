/-
  Contracts of chapter 1's functions on texts (names, plain texts), of the program and of the specification, over this seat's translation.
-/
import Derived.Test.YtjhlammjnggghaaNum
import Derived.Laws.RangeAny
namespace Go.Proofs.Ytjhlammjnggghaa
open Go.ChangeShapes Go.WideShapes Go.ChangeAt Go.RowKit
set_option linter.unusedVariables false
set_option maxRecDepth 100000

def allTo (p : Nat → Bool) (s : ByteArray) (k : Nat) : Bool := (s.data.toList.take k).all (fun c => p c.toNat)
def allB (p : Nat → Bool) (s : ByteArray) : Bool := s.data.toList.all (fun c => p c.toNat)
theorem allTo_zero (p : Nat → Bool) (s : ByteArray) : allTo p s 0 = true := by simp [allTo]
theorem allTo_succ (p : Nat → Bool) (s : ByteArray) (k : Nat) (h : k < s.size) : allTo p s (k + 1) = (allTo p s k && p (s[k]'h).toNat) := by
  unfold allTo
  rw [List.take_succ_eq_append_getElem (by simpa using h)]
  simp [List.all_append]
  rfl
theorem allTo_end (p : Nat → Bool) (s : ByteArray) (k : Nat) (h : ¬ k < s.size) : allTo p s k = allB p s := by
  unfold allTo allB
  rw [List.take_of_length_le (by simp; omega)]
theorem allB_false (p : Nat → Bool) (s : ByteArray) (k : Nat) (h : k < s.size) (hp : p (s[k]'h).toNat = false) : allB p s = false := by
  unfold allB
  rw [List.all_eq_false]
  refine ⟨s[k], ?_, by simp [hp]⟩
  show s.data[k] ∈ s.data.toList
  simp
def lowerP (c : Nat) : Bool := decide (97 ≤ c) && decide (c ≤ 122)
def plainP (c : Nat) : Bool := decide (32 ≤ c) && decide (c ≤ 126) && !(c == 34)
def nameB (s : ByteArray) : Bool := allB lowerP s && (decide (1 ≤ s.size) && decide (s.size ≤ 8))
def plainB (s : ByteArray) : Bool := allB plainP s && decide (s.size ≤ 20)
theorem lowerP_yes {c : Nat} (h : 97 ≤ c) (h' : c ≤ 122) : lowerP c = true := by simp [lowerP, h, h']
theorem lowerP_no {c : Nat} (h : c < 97 ∨ 122 < c) : lowerP c = false := by
  unfold lowerP; rcases h with h | h
  · rw [decide_eq_false (by omega)]; rfl
  · rw [decide_eq_false (p := c ≤ 122) (by omega)]; simp
theorem plainP_yes {c : Nat} (h : 32 ≤ c) (h' : c ≤ 126) (h'' : c ≠ 34) : plainP c = true := by simp [plainP, h, h', h'']
theorem plainP_no {c : Nat} (h : c < 32 ∨ 126 < c ∨ c = 34) : plainP c = false := by
  unfold plainP; rcases h with h | h | h
  · rw [decide_eq_false (by omega)]; rfl
  · rw [decide_eq_false (p := c ≤ 126) (by omega)]; simp
  · subst h; rfl

theorem ne_of_size {s : ByteArray} (h : s.size ≠ 0) : s.toList.isEmpty = false := by
  rw [ByteArray.toList_eq]
  cases hl : s.data.toList with
  | nil => exact absurd (by have := congrArg List.length hl; simpa using this) h
  | cons _ _ => rfl
theorem decode_bound (s : ByteArray) (pos : Nat) (h : pos < s.size) : ((s[pos]'h).toNat < 128 ∧ Utf8.decode s pos = ((s[pos]'h).toNat, 1)) ∨ (128 ≤ (s[pos]'h).toNat ∧ 128 ≤ (Utf8.decode s pos).1 ∧ (Utf8.decode s pos).1 ≤ 2147483647) := by
  by_cases ha : (s[pos]'h).toNat < 128
  · exact .inl ⟨ha, decode_ascii s pos h ha⟩
  · exact .inr ⟨by omega, (decode_high s pos h (by omega)).1, decode_le s pos⟩

def inv (x a b : Int) : Bool := decide (a ≤ x) && decide (x ≤ b)
theorem inv_nat (x a b : Nat) : (true && (decide (a ≤ x) && decide (x ≤ b))) = inv x a b := by
  unfold inv; rw [Bool.true_and]; congr 1 <;> exact decide_eq_decide.2 (by omega)
theorem specL1In (x a b : Int) (w : World) :
    Calls Try.prog 133 #[.int .i64 x, .int .i64 a, .int .i64 b] w fun e w' => e = .returned (.bool (inv x a b)) ∧ w' = w := by
  unfold inv
  by_cases h : a ≤ x
  · by_cases h' : x ≤ b
    · rw [decide_eq_true h, decide_eq_true h']
      go_enter Try.func133, Try.ntmps133
      go_wp2
      go_ret
      exact ⟨by simp, rfl⟩
    · rw [decide_eq_true h, decide_eq_false h']
      go_enter Try.func133, Try.ntmps133
      go_wp2
      go_ret
      exact ⟨by simp, rfl⟩
  · rw [decide_eq_false h]
    go_enter Try.func133, Try.ntmps133
    go_wp2
    go_ret
    exact ⟨by simp, rfl⟩

theorem specNameOk (s : ByteArray) (w : World) (hs : s.size ≤ maxLen) :
    Calls Try.prog 256 #[.string s] w fun e w' => e = .returned (.bool (nameB s)) ∧ w' = w := by
  unfold maxLen at hs
  go_enter Try.func256, Try.ntmps256
  go_wp2
  go_loop [3] (fun i => ∃ k : Nat, k ≤ s.size ∧ i = .int .i64 k ∧ allTo lowerP s k = true) (fun i => s.size - (intOf i).toNat)
  case atStart => exact ⟨0, Nat.zero_le _, rfl, allTo_zero _ _⟩
  case round =>
    obtain ⟨k, hk, rfl, hall⟩ := hrel
    have Hall := hide hall
    clear hall
    by_cases hlt : k < s.size
    · by_cases h1 : 97 ≤ (s[k]'hlt).toNat
      · by_cases h2 : (s[k]'hlt).toNat ≤ 122
        · have HS := hide (show allTo lowerP s (k + 1) = true by rw [allTo_succ _ _ _ hlt, unhide Hall, lowerP_yes h1 h2]; rfl)
          go_wp2
          go_round
          case rel => exact ⟨k + 1, by omega, by go_num, unhide HS⟩
          case measure => simp [intOf]; omega
        · have HS := hide (show nameB s = false by unfold nameB; rw [allB_false lowerP s k hlt (lowerP_no (by omega))]; rfl)
          go_wp2
          go_ret
          exact ⟨ret_bool (unhide HS).symm, rfl⟩
      · have HS := hide (show nameB s = false by unfold nameB; rw [allB_false lowerP s k hlt (lowerP_no (by omega))]; rfl)
        go_wp2
        go_ret
        exact ⟨ret_bool (unhide HS).symm, rfl⟩
    · have HS := hide (show nameB s = inv s.size 1 8 by unfold nameB; rw [← allTo_end lowerP s k hlt, unhide Hall]; exact inv_nat _ _ _)
      go_wp2_with (go_at_call 133; refine (specL1In _ _ _ _).mono ?_; rintro e w' ⟨rfl, rfl⟩)
      go_ret
      exact ⟨ret_bool (unhide HS).symm, rfl⟩

theorem implNameOk (s : ByteArray) (w : World) (hs : s.size ≤ maxLen) :
    Calls Try.prog 254 #[.string s] w fun e w' => e = .returned (.bool (nameB s)) ∧ Below w.heap.size w w' := by
  unfold maxLen at hs
  by_cases h0 : s.size = 0
  · have HS := hide (show nameB s = false by unfold nameB; rw [h0]; simp)
    obtain rfl : s = ByteArray.empty := by simpa using h0
    go_enter Try.func254, Try.ntmps254
    go_wp2
    go_ret
    exact ⟨ret_bool (unhide HS).symm, Below.refl _ _⟩
  · have hne := ne_of_size h0
    by_cases h8 : 8 < s.size
    · have HS := hide (show nameB s = false by unfold nameB; rw [decide_eq_false (p := s.size ≤ 8) (by omega)]; simp)
      go_enter Try.func254, Try.ntmps254
      go_wp2
      go_ret
      exact ⟨ret_bool (unhide HS).symm, Below.refl _ _⟩
    · have hle : decide ((8 : Int) < (s.size : Int)) = false := decide_eq_false (by omega)
      go_enter Try.func254, Try.ntmps254
      go_wp2
      go_loopw [] (fun wr => ∃ k : Nat, k ≤ s.size ∧ allTo lowerP s k = true ∧ wr = w.iter s k) (fun wr => s.size - wr.iterPos w.heap.size)
      case atStart => exact ⟨0, Nat.zero_le _, allTo_zero _ _, rfl⟩
      case round =>
        obtain ⟨k, hk, hall, rfl⟩ := hrel
        have Hall := hide hall
        clear hall
        by_cases hlt : k < s.size
        · have hnx : ∀ ty, (Instr.next (.pointer (some ⟨w.heap.size, 0, none⟩)) true ty).run Try.prog (w.iter s k) = _ := fun ty => run_next_any w s k ty hlt
          rcases decode_bound s k hlt with ⟨ha, hd⟩ | ⟨ha, hb, hc⟩
          · simp only [hd] at hnx
            by_cases h1 : 97 ≤ (s[k]'hlt).toNat
            · by_cases h2 : (s[k]'hlt).toNat ≤ 122
              · have HS := hide (show allTo lowerP s (k + 1) = true by rw [allTo_succ _ _ _ hlt, unhide Hall, lowerP_yes h1 h2]; rfl)
                go_wp2
                go_roundw
                case rel => exact ⟨k + 1, by omega, unhide HS, rfl⟩
                case measure => simp; omega
              · have HS := hide (show nameB s = false by unfold nameB; rw [allB_false lowerP s k hlt (lowerP_no (by omega))]; rfl)
                go_wp2
                go_ret
                exact ⟨ret_bool (unhide HS).symm, bnew _ _⟩
            · have HS := hide (show nameB s = false by unfold nameB; rw [allB_false lowerP s k hlt (lowerP_no (by omega))]; rfl)
              go_wp2
              go_ret
              exact ⟨ret_bool (unhide HS).symm, bnew _ _⟩
          · have HS := hide (show nameB s = false by unfold nameB; rw [allB_false lowerP s k hlt (lowerP_no (by omega))]; rfl)
            generalize (Utf8.decode s k).1 = r at *
            generalize (Utf8.decode s k).2 = q at *
            go_wp2
            go_ret
            exact ⟨ret_bool (unhide HS).symm, bnew _ _⟩
        · have hnx : ∀ ty, (Instr.next (.pointer (some ⟨w.heap.size, 0, none⟩)) true ty).run Try.prog (w.iter s k) = _ := fun ty => run_next_end w s k ty hlt
          have HS := hide (show nameB s = true by unfold nameB; rw [← allTo_end lowerP s k hlt, unhide Hall, decide_eq_true (by omega), decide_eq_true (by omega)]; rfl)
          go_wp2
          go_ret
          exact ⟨ret_bool (unhide HS).symm, bnew _ _⟩

theorem specPlainOk (s : ByteArray) (w : World) (hs : s.size ≤ maxLen) :
    Calls Try.prog 257 #[.string s] w fun e w' => e = .returned (.bool (plainB s)) ∧ w' = w := by
  unfold maxLen at hs
  go_enter Try.func257, Try.ntmps257
  go_wp2
  go_loop [3] (fun i => ∃ k : Nat, k ≤ s.size ∧ i = .int .i64 k ∧ allTo plainP s k = true) (fun i => s.size - (intOf i).toNat)
  case atStart => exact ⟨0, Nat.zero_le _, rfl, allTo_zero _ _⟩
  case round =>
    obtain ⟨k, hk, rfl, hall⟩ := hrel
    have Hall := hide hall
    clear hall
    by_cases hlt : k < s.size
    · by_cases hbad : (s[k]'hlt).toNat < 32 ∨ 126 < (s[k]'hlt).toNat ∨ (s[k]'hlt).toNat = 34
      · have HS := hide (show plainB s = false by unfold plainB; rw [allB_false plainP s k hlt (plainP_no hbad)]; rfl)
        rcases hbad with h1 | h1 | h1
        · go_wp2
          go_ret
          exact ⟨ret_bool (unhide HS).symm, rfl⟩
        · have h2 : ¬ ((s[k]'hlt).toNat : Int) < 32 := by omega
          have h3 : (126 : Int) < ((s[k]'hlt).toNat : Int) := by omega
          go_wp2
          go_ret
          exact ⟨ret_bool (unhide HS).symm, rfl⟩
        · have h2 : decide (((s[k]'hlt).toNat : Int) < 32) = false := decide_eq_false (by omega)
          have h3 : decide ((126 : Int) < ((s[k]'hlt).toNat : Int)) = false := decide_eq_false (by omega)
          have h4 : (((s[k]'hlt).toNat : Int) == 34) = true := by rw [h1]; rfl
          clear h1
          go_wp2
          go_ret
          exact ⟨ret_bool (unhide HS).symm, rfl⟩
      · have h1 : 32 ≤ (s[k]'hlt).toNat := by omega
        have h2 : (s[k]'hlt).toNat ≤ 126 := by omega
        have h3 : (s[k]'hlt).toNat ≠ 34 := by omega
        have HS := hide (show allTo plainP s (k + 1) = true by rw [allTo_succ _ _ _ hlt, unhide Hall, plainP_yes h1 h2 h3]; rfl)
        have g1 : decide (((s[k]'hlt).toNat : Int) < 32) = false := decide_eq_false (by omega)
        have g2 : decide ((126 : Int) < ((s[k]'hlt).toNat : Int)) = false := decide_eq_false (by omega)
        have g3 : (((s[k]'hlt).toNat : Int) == 34) = false := beq_eq_false_iff_ne.2 (by omega)
        clear hbad h1 h2 h3
        go_wp2
        go_round
        case rel => exact ⟨k + 1, by omega, by go_num, unhide HS⟩
        case measure => simp [intOf]; omega
    · have HS := hide (show plainB s = decide ((s.size : Int) ≤ 20) by unfold plainB; rw [← allTo_end plainP s k hlt, unhide Hall, Bool.true_and]; exact decide_eq_decide.2 (by omega))
      go_wp2
      go_ret
      exact ⟨ret_bool (unhide HS).symm, rfl⟩

theorem implPlainOk (s : ByteArray) (w : World) (hs : s.size ≤ maxLen) :
    Calls Try.prog 307 #[.string s] w fun e w' => e = .returned (.bool (plainB s)) ∧ Below w.heap.size w w' := by
  unfold maxLen at hs
  by_cases h8 : 20 < s.size
  · have HS := hide (show plainB s = false by unfold plainB; rw [decide_eq_false (p := s.size ≤ 20) (by omega)]; simp)
    go_enter Try.func307, Try.ntmps307
    go_wp2
    go_ret
    exact ⟨ret_bool (unhide HS).symm, Below.refl _ _⟩
  · have hle : decide ((20 : Int) < (s.size : Int)) = false := decide_eq_false (by omega)
    go_enter Try.func307, Try.ntmps307
    go_wp2
    go_loopw [] (fun wr => ∃ k : Nat, k ≤ s.size ∧ allTo plainP s k = true ∧ wr = w.iter s k) (fun wr => s.size - wr.iterPos w.heap.size)
    case atStart => exact ⟨0, Nat.zero_le _, allTo_zero _ _, rfl⟩
    case round =>
      obtain ⟨k, hk, hall, rfl⟩ := hrel
      have Hall := hide hall
      clear hall
      by_cases hlt : k < s.size
      · have hnx : ∀ ty, (Instr.next (.pointer (some ⟨w.heap.size, 0, none⟩)) true ty).run Try.prog (w.iter s k) = _ := fun ty => run_next_any w s k ty hlt
        rcases decode_bound s k hlt with ⟨ha, hd⟩ | ⟨ha, hb, hc⟩
        · simp only [hd] at hnx
          by_cases hbad : (s[k]'hlt).toNat < 32 ∨ 126 < (s[k]'hlt).toNat ∨ (s[k]'hlt).toNat = 34
          · have HS := hide (show plainB s = false by unfold plainB; rw [allB_false plainP s k hlt (plainP_no hbad)]; rfl)
            rcases hbad with h1 | h1 | h1
            · go_wp2
              go_ret
              exact ⟨ret_bool (unhide HS).symm, bnew _ _⟩
            · have h2 : ¬ ((s[k]'hlt).toNat : Int) < 32 := by omega
              have h3 : (126 : Int) < ((s[k]'hlt).toNat : Int) := by omega
              go_wp2
              go_ret
              exact ⟨ret_bool (unhide HS).symm, bnew _ _⟩
            · have h2 : decide (((s[k]'hlt).toNat : Int) < 32) = false := decide_eq_false (by omega)
              have h3 : decide ((126 : Int) < ((s[k]'hlt).toNat : Int)) = false := decide_eq_false (by omega)
              have h4 : (((s[k]'hlt).toNat : Int) == 34) = true := by rw [h1]; rfl
              clear h1
              go_wp2
              go_ret
              exact ⟨ret_bool (unhide HS).symm, bnew _ _⟩
          · have h1 : 32 ≤ (s[k]'hlt).toNat := by omega
            have h2 : (s[k]'hlt).toNat ≤ 126 := by omega
            have h3 : (s[k]'hlt).toNat ≠ 34 := by omega
            have HS := hide (show allTo plainP s (k + 1) = true by rw [allTo_succ _ _ _ hlt, unhide Hall, plainP_yes h1 h2 h3]; rfl)
            have g1 : decide (((s[k]'hlt).toNat : Int) < 32) = false := decide_eq_false (by omega)
            have g2 : decide ((126 : Int) < ((s[k]'hlt).toNat : Int)) = false := decide_eq_false (by omega)
            have g3 : (((s[k]'hlt).toNat : Int) == 34) = false := beq_eq_false_iff_ne.2 (by omega)
            clear hbad h1 h2 h3
            go_wp2
            go_roundw
            case rel => exact ⟨k + 1, by omega, unhide HS, rfl⟩
            case measure => simp; omega
        · have HS := hide (show plainB s = false by unfold plainB; rw [allB_false plainP s k hlt (plainP_no (by omega))]; rfl)
          generalize (Utf8.decode s k).1 = r at *
          generalize (Utf8.decode s k).2 = q at *
          have g1 : ¬ (r : Int) < 32 := by omega
          have g2 : (126 : Int) < (r : Int) := by omega
          go_wp2
          go_ret
          exact ⟨ret_bool (unhide HS).symm, bnew _ _⟩
      · have hnx : ∀ ty, (Instr.next (.pointer (some ⟨w.heap.size, 0, none⟩)) true ty).run Try.prog (w.iter s k) = _ := fun ty => run_next_end w s k ty hlt
        have HS := hide (show plainB s = true by unfold plainB; rw [← allTo_end plainP s k hlt, unhide Hall, decide_eq_true (by omega)]; rfl)
        go_wp2
        go_ret
        exact ⟨ret_bool (unhide HS).symm, bnew _ _⟩

end Go.Proofs.Ytjhlammjnggghaa
