/-
  Numbers come back of their digits: the plain facts, and the drawing of a number's text, over this seat's translation.
-/
import Derived.Test.YthdbofgbcnacmaaDoorDrawStr
import Derived.Test.YthdbofgbcnacmaaDoorParse1
import Derived.Test.YthdbofgbcnacmaaDoorNumText
namespace Go.Proofs.YthdbofgbcnacmaaDoor
open Go.ChangeShapes Go.WideShapes Go.ChangeAt Go.RowKit
set_option linter.unusedVariables false

def bytesOf (l : List UInt8) : ByteArray := ⟨l.toArray⟩
theorem bytesOf_size (l : List UInt8) : (bytesOf l).size = l.length := by simp [bytesOf, ByteArray.size]
theorem numL_snoc (l : List UInt8) (c : UInt8) : numL (l ++ [c]) = numL l * 10 + ((c.toNat : Int) - 48) := by simp [numL, List.foldl_append]
theorem digit_toNat {d : Nat} (h : d < 10) : (UInt8.ofNat (48 + d)).toNat = 48 + d := by simp [UInt8.toNat_ofNat]; omega
theorem dec_all (u : Nat) : ((Lib.decDigits u).all fun c => digP c.toNat) = true := by
  induction u using Nat.strongRecOn with
  | _ u ih =>
    rw [Lib.decDigits]
    by_cases h : u < 10
    · rw [dif_pos h]
      simp only [List.all_cons, List.all_nil, Bool.and_true]
      rw [digit_toNat h]
      exact digP_yes (by omega) (by omega)
    · rw [dif_neg h, List.all_append, ih (u / 10) (by omega)]
      simp only [List.all_cons, List.all_nil, Bool.and_true, Bool.true_and]
      rw [digit_toNat (by omega)]
      exact digP_yes (by omega) (by omega)
theorem dec_num (u : Nat) : numL (Lib.decDigits u) = u := by
  induction u using Nat.strongRecOn with
  | _ u ih =>
    rw [Lib.decDigits]
    by_cases h : u < 10
    · rw [dif_pos h]
      show (0 : Int) * 10 + (((UInt8.ofNat (48 + u)).toNat : Int) - 48) = u
      rw [digit_toNat h]; omega
    · rw [dif_neg h, numL_snoc, ih (u / 10) (by omega), digit_toNat (by omega)]
      omega
theorem dec_ne (u : Nat) : 1 ≤ (Lib.decDigits u).length := by
  rw [Lib.decDigits]
  by_cases h : u < 10
  · rw [dif_pos h]; simp
  · rw [dif_neg h]; simp
theorem dec_head (u : Nat) (hu : 0 < u) : ∀ c, (Lib.decDigits u)[0]? = some c → c.toNat ≠ 48 := by
  induction u using Nat.strongRecOn with
  | _ u ih =>
    intro c hc
    rw [Lib.decDigits] at hc
    by_cases h : u < 10
    · rw [dif_pos h] at hc
      have hc' : UInt8.ofNat (48 + u) = c := by simpa using hc
      rw [← hc', digit_toNat h]
      omega
    · rw [dif_neg h] at hc
      have h1 := dec_ne (u / 10)
      rw [List.getElem?_append_left (by omega)] at hc
      exact ih (u / 10) (by omega) (by omega) c hc
theorem dec_one {u : Nat} (h : u < 10) : (Lib.decDigits u).length = 1 := by rw [Lib.decDigits, dif_pos h]; rfl
theorem dec_len (k : Nat) : ∀ u, u < 10 ^ (k + 1) → (Lib.decDigits u).length ≤ k + 1 := by
  induction k with
  | zero => intro u h; rw [dec_one (by simpa using h)]; exact Nat.le_refl _
  | succ k ih =>
    intro u h
    by_cases h10 : u < 10
    · rw [dec_one h10]; omega
    · rw [Lib.decDigits, dif_neg h10]
      have := ih (u / 10) (by rw [Nat.pow_succ] at h; omega)
      simp
      omega
theorem itoa_len (n : Int) (h : In64 n) : (Lib.itoa n).length ≤ 20 := by
  obtain ⟨h0, h1⟩ := h
  have e : (10 : Nat) ^ (18 + 1) = 10000000000000000000 := by decide
  unfold Lib.itoa
  split
  · have := dec_len 18 n.natAbs (by rw [e]; omega)
    simp; omega
  · have := dec_len 18 n.toNat (by rw [e]; omega)
    omega
theorem itoa_size (n : Int) (h : In64 n) : (⟨(Lib.itoa n).toArray⟩ : ByteArray).size ≤ 40 := by
  have := itoa_len n h
  simp [ByteArray.size]; omega
theorem numTo_all (l : List UInt8) : numTo (bytesOf l) (bytesOf l).size = numL l := by
  unfold numTo
  rw [List.take_of_length_le (by simp)]
  rfl
theorem nought_dec (u : Nat) : nought (bytesOf (Lib.decDigits u)) = false := by
  unfold nought
  split
  · rename_i h
    rw [bytesOf_size] at h
    have hu : 10 ≤ u := by
      by_cases h10 : u < 10
      · rw [dec_one h10] at h; omega
      · omega
    rw [beq_eq_false_iff_ne]
    intro e
    refine dec_head u (by omega) ((bytesOf (Lib.decDigits u))[0]'(by rw [bytesOf_size]; omega)) ?_ (by omega)
    rw [List.getElem?_eq_getElem (by omega)]
    rfl
  · rfl
theorem parse_dec (u : Nat) : parseB (bytesOf (Lib.decDigits u)) = decide ((u : Int) ≤ 2147483647) := by
  have hn : numTo (bytesOf (Lib.decDigits u)) (bytesOf (Lib.decDigits u)).size = u := by rw [numTo_all, dec_num]
  have ha : allB digP (bytesOf (Lib.decDigits u)) = true := dec_all u
  by_cases h : (u : Int) ≤ 2147483647
  · rw [decide_eq_true h]
    exact yes_parse (by rw [bytesOf_size]; exact dec_ne u) (nought_dec u) ha (by rw [hn]; exact h)
  · rw [decide_eq_false h]
    exact no_great (by rw [hn]; omega)
theorem parse_itoa_neg {n : Int} (h : n < 0) : parseB ⟨(Lib.itoa n).toArray⟩ = false := by
  have e : Lib.itoa n = 45 :: Lib.decDigits n.natAbs := by unfold Lib.itoa; rw [if_pos h]
  rw [e]
  refine no_digit (s := ⟨(45 :: Lib.decDigits n.natAbs).toArray⟩) 0 (by simp [ByteArray.size]) (.inl ?_)
  show ((45 : UInt8)).toNat < 48
  decide
theorem itoa_pos {n : Int} (h : 0 ≤ n) : Lib.itoa n = Lib.decDigits n.toNat := by unfold Lib.itoa; rw [if_neg (by omega)]
theorem parse_itoa_great {n : Int} (h : 2147483647 < n) : parseB ⟨(Lib.itoa n).toArray⟩ = false := by
  rw [itoa_pos (by omega)]
  have := parse_dec n.toNat
  rw [decide_eq_false (by omega)] at this
  exact this
theorem parse_itoa_yes {n : Int} (h0 : 0 ≤ n) (h1 : n ≤ 2147483647) : parseB ⟨(Lib.itoa n).toArray⟩ = true ∧ parseV ⟨(Lib.itoa n).toArray⟩ = n := by
  rw [itoa_pos h0]
  have hb := parse_dec n.toNat
  rw [decide_eq_true (by omega)] at hb
  refine ⟨hb, ?_⟩
  have : parseV (bytesOf (Lib.decDigits n.toNat)) = n := by rw [parseV_yes hb, numTo_all, dec_num]; omega
  exact this
theorem dec_take (s : ByteArray) (ha : allB digP s = true) (hn : nought s = false) (k : Nat) (hk : k + 1 ≤ s.size) :
    Lib.decDigits (numTo s (k + 1)).toNat = s.data.toList.take (k + 1) := by
  induction k with
  | zero =>
    have hd := digP_of (allB_at digP s 0 (by omega) ha)
    have e : (numTo s (0 + 1)).toNat = (s[0]'(by omega)).toNat - 48 := by rw [numTo_succ s 0 (by omega), numTo_zero]; omega
    rw [e, List.take_succ_eq_append_getElem (by simp; omega), Lib.decDigits, dif_pos (by omega), show 48 + ((s[0]'(by omega)).toNat - 48) = (s[0]'(by omega)).toNat by omega, UInt8.ofNat_toNat]
    rfl
  | succ k ih =>
    have hd := digP_of (allB_at digP s (k + 1) (by omega) ha)
    have h0 : (s[0]'(by omega)).toNat ≠ 48 := by
      intro e
      unfold nought at hn
      rw [dif_pos (by omega)] at hn
      rw [beq_eq_false_iff_ne] at hn
      omega
    have hbig := numTo_big s k (by omega) ha h0
    have hpow : (1 : Int) ≤ 10 ^ k := Int.pow_pos (by omega)
    have e : (numTo s (k + 1 + 1)).toNat = 10 * (numTo s (k + 1)).toNat + ((s[k + 1]'(by omega)).toNat - 48) := by rw [numTo_succ s (k + 1) (by omega)]; omega
    rw [e, List.take_succ_eq_append_getElem (by simp; omega), ← ih (by omega), Lib.decDigits, dif_neg (by omega)]
    have e1 : (10 * (numTo s (k + 1)).toNat + ((s[k + 1]'(by omega)).toNat - 48)) / 10 = (numTo s (k + 1)).toNat := by omega
    have e2 : 48 + (10 * (numTo s (k + 1)).toNat + ((s[k + 1]'(by omega)).toNat - 48)) % 10 = (s[k + 1]'(by omega)).toNat := by omega
    rw [e1, e2, UInt8.ofNat_toNat]
    rfl
theorem itoa_parse {s : ByteArray} (h : parseB s = true) : (⟨(Lib.itoa (parseV s)).toArray⟩ : ByteArray) = s ∧ In64 (parseV s) := by
  have hv := parseV_yes h
  unfold parseB at h
  simp only [Bool.and_eq_true, decide_eq_true_eq, Bool.not_eq_true'] at h
  obtain ⟨⟨⟨⟨h1, h10⟩, hn⟩, ha⟩, hg⟩ := h
  have hnn := numTo_nonneg s s.size (Nat.le_refl _) (by rw [allTo_end digP s s.size (by omega)]; exact ha)
  refine ⟨?_, by rw [hv]; exact ⟨by omega, by omega⟩⟩
  rw [itoa_pos (by rw [hv]; exact hnn), hv]
  have := dec_take s ha hn (s.size - 1) (by omega)
  rw [show s.size - 1 + 1 = s.size by omega] at this
  rw [this, List.take_of_length_le (by simp)]

theorem DrawParseNum_any (a : Option Addr) (len cap : Nat) (w : World) (hl : len ≤ 1048576) (hy : Bytes w a len) :
    Calls Tryd.prog 8 #[.slice a len cap] w fun e w' => (∃ x : ByteArray, e = .returned (.string x) ∧ x.size ≤ 40) ∧ Below w.heap.size w w' := by
  go_enter Tryd.func8, Tryd.ntmps8
  go_wp2_with fail
  refine (l1New_any a len cap w hl hy).mono ?_
  rintro e w1 ⟨b, rfl, hb, hc1, hw1⟩
  go_wp2_with fail
  refine (l1Once_any b 2 (by omega) w1 hc1).mono ?_
  rintro e w2 ⟨⟨x, rfl⟩, hc2, ht2⟩
  clear hc1
  have hlt := hc2.lt
  cases x with
  | true =>
    go_wp2_with fail
    refine (l1Str_any b w2.heap.size [⟨#[]⟩, ⟨#[48]⟩, ⟨#[48, 48]⟩, ⟨#[48, 49]⟩, ⟨#[55]⟩, ⟨#[50, 49, 52, 55, 52, 56, 51, 54, 52, 55]⟩, ⟨#[50, 49, 52, 55, 52, 56, 51, 54, 52, 56]⟩, ⟨#[57, 57, 57, 57, 57, 57, 57, 57, 57, 57, 57]⟩, ⟨#[45, 49]⟩, ⟨#[49, 120]⟩, ⟨#[32, 49]⟩] 11 _ (hc2.keep (bnew _ _)) (by omega) (by simp) (by simp) (by simp) ?_).mono ?_
    · exact cells_strs w2 9 [⟨#[]⟩, ⟨#[48]⟩, ⟨#[48, 48]⟩, ⟨#[48, 49]⟩, ⟨#[55]⟩, ⟨#[50, 49, 52, 55, 52, 56, 51, 54, 52, 55]⟩, ⟨#[50, 49, 52, 55, 52, 56, 51, 54, 52, 56]⟩, ⟨#[57, 57, 57, 57, 57, 57, 57, 57, 57, 57, 57]⟩, ⟨#[45, 49]⟩, ⟨#[49, 120]⟩, ⟨#[32, 49]⟩]
    rintro e w3 ⟨⟨y, rfl, hy⟩, hc3, ht3⟩
    clear hc2
    have HX := hide (short_of (by decide) hy)
    clear hy
    go_wp2
    go_ret
    exact ⟨⟨_, rfl, unhide HX⟩, hw1.trans ((ht2.trans (((Turns.refl _ _).alloc _).trans ht3)).below hb hw1.size)⟩
  | false =>
    go_wp2_with fail
    refine (l1Raw_any b w2 hc2).mono ?_
    rintro e w3 ⟨⟨y, rfl, hy⟩, hc3, ht3⟩
    clear hc2
    go_wp2_with fail
    refine (specNumText y hy.1 hy.2 w3).mono ?_
    rintro e w4 ⟨rfl, hb4⟩
    go_wp2
    go_ret
    exact ⟨⟨_, rfl, itoa_size y hy⟩, hw1.trans ((ht2.trans (ht3.trans (.of_below hb4))).below hb hw1.size)⟩

end Go.Proofs.YthdbofgbcnacmaaDoor
