/-
  Contracts of chapter 2's AttrText, of the program and of the specification (the program's numbers are told by strconv.Itoa: its table of powers of ten is a hypothesis).
-/
import Derived.Test.YtchinpgjaddnkaaDoorAttr
import Derived.Test.YtchinpgjaddnkaaDoorNumText
import Derived.Deep.RegionHeld3
import Derived.Laws.Concat
namespace Go.Proofs.YtchinpgjaddnkaaDoor
open Go.ChangeShapes Go.WideShapes Go.ChangeAt Go.RowKit
set_option linter.unusedVariables false
set_option maxRecDepth 100000

theorem dec_one' {u : Nat} (h : u < 10) : (Lib.decDigits u).length = 1 := by rw [Lib.decDigits, dif_pos h]; rfl
theorem dec_len' (k : Nat) : ∀ u, u < 10 ^ (k + 1) → (Lib.decDigits u).length ≤ k + 1 := by
  induction k with
  | zero => intro u h; rw [dec_one' (by simpa using h)]; exact Nat.le_refl _
  | succ k ih =>
    intro u h
    by_cases h10 : u < 10
    · rw [dec_one' h10]; omega
    · rw [Lib.decDigits, dif_neg h10]
      have := ih (u / 10) (by rw [Nat.pow_succ] at h; omega)
      simp
      omega
def numT (n : Int) : ByteArray := ⟨(Lib.itoa n).toArray⟩
theorem numT_size (n : Int) (h0 : 0 ≤ n) (h1 : n ≤ 2147483647) : (numT n).size ≤ 40 := by
  have e : (10 : Nat) ^ (18 + 1) = 10000000000000000000 := by decide
  have : (Lib.itoa n).length ≤ 20 := by
    unfold Lib.itoa
    split
    · omega
    · have := dec_len' 18 n.toNat (by rw [e]; omega)
      omega
  simp [numT, ByteArray.size]; omega
theorem name_size {s : ByteArray} (h : nameB s = true) : s.size ≤ 8 := by
  simp only [nameB, Bool.and_eq_true, decide_eq_true_eq] at h
  omega
theorem plain_size {s : ByteArray} (h : plainB s = true) : s.size ≤ 20 := by
  simp only [plainB, Bool.and_eq_true, decide_eq_true_eq] at h
  omega
def textN (k : ByteArray) (n : Int) : ByteArray := (k ++ ⟨#[61]⟩) ++ numT n
def textT (k t : ByteArray) : ByteArray := ((k ++ ⟨#[61, 34]⟩) ++ t) ++ ⟨#[34]⟩
def attrT (k : ByteArray) (b : Bool) (n : Int) (t : ByteArray) : ByteArray := if attrB k b n t then (if b then textN k n else textT k t) else ⟨#[]⟩
theorem textT_eq (k t : ByteArray) : (k ++ ⟨#[61]⟩) ++ ((⟨#[34]⟩ ++ t) ++ ⟨#[34]⟩) = textT k t := by
  unfold textT
  have e : ∀ x y z : ByteArray, (x ++ y) ++ z = x ++ (y ++ z) := fun x y z => by apply ByteArray.ext; simp [ByteArray.data_append]
  rw [show (⟨#[61, 34]⟩ : ByteArray) = ⟨#[61]⟩ ++ ⟨#[34]⟩ from rfl, e, e, e, e, e]

set_option maxHeartbeats 2000000 in
theorem specAttrText (k : ByteArray) (b : Bool) (n : Int) (t : ByteArray) (w : World) (hk : k.size ≤ maxLen) (ht : t.size ≤ maxLen) :
    Calls Tryd.prog 40 #[.agg #[.string k, .bool b, .int .i64 n, .string t]] w fun e w' => e = .returned (.string (attrT k b n t)) ∧ Below w.heap.size w w' := by
  cases hA : attrB k b n t
  case false =>
    simp only [attrT, hA, Bool.false_eq_true, if_false]
    go_enter Tryd.func40, Tryd.ntmps40
    go_wp2_with fail
    refine (specAttrOk k b n t _ hk ht).mono ?_
    rintro e w1 ⟨rfl, rfl⟩
    rw [hA]
    go_wp2
    go_ret
    exact ⟨rfl, by (repeat (first | with_reducible assumption | with_reducible exact Below.refl _ _ | with_reducible refine Below.drew ?_ | with_reducible refine bdrewN ?_ _ | (with_reducible refine Below.alloc ?_ ?side _; case side => (first | omega | (simp [go_sem]; done) | (simp [go_sem]; omega))) | (with_reducible refine Below.setCell ?_ ?side _; case side => (first | omega | (simp [go_sem]; done) | (simp [go_sem]; omega)))))⟩
  have hA' := hA
  rw [attrB, Bool.and_eq_true] at hA'
  obtain ⟨hn, hrest⟩ := hA'
  have hk8 := name_size hn
  cases b
  case true =>
    simp only [if_true, Bool.and_eq_true, inB_iff] at hrest
    obtain ⟨⟨hlo, hhi⟩, _⟩ := hrest
    have hs := numT_size n hlo hhi
    have hk1 : (k ++ (⟨#[61]⟩ : ByteArray)).size ≤ 9 := by rw [ByteArray.size_append]; show k.size + 1 ≤ 9; omega
    have hz : (⟨#[61]⟩ : ByteArray).size = 1 := rfl
    have hq1 : ¬ 9223372036854775807 < k.size + 1 := by omega
    have hq2 : ¬ 9223372036854775807 < k.size + 1 + (numT n).size := by omega
    have hq3 : k.size + 1 ≤ 9223372036854775807 := by omega
    have hq4 : k.size + 1 + (numT n).size ≤ 9223372036854775807 := by omega
    have hq5 : (k.size : Int) + 1 ≤ 9223372036854775807 := by omega
    have hq6 : (k.size : Int) + 1 + ((numT n).size : Int) ≤ 9223372036854775807 := by omega
    simp only [attrT, hA, if_true, textN]
    go_enter Tryd.func40, Tryd.ntmps40
    go_wp2_with fail
    refine (specAttrOk k true n t _ hk ht).mono ?_
    rintro e w1 ⟨rfl, rfl⟩
    rw [hA]
    go_wp2_with fail
    go_region_held3 (fun w' => w'.cell? ⟨w.heap.size, 0, none⟩ = some (.string k) ∧ w'.cell? ⟨w.heap.size, 2, none⟩ = some (.int .i64 n)) (first | go_keep | (refine ⟨?_, ?_⟩ <;> (rw [hb2.cell (by simp [go_sem])]; simp [go_sem])))
      (first | (go_at_call 39; refine (specNumText n (by omega) (by omega) _).mono ?_; rintro e w2 ⟨rfl, hb2⟩; rw [show (⟨(Lib.itoa n).toArray⟩ : ByteArray) = numT n from rfl]))
    all_goals (go_wp2; go_ret; exact ⟨rfl, bthen (by (repeat (first | with_reducible assumption | with_reducible exact Below.refl _ _ | with_reducible refine Below.drew ?_ | with_reducible refine bdrewN ?_ _ | (with_reducible refine Below.alloc ?_ ?side _; case side => (first | omega | (simp [go_sem]; done) | (simp [go_sem]; omega))) | (with_reducible refine Below.setCell ?_ ?side _; case side => (first | omega | (simp [go_sem]; done) | (simp [go_sem]; omega)))))) hb2⟩)
  case false =>
    simp only [Bool.false_eq_true, if_false, Bool.and_eq_true] at hrest
    have ht20 := plain_size hrest.2
    simp only [attrT, hA, if_true, Bool.false_eq_true, if_false, textT]
    have hz : (⟨#[61, 34]⟩ : ByteArray).size = 2 := rfl
    have hk1 : (k ++ (⟨#[61, 34]⟩ : ByteArray)).size ≤ 10 := by rw [ByteArray.size_append]; show k.size + 2 ≤ 10; omega
    have hk2 : ((k ++ (⟨#[61, 34]⟩ : ByteArray)) ++ t).size ≤ 30 := by rw [ByteArray.size_append]; omega
    have hz1 : (⟨#[34]⟩ : ByteArray).size = 1 := rfl
    go_enter Tryd.func40, Tryd.ntmps40
    go_wp2_with fail
    refine (specAttrOk k false n t _ hk ht).mono ?_
    rintro e w1 ⟨rfl, rfl⟩
    rw [hA]
    go_wp2
    go_ret
    exact ⟨rfl, by (repeat (first | with_reducible assumption | with_reducible exact Below.refl _ _ | with_reducible refine Below.drew ?_ | with_reducible refine bdrewN ?_ _ | (with_reducible refine Below.alloc ?_ ?side _; case side => (first | omega | (simp [go_sem]; done) | (simp [go_sem]; omega))) | (with_reducible refine Below.setCell ?_ ?side _; case side => (first | omega | (simp [go_sem]; done) | (simp [go_sem]; omega)))))⟩

theorem implWordN (n : Int) (t : ByteArray) (w : World) (h0 : 0 ≤ n) (h1 : n ≤ 2147483647) (htab : Lib.TabIs Tryd.prog w "internal/strconv.uint64pow10" .u64 Lib.pow10Tab) :
    Calls Tryd.prog 53 #[.iface 85 (.agg #[.int .i64 n, .string t])] w fun e w' => e = .returned (.string (numT n)) ∧ Below w.heap.size w w' := by
  have a1 : ∀ w, (Instr.typeAssert (.iface 85 (.agg #[.int .i64 n, .string t])) 66 85 true).run Tryd.prog w = .ok (.tuple #[.agg #[.int .i64 n, .string t], .bool true]) w := fun w => by kernel_rfl
  go_enter Tryd.func53, Tryd.ntmps53
  go_wp2_with fail
  refine (implNumText n (by omega) (by omega) _ (htab_keep htab (bnew _ _))).mono ?_
  rintro e w2 ⟨rfl, hb2⟩
  go_wp2
  go_ret
  exact ⟨rfl, bthen (bnew _ _) hb2⟩
theorem implWordT (n : Int) (t : ByteArray) (w : World) (ht : t.size ≤ 20) :
    Calls Tryd.prog 53 #[.iface 87 (.agg #[.string t, .int .i64 n])] w fun e w' => e = .returned (.string ((⟨#[34]⟩ ++ t) ++ ⟨#[34]⟩)) ∧ Below w.heap.size w w' := by
  have hq1 : ¬ 9223372036854775807 < 1 + t.size := by omega
  have hq2 : ¬ 9223372036854775807 < 1 + t.size + 1 := by omega
  have hq3 : 1 + t.size ≤ 9223372036854775807 := by omega
  have hq4 : 1 + t.size + 1 ≤ 9223372036854775807 := by omega
  have a1 : ∀ w, (Instr.typeAssert (.iface 87 (.agg #[.string t, .int .i64 n])) 66 85 true).run Tryd.prog w = .ok (.tuple #[.agg #[.int .i64 0, .string ⟨#[]⟩], .bool false]) w := fun w => by kernel_rfl
  have a2 : ∀ w, (Instr.typeAssert (.iface 87 (.agg #[.string t, .int .i64 n])) 66 87 true).run Tryd.prog w = .ok (.tuple #[.agg #[.string t, .int .i64 n], .bool true]) w := fun w => by kernel_rfl
  go_enter Tryd.func53, Tryd.ntmps53
  go_wp2
  go_ret
  exact ⟨rfl, by (repeat (first | with_reducible assumption | with_reducible exact Below.refl _ _ | with_reducible refine Below.drew ?_ | with_reducible refine bdrewN ?_ _ | (with_reducible refine Below.alloc ?_ ?side _; case side => (first | omega | (simp [go_sem]; done) | (simp [go_sem]; omega))) | (with_reducible refine Below.setCell ?_ ?side _; case side => (first | omega | (simp [go_sem]; done) | (simp [go_sem]; omega)))))⟩
set_option maxHeartbeats 2000000 in
theorem implAttrText (k : ByteArray) (b : Bool) (n : Int) (t : ByteArray) (w : World) (hk : k.size ≤ maxLen) (ht : t.size ≤ maxLen) (htab : Lib.TabIs Tryd.prog w "internal/strconv.uint64pow10" .u64 Lib.pow10Tab) :
    Calls Tryd.prog 37 #[.agg #[.string k, .bool b, .int .i64 n, .string t]] w fun e w' => e = .returned (.string (attrT k b n t)) ∧ Below w.heap.size w w' := by
  cases hA : attrB k b n t
  case false =>
    simp only [attrT, hA, Bool.false_eq_true, if_false]
    go_enter Tryd.func37, Tryd.ntmps37
    go_wp2_with fail
    refine (implAttrOk k b n t _ hk ht).mono ?_
    rintro e w1 ⟨rfl, hb1⟩
    rw [hA]
    have B1 := bthen (bnew _ _) hb1
    go_wp2
    go_ret
    exact ⟨rfl, B1⟩
  have hA' := hA
  rw [attrB, Bool.and_eq_true] at hA'
  obtain ⟨hn, hrest⟩ := hA'
  have hk8 := name_size hn
  cases b
  case true =>
    simp only [if_true, Bool.and_eq_true, inB_iff] at hrest
    obtain ⟨⟨hlo, hhi⟩, _⟩ := hrest
    have hs := numT_size n hlo hhi
    have hq1 : ¬ 9223372036854775807 < k.size + 1 := by omega
    have hq2 : ¬ 9223372036854775807 < k.size + 1 + (numT n).size := by omega
    have hq3 : k.size + 1 ≤ 9223372036854775807 := by omega
    have hq4 : k.size + 1 + (numT n).size ≤ 9223372036854775807 := by omega
    simp only [attrT, hA, if_true, textN]
    go_enter Tryd.func37, Tryd.ntmps37
    go_wp2_with fail
    refine (implAttrOk k true n t _ hk ht).mono ?_
    rintro e w1 ⟨rfl, hb1⟩
    rw [hA]
    have B1 := bthen (bnew _ _) hb1
    have c0 : w1.cell? ⟨w.heap.size, 0, none⟩ = some (.string k) := by rw [hb1.cell (by simp [go_sem])]; simp [go_sem]
    have c1 : w1.cell? ⟨w.heap.size, 1, none⟩ = some (.bool true) := by rw [hb1.cell (by simp [go_sem])]; simp [go_sem]
    have c2 : w1.cell? ⟨w.heap.size, 2, none⟩ = some (.int .i64 n) := by rw [hb1.cell (by simp [go_sem])]; simp [go_sem]
    have c3 : w1.cell? ⟨w.heap.size, 3, none⟩ = some (.string t) := by rw [hb1.cell (by simp [go_sem])]; simp [go_sem]
    have hlt : w.heap.size < w1.heap.size := by have := hb1.size; simp at this; omega
    clear hb1
    go_wp2_with fail
    go_region_held3 (fun w' => w'.cell? ⟨w.heap.size, 0, none⟩ = some (.string k) ∧ w'.cell? ⟨w.heap.size, 1, none⟩ = some (.bool true) ∧ w'.cell? ⟨w.heap.size, 2, none⟩ = some (.int .i64 n) ∧ w'.cell? ⟨w.heap.size, 3, none⟩ = some (.string t)) (first | go_keep | (refine ⟨?_, ?_, ?_, ?_⟩ <;> (rw [hb3.cell (by simp [go_sem]; omega)]; simp [go_sem, *])))
      (first | (go_at_call 49; refine (implSaidBy k true n t _).mono ?_; rintro e w2 ⟨rfl, rfl⟩; simp only [if_true]) | (go_at_call 53; refine (implWordN n t _ hlo hhi (htab_keep htab (by (repeat (first | with_reducible assumption | with_reducible exact Below.refl _ _ | with_reducible refine Below.drew ?_ | with_reducible refine bdrewN ?_ _ | (with_reducible refine Below.alloc ?_ ?side _; case side => (first | omega | (simp [go_sem]; done) | (simp [go_sem]; omega))) | (with_reducible refine Below.setCell ?_ ?side _; case side => (first | omega | (simp [go_sem]; done) | (simp [go_sem]; omega)))))))).mono ?_; rintro e w3 ⟨rfl, hb3⟩))
    all_goals (go_wp2; go_ret; exact ⟨rfl, bthen (by (repeat (first | with_reducible assumption | with_reducible exact Below.refl _ _ | with_reducible refine Below.drew ?_ | with_reducible refine bdrewN ?_ _ | (with_reducible refine Below.alloc ?_ ?side _; case side => (first | omega | (simp [go_sem]; done) | (simp [go_sem]; omega))) | (with_reducible refine Below.setCell ?_ ?side _; case side => (first | omega | (simp [go_sem]; done) | (simp [go_sem]; omega)))))) hb3⟩)
  case false =>
    simp only [Bool.false_eq_true, if_false, Bool.and_eq_true] at hrest
    have ht20 := plain_size hrest.2
    have hq1 : ¬ 9223372036854775807 < k.size + 1 := by omega
    have hq3 : k.size + 1 ≤ 9223372036854775807 := by omega
    have hq2 : ¬ 9223372036854775807 < k.size + 1 + (1 + t.size + 1) := by omega
    have hq4 : k.size + 1 + (1 + t.size + 1) ≤ 9223372036854775807 := by omega
    simp only [attrT, hA, if_true, Bool.false_eq_true, if_false]
    rw [← textT_eq]
    go_enter Tryd.func37, Tryd.ntmps37
    go_wp2_with fail
    refine (implAttrOk k false n t _ hk ht).mono ?_
    rintro e w1 ⟨rfl, hb1⟩
    rw [hA]
    have B1 := bthen (bnew _ _) hb1
    have c0 : w1.cell? ⟨w.heap.size, 0, none⟩ = some (.string k) := by rw [hb1.cell (by simp [go_sem])]; simp [go_sem]
    have c1 : w1.cell? ⟨w.heap.size, 1, none⟩ = some (.bool false) := by rw [hb1.cell (by simp [go_sem])]; simp [go_sem]
    have c2 : w1.cell? ⟨w.heap.size, 2, none⟩ = some (.int .i64 n) := by rw [hb1.cell (by simp [go_sem])]; simp [go_sem]
    have c3 : w1.cell? ⟨w.heap.size, 3, none⟩ = some (.string t) := by rw [hb1.cell (by simp [go_sem])]; simp [go_sem]
    have hlt : w.heap.size < w1.heap.size := by have := hb1.size; simp at this; omega
    clear hb1
    go_wp2_with fail
    go_region_held3 (fun w' => w'.cell? ⟨w.heap.size, 0, none⟩ = some (.string k) ∧ w'.cell? ⟨w.heap.size, 1, none⟩ = some (.bool false) ∧ w'.cell? ⟨w.heap.size, 2, none⟩ = some (.int .i64 n) ∧ w'.cell? ⟨w.heap.size, 3, none⟩ = some (.string t)) (first | go_keep | (refine ⟨?_, ?_, ?_, ?_⟩ <;> (rw [hb3.cell (by simp [go_sem]; omega)]; simp [go_sem, *])))
      (first | (go_at_call 49; refine (implSaidBy k false n t _).mono ?_; rintro e w2 ⟨rfl, rfl⟩; simp only [Bool.false_eq_true, if_false]) | (go_at_call 53; refine (implWordT n t _ ht20).mono ?_; rintro e w3 ⟨rfl, hb3⟩))
    all_goals (go_wp2; go_ret; exact ⟨rfl, bthen (by (repeat (first | with_reducible assumption | with_reducible exact Below.refl _ _ | with_reducible refine Below.drew ?_ | with_reducible refine bdrewN ?_ _ | (with_reducible refine Below.alloc ?_ ?side _; case side => (first | omega | (simp [go_sem]; done) | (simp [go_sem]; omega))) | (with_reducible refine Below.setCell ?_ ?side _; case side => (first | omega | (simp [go_sem]; done) | (simp [go_sem]; omega)))))) hb3⟩)

end Go.Proofs.YtchinpgjaddnkaaDoor
