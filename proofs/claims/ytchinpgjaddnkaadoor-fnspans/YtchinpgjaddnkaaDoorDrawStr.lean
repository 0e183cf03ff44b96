/-
  Contracts of the specification's drawing functions for texts, over this seat's translation.
-/
import Derived.Test.YtchinpgjaddnkaaDoorDraw
namespace Go.Proofs.YtchinpgjaddnkaaDoor
open Go.ChangeShapes Go.WideShapes Go.ChangeAt Go.RowKit
set_option linter.unusedVariables false
set_option maxRecDepth 100000
variable {B : Nat}

theorem short_of {zs : List ByteArray} (h : (zs.all fun z => decide (z.size ≤ 40)) = true) {z : ByteArray} (hz : z ∈ zs) : z.size ≤ 40 := by
  have := List.all_eq_true.1 h z hz
  simpa using this

theorem l1Str_any (b lb : Nat) (zs : List ByteArray) (cap : Nat) (w : World) (hc : Cur B w b) (hne : lb ≠ b) (hlb : lb < w.heap.size) (hz : 0 < zs.length) (hm : zs.length ≤ 9223372036854775807)
    (hcell : ∀ k, k < zs.length → w.cell? ⟨lb, k, none⟩ = some (.string (zs.getD k ByteArray.empty))) :
    Calls Tryd.prog 46 #[.pointer (some ⟨b, 0, none⟩), .slice (some ⟨lb, 0, none⟩) zs.length cap] w fun e w' => (∃ x : ByteArray, e = .returned (.string x) ∧ x ∈ zs) ∧ Cur B w' b ∧ Turns b w w' := by
  go_enter Tryd.func46, Tryd.ntmps46
  go_wp2_with fail
  refine (l1Below_any b zs.length (by omega) w hc).mono ?_
  rintro e w1 ⟨⟨x, rfl, hx0, hx1⟩, hc1, ht1⟩
  obtain ⟨k, rfl⟩ := Int.eq_ofNat_of_zero_le hx0
  have hk : k < zs.length := by omega
  have c1 : w1.cell? ⟨lb, k, none⟩ = some (.string (zs.getD k ByteArray.empty)) := by rw [ht1.cell (p := ⟨lb, k, none⟩) hlb hne]; exact hcell k hk
  have hmem : zs.getD k ByteArray.empty ∈ zs := by
    rw [List.getD_eq_getElem?_getD, List.getElem?_eq_getElem hk]; exact List.getElem_mem hk
  generalize zs.getD k ByteArray.empty = v at *
  clear hcell
  go_wp2
  go_ret
  exact ⟨⟨_, rfl, hmem⟩, hc1, ht1⟩

theorem l1Names_any (b : Nat) (w : World) (hc : Cur B w b) :
    Calls Tryd.prog 70 #[.pointer (some ⟨b, 0, none⟩)] w fun e w' => (∃ x : ByteArray, e = .returned (.string x) ∧ x.size ≤ 40) ∧ Cur B w' b ∧ Turns b w w' := by
  have hlt := hc.lt
  go_enter Tryd.func70, Tryd.ntmps70
  go_wp2_with fail
  refine (l1Str_any b w.heap.size [⟨#[107]⟩, ⟨#[112, 97, 116, 104]⟩, ⟨#[99, 111, 100, 101]⟩, ⟨#[117, 115, 101, 114]⟩] 4 _ (hc.keep (bnew _ _)) (by omega) (by simp) (by simp) (by simp) ?_).mono ?_
  · exact cells_strs w 9 [⟨#[107]⟩, ⟨#[112, 97, 116, 104]⟩, ⟨#[99, 111, 100, 101]⟩, ⟨#[117, 115, 101, 114]⟩]
  rintro e w1 ⟨⟨x, rfl, hx⟩, hc1, ht1⟩
  have HX := hide (short_of (by decide) hx)
  clear hx
  go_wp2
  go_ret
  exact ⟨⟨_, rfl, unhide HX⟩, hc1, ((Turns.refl _ _).alloc _).trans ht1⟩

theorem l1AnyName_any (b : Nat) (w : World) (hc : Cur B w b) :
    Calls Tryd.prog 60 #[.pointer (some ⟨b, 0, none⟩)] w fun e w' => (∃ x : ByteArray, e = .returned (.string x) ∧ x.size ≤ 40) ∧ Cur B w' b ∧ Turns b w w' := by
  go_enter Tryd.func60, Tryd.ntmps60
  go_wp2_with fail
  refine (l1Once_any b 2 (by omega) w hc).mono ?_
  rintro e w1 ⟨⟨x, rfl⟩, hc1, ht1⟩
  clear hc
  have hlt := hc1.lt
  cases x with
  | true =>
    go_wp2_with fail
    refine (l1Names_any b w1 hc1).mono ?_
    rintro e w2 ⟨⟨y, rfl, hy⟩, hc2, ht2⟩
    clear hc1
    go_wp2
    go_ret
    exact ⟨⟨_, rfl, hy⟩, hc2, ht1.trans ht2⟩
  | false =>
    go_wp2_with fail
    refine (l1Str_any b w1.heap.size [⟨#[]⟩, ⟨#[75]⟩, ⟨#[110, 105, 110, 101, 99, 104, 97, 114, 115]⟩, ⟨#[101, 105, 103, 104, 116, 97, 98, 99]⟩, ⟨#[97, 32, 98]⟩, ⟨#[97, 49]⟩, ⟨#[102, 97, 105, 108, 101, 100]⟩, ⟨#[102, 97, 105, 108, 101, 100, 120]⟩] 8 _ (hc1.keep (bnew _ _)) (by omega) (by simp) (by simp) (by simp) ?_).mono ?_
    · exact cells_strs w1 9 [⟨#[]⟩, ⟨#[75]⟩, ⟨#[110, 105, 110, 101, 99, 104, 97, 114, 115]⟩, ⟨#[101, 105, 103, 104, 116, 97, 98, 99]⟩, ⟨#[97, 32, 98]⟩, ⟨#[97, 49]⟩, ⟨#[102, 97, 105, 108, 101, 100]⟩, ⟨#[102, 97, 105, 108, 101, 100, 120]⟩]
    rintro e w2 ⟨⟨y, rfl, hy⟩, hc2, ht2⟩
    clear hc1
    have HX := hide (short_of (by decide) hy)
    clear hy
    go_wp2
    go_ret
    exact ⟨⟨_, rfl, unhide HX⟩, hc2, ht1.trans (((Turns.refl _ _).alloc _).trans ht2)⟩

theorem l1Plain_any (b : Nat) (w : World) (hc : Cur B w b) :
    Calls Tryd.prog 61 #[.pointer (some ⟨b, 0, none⟩)] w fun e w' => (∃ x : ByteArray, e = .returned (.string x) ∧ x.size ≤ 40) ∧ Cur B w' b ∧ Turns b w w' := by
  go_enter Tryd.func61, Tryd.ntmps61
  go_wp2_with fail
  refine (l1Once_any b 6 (by omega) w hc).mono ?_
  rintro e w1 ⟨⟨x, rfl⟩, hc1, ht1⟩
  clear hc
  have hlt := hc1.lt
  cases x with
  | true =>
    go_wp2_with fail
    refine (l1Str_any b w1.heap.size [⟨#[]⟩, ⟨#[34]⟩, ⟨#[127]⟩, ⟨#[31]⟩, ⟨#[116, 119, 101, 110, 116, 121, 32, 98, 121, 116, 101, 115, 32, 97, 114, 101, 32, 104, 101, 114, 101]⟩, ⟨#[116, 119, 101, 110, 116, 121, 98, 121, 116, 101, 115, 97, 114, 101, 104, 101, 114, 101, 50, 48]⟩, ⟨#[126, 32]⟩] 7 _ (hc1.keep (bnew _ _)) (by omega) (by simp) (by simp) (by simp) ?_).mono ?_
    · exact cells_strs w1 9 [⟨#[]⟩, ⟨#[34]⟩, ⟨#[127]⟩, ⟨#[31]⟩, ⟨#[116, 119, 101, 110, 116, 121, 32, 98, 121, 116, 101, 115, 32, 97, 114, 101, 32, 104, 101, 114, 101]⟩, ⟨#[116, 119, 101, 110, 116, 121, 98, 121, 116, 101, 115, 97, 114, 101, 104, 101, 114, 101, 50, 48]⟩, ⟨#[126, 32]⟩]
    rintro e w2 ⟨⟨y, rfl, hy⟩, hc2, ht2⟩
    clear hc1
    have HX := hide (short_of (by decide) hy)
    clear hy
    go_wp2
    go_ret
    exact ⟨⟨_, rfl, unhide HX⟩, hc2, ht1.trans (((Turns.refl _ _).alloc _).trans ht2)⟩
  | false =>
    go_wp2_with fail
    refine (l1Str_any b w1.heap.size [⟨#[97]⟩, ⟨#[98]⟩, ⟨#[111, 107]⟩, ⟨#[120, 32, 121]⟩] 4 _ (hc1.keep (bnew _ _)) (by omega) (by simp) (by simp) (by simp) ?_).mono ?_
    · exact cells_strs w1 9 [⟨#[97]⟩, ⟨#[98]⟩, ⟨#[111, 107]⟩, ⟨#[120, 32, 121]⟩]
    rintro e w2 ⟨⟨y, rfl, hy⟩, hc2, ht2⟩
    clear hc1
    have HX := hide (short_of (by decide) hy)
    clear hy
    go_wp2
    go_ret
    exact ⟨⟨_, rfl, unhide HX⟩, hc2, ht1.trans (((Turns.refl _ _).alloc _).trans ht2)⟩

end Go.Proofs.YtchinpgjaddnkaaDoor
