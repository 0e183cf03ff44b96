/-
  slices.swapRangeCmpFunc, slices.rotateCmpFunc at ints: what they leave behind.
-/
import Derived.Test.YtopngelgpfjdeaaNum
import Derived.Test.YtopngelgpfjdeaaStab0
import Derived.Shelf.SlSortCmp.Insertion1
namespace Go.Proofs.Ytopngelgpfjdeaa
open Go.Shelf Go.RowKit Go.Lib Go.Sort
set_option linter.unusedVariables false
set_option maxRecDepth 100000

def PermAll (a b : Nat) (d d' : Array Nat) : Prop := ∀ lo hi, lo ≤ a → b ≤ hi → hi ≤ d.size → PermIn lo hi d d'
theorem PermAll.refl (a b : Nat) (d : Array Nat) : PermAll a b d d := fun _ _ _ _ _ => permIn_refl _ _ _
theorem PermAll.size {a b : Nat} {d d' : Array Nat} (h : PermAll a b d d') (hb : b ≤ d.size) : d'.size = d.size := (h a b (Nat.le_refl _) (Nat.le_refl _) hb).1
theorem PermAll.trans {a b : Nat} {d d1 d2 : Array Nat} (h1 : PermAll a b d d1) (h2 : PermAll a b d1 d2) (hb : b ≤ d.size) : PermAll a b d d2 := fun lo hi hl hh hz =>
  permIn_trans _ _ _ _ _ (h1 lo hi hl hh hz) (h2 lo hi hl hh (by rw [h1.size hb]; exact hz))
theorem PermAll.swap {a b : Nat} {d d1 : Array Nat} (h : PermAll a b d d1) (hb : b ≤ d.size) (i j : Nat) (hi : a ≤ i ∧ i < b) (hj : a ≤ j ∧ j < b) : PermAll a b d (swp d1 i j) :=
  h.trans (fun lo hi' hl hh hz => swp_permIn _ _ _ _ _ (by omega) (by omega) (by omega) (by omega) hz) hb
theorem PermAll.wide {a b a' b' : Nat} {d d' : Array Nat} (h : PermAll a b d d') (ha : a' ≤ a) (hb : b ≤ b') : PermAll a' b' d d' := fun lo hi hl hh hz => h lo hi (by omega) (by omega) hz
structure SwapS (a b n : Nat) (d d' : Array Nat) : Prop where
  sw : Swapped a b n d d'
  pm : PermAll a (b + n) d d'

set_option maxHeartbeats 16000000 in
set_option maxRecDepth 1000000 in
theorem stSwapRange (enc : Nat → Value) (g : Nat) (cb : Array Value) (blk off cap a b n : Nat) (d0 d : Array Nat) (w0 w : World) (R : Row1 enc w0 blk off d0) (hs : d0.size = d.size) (S : SW enc w0 blk off d w) (hab : a + n ≤ b) (hb : b + n ≤ d.size) (hsz : d.size < 1152921504606846976) :
    Calls Try.prog 181 #[.slice (some ⟨blk, off, none⟩) d.size cap, .int .i64 a, .int .i64 b, .int .i64 n, .func (.func g) #[] cb] w fun e w' => e = .returned (.tuple #[]) ∧ ∃ d', SwapS a b n d d' ∧ SW enc w0 blk off d' w' := by
  have hcl0 := R.hO.cells
  simp only [Value.cells] at hcl0
  have hst := R.hO.store Try.prog
  have mixed : Try.prog.follows .mixedOrders = true := by kernel_rfl
  have S0 : Aside (SW enc w0 blk off d w) := S
  clear S
  go_enter Try.func181, Try.ntmps181
  go_wp2
  go_loopg [10] n (fun g1 vi wr => ∃ (i : Nat) (dk : Array Nat), vi = .int .i64 i ∧ i ≤ n ∧ n - i ≤ g1 ∧ dk.size = d.size ∧ Aside (SW enc w0 blk off dk wr) ∧ Aside (Swapped a b i d dk ∧ PermAll a (b + n) d dk))
  case atStart => exact ⟨0, d, by go_num, by omega, by omega, rfl, S0, ⟨Swapped.start a b d, PermAll.refl _ _ _⟩⟩
  case round =>
    clear S0
    obtain ⟨i, dk, rfl, hin, hg1, hsk, S1, HO⟩ := hrel
    by_cases hlt : i < n
    · have hltz : (i : Int) < (n : Int) := by omega
      go_wp2_with fail
      obtain ⟨iN, hiN⟩ : ∃ q, q = a + i := ⟨_, rfl⟩
      obtain ⟨jN, hjN⟩ : ∃ q, q = b + i := ⟨_, rfl⟩
      have ea : ((a : Int) + (i : Int)).toNat = iN := by omega
      have pa : (0 : Int) ≤ (a : Int) + (i : Int) := by omega
      have ba : (a : Int) + (i : Int) < (d.size : Int) := by omega
      have ra : IntKind.i64.wrap ((a : Int) + (i : Int)) = (a : Int) + (i : Int) := by rw [IntKind.wrap_i64]; omega
      have ec : ((b : Int) + (i : Int)).toNat = jN := by omega
      have pc : (0 : Int) ≤ (b : Int) + (i : Int) := by omega
      have bc : (b : Int) + (i : Int) < (d.size : Int) := by omega
      have rc : IntKind.i64.wrap ((b : Int) + (i : Int)) = (b : Int) + (i : Int) := by rw [IntKind.wrap_i64]; omega
      obtain ⟨x1, hx1⟩ : ∃ x, x = dk[a + i]! := ⟨_, rfl⟩
      obtain ⟨y1, hy1⟩ : ∃ x, x = dk[b + i]! := ⟨_, rfl⟩
      have S3 : Aside (SW enc w0 blk off (swp dk (a + i) (b + i)) ((wr.setCell ⟨blk, off + iN, none⟩ (enc y1)).setCell ⟨blk, off + jN, none⟩ (enc x1)).drew) := by rw [hiN, hjN, hx1, hy1]; exact S1.out.swapped R (a + i) (b + i) (by omega) (by omega)
      have ca := S1.out.c1 R (by omega) (a + i) (by omega)
      have cb' := S1.out.c1 R (by omega) (b + i) (by omega)
      have fa := S1.out.f1 R (by omega) (a + i) (by omega)
      have fb := S1.out.f1 R (by omega) (b + i) (by omega)
      obtain ⟨u1, cc⟩ := S1.out.c2 R (by omega) (a + i) (b + i) (by omega) (by omega) (enc y1)
      rw [← hjN, ← hiN] at cc
      rw [← hx1, ← hiN] at ca
      rw [← hy1, ← hjN] at cb'
      rw [← hiN] at fa
      rw [← hjN] at fb
      clear S1 hx1 hy1 hiN hjN
      go_big_region_o
      clear ca cb' cc fa fb
      generalize ((wr.setCell ⟨blk, off + iN, none⟩ (enc y1)).setCell ⟨blk, off + jN, none⟩ (enc x1)).drew = w3 at S3 ⊢
      clear ea ec
      go_wp2
      go_roundg (n - (i + 1))
      case measure => omega
      case rel => exact ⟨i + 1, swp dk (a + i) (b + i), by go_num, by omega, Nat.le_refl _, by rw [size_swp]; exact hsk, S3, ⟨HO.out.1.step (by omega) (by omega), HO.out.2.swap hb (a + i) (b + i) ⟨by omega, by omega⟩ ⟨by omega, by omega⟩⟩⟩
    · have hltz : ¬ (i : Int) < (n : Int) := by omega
      have hin' : i = n := by omega
      have HI := hide hin'
      clear hin'
      go_wp2
      go_end0
      exact ⟨rfl, dk, ⟨unhide HI ▸ HO.out.1, HO.out.2⟩, S1.out⟩
theorem fits60 {a b : Nat} {d : Nat} (h : d < 1152921504606846976) (ha : a ≤ b) (hb : b ≤ d) : (b : Int) - (a : Int) = ((b - a : Nat) : Int) := by omega
set_option maxHeartbeats 16000000 in
set_option maxRecDepth 1000000 in
theorem stRotate (enc : Nat → Value) (g : Nat) (cb : Array Value) (blk off cap a m b : Nat) (d0 d : Array Nat) (w0 w : World) (R : Row1 enc w0 blk off d0) (hs : d0.size = d.size) (S : SW enc w0 blk off d w) (ham : a < m) (hmb : m < b) (hb : b ≤ d.size) (hsz : d.size < 1152921504606846976) :
    Calls Try.prog 179 #[.slice (some ⟨blk, off, none⟩) d.size cap, .int .i64 a, .int .i64 m, .int .i64 b, .func (.func g) #[] cb] w fun e w' => e = .returned (.tuple #[]) ∧ ∃ d', Rot a m b d d' ∧ PermAll a b d d' ∧ SW enc w0 blk off d' w' := by
  have S0 : Aside (SW enc w0 blk off d w) := S
  clear S
  obtain ⟨i0, hi0⟩ : ∃ i, i = m - a := ⟨_, rfl⟩
  obtain ⟨j0, hj0⟩ : ∃ j, j = b - m := ⟨_, rfl⟩
  have zi0 : (m : Int) - (a : Int) = (i0 : Int) := by omega
  have zj0 : (b : Int) - (m : Int) = (j0 : Int) := by omega
  go_enter Try.func179, Try.ntmps179
  go_wp2
  go_loopg [10, 11] (i0 + j0) (fun g1 v1 v2 wr => ∃ (i j : Nat) (dk : Array Nat), v1 = .int .i64 i ∧ v2 = .int .i64 j ∧ 0 < i ∧ 0 < j ∧ i ≤ m - a ∧ m + j ≤ b ∧ i + j ≤ g1 ∧ Aside (dk.size = d.size) ∧ Aside (SW enc w0 blk off dk wr) ∧ Aside (PermAll a b d dk) ∧ Aside (∀ d', Rot (m - i) m (m + j) dk d' → Rot a m b d d'))
  case atStart => exact ⟨i0, j0, d, by first | rfl | go_num, by first | rfl | go_num, by omega, by omega, by omega, by omega, Nat.le_refl _, rfl, S0, PermAll.refl _ _ _, fun d' h => by rw [show m - i0 = a by omega, show m + j0 = b by omega] at h; exact h⟩
  case round =>
    clear S0
    obtain ⟨i, j, dk, rfl, rfl, hi, hj, hia, hjb, hg1, hsk, S1, HP, HR⟩ := hrel
    by_cases hij : i = j
    · subst hij
      have hc := stSwapRange enc g cb blk off cap (m - i) m i d0 dk w0 wr R (hs.trans hsk.out.symm) S1.out (by omega) (by rw [hsk.out]; omega) (by rw [hsk.out]; exact hsz)
      rw [hsk.out, show ((m - i : Nat) : Int) = (m : Int) - (i : Int) by omega] at hc
      go_wp2_with fail
      refine hc.mono ?_
      rintro e w1 ⟨rfl, d1, h1, hw1⟩
      go_wp2
      go_end0
      exact ⟨rfl, d1, HR.out d1 (Rot.one h1.sw (by omega)), HP.out.trans (h1.pm.wide (by omega) (by omega)) hb, hw1⟩
    · have hijz : ¬ (i : Int) = (j : Int) := by omega
      by_cases hgt : j < i
      · have hgtz : (j : Int) < (i : Int) := by omega
        have hc := stSwapRange enc g cb blk off cap (m - i) m j d0 dk w0 wr R (hs.trans hsk.out.symm) S1.out (by omega) (by rw [hsk.out]; omega) (by rw [hsk.out]; exact hsz)
        rw [hsk.out, show ((m - i : Nat) : Int) = (m : Int) - (i : Int) by omega] at hc
        go_wp2_with fail
        refine hc.mono ?_
        rintro e w1 ⟨rfl, d1, h1, hw1⟩
        go_wp2
        go_roundg ((i - j) + j)
        case measure => omega
        case rel => exact ⟨i - j, j, d1, by first | rfl | go_num | (congr 1; omega), rfl, by omega, hj, by omega, hjb, Nat.le_refl _, h1.sw.1.trans hsk.out, hw1, HP.out.trans (h1.pm.wide (by omega) (by omega)) hb, fun d' h => HR.out d' (Rot.big h1.sw (by omega) hgt h)⟩
      · have hgtz : ¬ (j : Int) < (i : Int) := by omega
        have hc := stSwapRange enc g cb blk off cap (m - i) (m + j - i) i d0 dk w0 wr R (hs.trans hsk.out.symm) S1.out (by omega) (by rw [hsk.out]; omega) (by rw [hsk.out]; exact hsz)
        rw [hsk.out, show ((m - i : Nat) : Int) = (m : Int) - (i : Int) by omega, show ((m + j - i : Nat) : Int) = (m : Int) + (j : Int) - (i : Int) by omega] at hc
        go_wp2_with fail
        refine hc.mono ?_
        rintro e w1 ⟨rfl, d1, h1, hw1⟩
        go_wp2
        go_roundg (i + (j - i))
        case measure => omega
        case rel => exact ⟨i, j - i, d1, rfl, by first | rfl | go_num | (congr 1; omega), hi, by omega, hia, by omega, Nat.le_refl _, h1.sw.1.trans hsk.out, hw1, HP.out.trans (h1.pm.wide (by omega) (by omega)) hb, fun d' h => HR.out d' (Rot.small h1.sw (by omega) (by omega) h)⟩
end Go.Proofs.Ytopngelgpfjdeaa
