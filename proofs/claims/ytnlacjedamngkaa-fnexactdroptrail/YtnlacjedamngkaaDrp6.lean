/-
  Two pieces of a row of trails laid together in a new row, of the program: what hangs on them stays where it is.
-/
import Derived.Test.YtnlacjedamngkaaTTrail
import Derived.Test.YtnlacjedamngkaaATrail
import Derived.Test.YtnlacjedamngkaaGrow2
namespace Go.Proofs.Ytnlacjedamngkaa
open Go.ChangeShapes Go.WideShapes Go.ChangeAt Go.RowKit
set_option linter.unusedVariables false
set_option maxRecDepth 100000

def SrcC (w : World) (a : Option Addr) (n : Nat) (cs : List Value) : Prop := cs.length = n * 4 ∧ One cs ∧ (n = 0 ∨ ∃ b o, a = some ⟨b, o, none⟩ ∧ b < w.heap.size ∧ ∀ j u, cs[j]? = some u → w.cell? ((⟨b, o, none⟩ : Addr).add j) = some u)
theorem SrcC.keep {w w' : World} {a : Option Addr} {n : Nat} {cs : List Value} (h : SrcC w a n cs) (hb : Below w.heap.size w w') : SrcC w' a n cs := by
  obtain ⟨h0, h1, h⟩ := h
  refine ⟨h0, h1, ?_⟩
  rcases h with h | ⟨b, o, h2, h3, h4⟩
  · exact .inl h
  · refine .inr ⟨b, o, h2, Nat.lt_of_lt_of_le h3 hb.size, fun j u hu => ?_⟩
    have e : (⟨b, o, none⟩ : Addr).add j = ⟨b, o + j, none⟩ := by unfold Addr.add; split <;> simp_all
    have := h4 j u hu
    rw [e] at this ⊢
    rw [hb.cell (p := ⟨b, o + j, none⟩) h3]
    exact this
theorem sizeTr2 : (Try.prog.info? 50).map (·.size) = some 4 := by kernel_rfl
theorem copyC (n : Nat) (cs : List Value) (w0 : World) (b o dLen dCap : Nat) (a : Option Addr) (cap : Nat) (hs : SrcC w0 a n cs) (hw : WrAt w0 b o (n * 4)) (hd : n ≤ dLen) :
    ∃ w4, (Builtin.copy_ #[36, 36] 3 #[.slice (some ⟨b, o, none⟩) dLen dCap, .slice a n cap]).run Try.prog w0 = .ok (.int .i64 n) w4 ∧ Turn (fun k => k = b) w0 w4 ∧ InB w4 b o cs ∧ (∀ c p m, WrAt w0 c p m → WrAt w4 c p m) ∧ (∀ i xs, InB w0 b i xs → i + xs.length ≤ o → InB w4 b i xs) := by
  obtain ⟨hl, h1, hs⟩ := hs
  rcases hs with rfl | ⟨b', o', rfl, hbk, hsrc⟩
  · refine ⟨w0, run_copy0 w0 _ _ _ 50 4 _ _ _ _ _ Try.underlying36 sizeTr2, Turn.refl _ _, (fun i v hv => ?_), fun _ _ _ h => h, fun _ _ h _ => h⟩
    have : cs = [] := List.length_eq_zero_iff.1 (by simpa using hl)
    subst this
    simp at hv
  · have hmin : Nat.min n dLen = n := Nat.min_eq_left hd
    have hr := run_copyN (P := Try.prog) w0 36 36 3 50 4 b o dLen dCap ⟨b', o', none⟩ n cap cs Try.underlying36 sizeTr2 (by rw [hl, hmin]) hsrc (by rw [hl]; exact hw) h1
    rw [hmin] at hr
    refine ⟨_, hr, putL_turn _ _ _ _ _, ?_, fun c p m h => putL_wr _ _ h, fun i xs h hi => putL_in _ _ h (by omega)⟩
    exact putL_at cs 0 hw (by omega) (by rw [hl]; omega)
set_option maxHeartbeats 2000000 in
theorem implLaidT (n m : Nat) (c1 c3 : List Value) (a1 a3 : Option Addr) (k1 k3 : Nat) (b0 : Nat) (w : World) (h1 : SrcC w a1 n c1) (h3 : SrcC w a3 (m + 1) c3) (p0 : w.cell? ⟨b0, 0, none⟩ = some (.slice a1 n k1)) (p1 : w.cell? ⟨b0, 1, none⟩ = some (.slice none 0 0)) (p2 : w.cell? ⟨b0, 2, none⟩ = some (.slice a3 (m + 1) k3)) (hb0 : b0 < w.heap.size) (hlen : n + (m + 1) ≤ 1048576) :
    Calls Try.prog 86 #[.slice (some ⟨b0, 0, none⟩) 3 3] w fun e w' => ∃ nb, e = .returned (.slice (some ⟨nb, 0, none⟩) (n + (m + 1)) (n + (m + 1))) ∧ w.heap.size ≤ nb ∧ InB w' nb 0 (c1 ++ c3) ∧ WrAt w' nb 0 ((n + (m + 1)) * 4) ∧ Below w.heap.size w w' := by
  obtain ⟨w0, hmk, hrow, hbm⟩ := mMakeTrail (n + (m + 1)) hlen w
  have hmk : (Instr.makeSlice 36 (.int .i64 ((n : Int) + ((m : Int) + 1))) (.int .i64 ((n : Int) + ((m : Int) + 1)))).run Try.prog w = .ok (.slice (some ⟨w.heap.size, 0, none⟩) (n + (m + 1)) (n + (m + 1))) w0 := by have h := hmk; rw [Int.natCast_add, Int.natCast_add] at h; exact h
  have q0 : w0.cell? ⟨b0, 0, none⟩ = some (.slice a1 n k1) := by rw [hbm.cell (p := ⟨b0, 0, none⟩) hb0]; exact p0
  obtain ⟨w4, hrun, ht, hin, hwr, _⟩ := copyC n c1 w0 w.heap.size 0 (n + (m + 1)) (n + (m + 1)) a1 k1 (h1.keep hbm) (by simpa using hrow.part 0 (n * 4) (by omega)) (by omega)
  have hb4 := hbm.trans (ht.belowFrom hbm.size (fun k hk => by omega))
  have q1 : w4.cell? ⟨b0, 1, none⟩ = some (.slice none 0 0) := by rw [hb4.cell (p := ⟨b0, 1, none⟩) hb0]; exact p1
  have q2 : w4.cell? ⟨b0, 2, none⟩ = some (.slice a3 (m + 1) k3) := by rw [hb4.cell (p := ⟨b0, 2, none⟩) hb0]; exact p2
  have hw4 := hwr _ _ _ hrow
  have hrun2 : (Builtin.copy_ #[36, 36] 3 #[.slice (some ⟨w.heap.size, n * 4, none⟩) (m + 1) (m + 1), .slice none 0 0]).run Try.prog w4 = .ok (.int .i64 0) w4 := run_copy0 w4 _ _ _ 50 4 _ _ _ _ _ Try.underlying36 sizeTr2
  obtain ⟨w5, hrun5, ht5, hin5, hwr5, hold⟩ := copyC (m + 1) c3 w4 w.heap.size (n * 4) (m + 1) (m + 1) a3 k3 (h3.keep hb4) (by simpa using hw4.part (n * 4) ((m + 1) * 4) (by omega)) (Nat.le_refl _)
  have hb5 := hb4.trans (ht5.belowFrom hb4.size (fun k hk => by omega))
  have hl1 := h1.1
  have hin6 : InB w5 w.heap.size 0 (c1 ++ c3) := by
    have hi0 := hold 0 _ hin (by rw [hl1]; omega)
    intro i u hu
    rcases Nat.lt_or_ge i c1.length with h | h
    · rw [List.getElem?_append_left h] at hu; exact hi0 i u hu
    · rw [List.getElem?_append_right h] at hu
      have := hin5 _ u hu
      rw [hl1] at this h
      rwa [show n * 4 + (i - n * 4) = 0 + i by omega] at this
  have HY0 := hide (And.intro hin6 (And.intro (hwr5 _ _ _ hw4) hb5))
  have hrun5 : (Builtin.copy_ #[36, 36] 3 #[.slice (some ⟨w.heap.size, n * 4, none⟩) (m + 1) (m + 1), .slice a3 (m + 1) k3]).run Try.prog w4 = .ok (.int .i64 ((m : Int) + 1)) w5 := hrun5
  clear hb4 hb5 hrow h1 h3 ht hin hwr ht5 hin5 hwr5 hold hin6 hw4 hl1 hbm
  go_enter Try.func86, Try.ntmps86
  go_wp2
  go_loopw [3, 12] (fun s i wk => ((s = .int .i64 0 ∧ i = .int .i64 0) ∨ (s = .int .i64 n ∧ i = .int .i64 1) ∨ (s = .int .i64 n ∧ i = .int .i64 2) ∨ (s = .int .i64 ((n : Int) + ((m : Int) + 1)) ∧ i = .int .i64 3)) ∧ wk = w) (fun _ i _ => 3 - (intOf i).toNat)
  case atStart => exact ⟨.inl ⟨rfl, rfl⟩, rfl⟩
  case round =>
    rcases hrel with ⟨⟨rfl, rfl⟩ | ⟨rfl, rfl⟩ | ⟨rfl, rfl⟩ | ⟨rfl, rfl⟩, hww⟩
    · subst wr
      go_wp2
      go_roundw
      case rel => exact ⟨.inr (.inl ⟨by go_num, by go_num⟩), trivial⟩
      case measure => simp [intOf]
    · subst wr
      go_wp2
      go_roundw
      case rel => exact ⟨.inr (.inr (.inl ⟨by go_num, by go_num⟩)), trivial⟩
      case measure => simp [intOf]
    · subst wr
      go_wp2
      go_roundw
      case rel => exact ⟨.inr (.inr (.inr ⟨by go_num, by go_num⟩)), trivial⟩
      case measure => simp [intOf]
    · subst wr
      go_wp2
      go_loopw [7, 25] (fun s i wk => (s = .int .i64 0 ∧ i = .int .i64 0 ∧ wk = w0) ∨ (s = .int .i64 n ∧ i = .int .i64 1 ∧ wk = w4) ∨ (s = .int .i64 n ∧ i = .int .i64 2 ∧ wk = w4) ∨ (i = .int .i64 3 ∧ wk = w5)) (fun _ i _ => 3 - (intOf i).toNat)
      case atStart => exact .inl ⟨rfl, rfl, rfl⟩
      case round =>
        rcases hrel with ⟨rfl, rfl, hww⟩ | ⟨rfl, rfl, hww⟩ | ⟨rfl, rfl, hww⟩ | ⟨rfl, hww⟩
        · subst hww
          go_wp2_with (first | (at_builtin; refine wpl_copy _ rfl (.tmp 32) (.tmp 33) 36 36 rfl _ _ rfl rfl hrun ?_))
          go_roundw
          case rel => exact .inr (.inl ⟨by go_num, by go_num, trivial⟩)
          case measure => simp [intOf]
        · subst hww
          go_wp2_with (first | (at_builtin; refine wpl_copy _ rfl (.tmp 32) (.tmp 33) 36 36 rfl _ _ rfl rfl hrun2 ?_))
          go_roundw
          case rel => exact .inr (.inr (.inl ⟨by go_num, by go_num, trivial⟩))
          case measure => simp [intOf]
        · subst hww
          go_wp2_with (first | (at_builtin; refine wpl_copy _ rfl (.tmp 32) (.tmp 33) 36 36 rfl _ _ rfl rfl hrun5 ?_))
          go_roundw
          case rel => exact .inr (.inr (.inr ⟨by go_num, trivial⟩))
          case measure => simp [intOf]
        · subst hww
          go_wp2
          go_ret
          obtain ⟨y, y2, hb4⟩ := unhide HY0
          exact ⟨_, rfl, Nat.le_refl _, y, y2, hb4⟩
set_option maxHeartbeats 2000000 in
theorem implLaidT0 (n : Nat) (c1 : List Value) (a1 a3 : Option Addr) (k1 k3 : Nat) (b0 : Nat) (w : World) (h1 : SrcC w a1 n c1) (p0 : w.cell? ⟨b0, 0, none⟩ = some (.slice a1 n k1)) (p1 : w.cell? ⟨b0, 1, none⟩ = some (.slice none 0 0)) (p2 : w.cell? ⟨b0, 2, none⟩ = some (.slice a3 0 k3)) (hb0 : b0 < w.heap.size) (hlen : n ≤ 1048576) :
    Calls Try.prog 86 #[.slice (some ⟨b0, 0, none⟩) 3 3] w fun e w' => ∃ nb, e = .returned (.slice (some ⟨nb, 0, none⟩) n n) ∧ w.heap.size ≤ nb ∧ InB w' nb 0 c1 ∧ WrAt w' nb 0 (n * 4) ∧ Below w.heap.size w w' := by
  obtain ⟨w0, hmk, hrow, hbm⟩ := mMakeTrail n hlen w
  have q0 : w0.cell? ⟨b0, 0, none⟩ = some (.slice a1 n k1) := by rw [hbm.cell (p := ⟨b0, 0, none⟩) hb0]; exact p0
  obtain ⟨w4, hrun, ht, hin, hwr, _⟩ := copyC n c1 w0 w.heap.size 0 n n a1 k1 (h1.keep hbm) hrow (Nat.le_refl _)
  have hb4 := hbm.trans (ht.belowFrom hbm.size (fun k hk => by omega))
  have q1 : w4.cell? ⟨b0, 1, none⟩ = some (.slice none 0 0) := by rw [hb4.cell (p := ⟨b0, 1, none⟩) hb0]; exact p1
  have q2 : w4.cell? ⟨b0, 2, none⟩ = some (.slice a3 0 k3) := by rw [hb4.cell (p := ⟨b0, 2, none⟩) hb0]; exact p2
  have hrun2 : ∀ (da sa : Option Addr) (dl dc sc : Nat), (Builtin.copy_ #[36, 36] 3 #[.slice da dl dc, .slice sa 0 sc]).run Try.prog w4 = .ok (.int .i64 0) w4 := fun da sa dl dc sc => run_copy0 w4 _ _ _ 50 4 _ _ _ _ _ Try.underlying36 sizeTr2
  have HY0 := hide (And.intro hin (And.intro (hwr _ _ _ hrow) hb4))
  clear hb4 hrow h1 ht hin hwr hbm
  go_enter Try.func86, Try.ntmps86
  go_wp2
  go_loopw [3, 12] (fun s i wk => ((s = .int .i64 0 ∧ i = .int .i64 0) ∨ (s = .int .i64 n ∧ i = .int .i64 1) ∨ (s = .int .i64 n ∧ i = .int .i64 2) ∨ (s = .int .i64 n ∧ i = .int .i64 3)) ∧ wk = w) (fun _ i _ => 3 - (intOf i).toNat)
  case atStart => exact ⟨.inl ⟨rfl, rfl⟩, rfl⟩
  case round =>
    rcases hrel with ⟨⟨rfl, rfl⟩ | ⟨rfl, rfl⟩ | ⟨rfl, rfl⟩ | ⟨rfl, rfl⟩, hww⟩
    · subst wr
      go_wp2
      go_roundw
      case rel => exact ⟨.inr (.inl ⟨by go_num, by go_num⟩), trivial⟩
      case measure => simp [intOf]
    · subst wr
      go_wp2
      go_roundw
      case rel => exact ⟨.inr (.inr (.inl ⟨by go_num, by go_num⟩)), trivial⟩
      case measure => simp [intOf]
    · subst wr
      go_wp2
      go_roundw
      case rel => exact ⟨.inr (.inr (.inr ⟨by go_num, by go_num⟩)), trivial⟩
      case measure => simp [intOf]
    · subst wr
      go_wp2
      go_loopw [7, 25] (fun s i wk => (s = .int .i64 0 ∧ i = .int .i64 0 ∧ wk = w0) ∨ (s = .int .i64 n ∧ i = .int .i64 1 ∧ wk = w4) ∨ (s = .int .i64 n ∧ i = .int .i64 2 ∧ wk = w4) ∨ (i = .int .i64 3 ∧ wk = w4)) (fun _ i _ => 3 - (intOf i).toNat)
      case atStart => exact .inl ⟨rfl, rfl, rfl⟩
      case round =>
        rcases hrel with ⟨rfl, rfl, hww⟩ | ⟨rfl, rfl, hww⟩ | ⟨rfl, rfl, hww⟩ | ⟨rfl, hww⟩
        · subst hww
          go_wp2_with (first | (at_builtin; refine wpl_copy _ rfl (.tmp 32) (.tmp 33) 36 36 rfl _ _ rfl rfl hrun ?_))
          go_roundw
          case rel => exact .inr (.inl ⟨by go_num, by go_num, trivial⟩)
          case measure => simp [intOf]
        · subst hww
          go_wp2_with (first | (at_builtin; refine wpl_copy _ rfl (.tmp 32) (.tmp 33) 36 36 rfl _ _ rfl rfl (hrun2 _ _ _ _ _) ?_))
          go_roundw
          case rel => exact .inr (.inr (.inl ⟨by go_num, by go_num, trivial⟩))
          case measure => simp [intOf]
        · subst hww
          go_wp2_with (first | (at_builtin; refine wpl_copy _ rfl (.tmp 32) (.tmp 33) 36 36 rfl _ _ rfl rfl (hrun2 _ _ _ _ _) ?_))
          go_roundw
          case rel => exact .inr (.inr (.inr ⟨by go_num, trivial⟩))
          case measure => simp [intOf]
        · subst hww
          go_wp2
          go_ret
          obtain ⟨y, y2, hb4⟩ := unhide HY0
          exact ⟨_, rfl, Nat.le_refl _, y, y2, hb4⟩
end Go.Proofs.Ytnlacjedamngkaa
