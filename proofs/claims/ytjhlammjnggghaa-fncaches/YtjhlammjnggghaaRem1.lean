/-
  Lists of verdicts laid together, of the program.
-/
import Derived.Test.YtjhlammjnggghaaRem0
namespace Go.Proofs.Ytjhlammjnggghaa
open Go.ChangeShapes Go.WideShapes Go.ChangeAt Go.RowKit Go.Maps
set_option linter.unusedVariables false
set_option maxRecDepth 100000

theorem verC_len (x : VerdictD) : (verC x).length = 3 := rfl
theorem vers_one (l : List VerdictD) : One (l.flatMap verC) := by
  intro v hv
  obtain ⟨x, _, hx⟩ := List.mem_flatMap.1 hv
  simp only [verC, List.mem_cons, List.not_mem_nil, or_false] at hx
  rcases hx with rfl | rfl | rfl <;> rfl
def SrcV (w : World) (a : Option Addr) (l : List VerdictD) : Prop := l = [] ∨ ∃ b o, a = some ⟨b, o, none⟩ ∧ b < w.heap.size ∧ ∀ j u, (l.flatMap verC)[j]? = some u → w.cell? ((⟨b, o, none⟩ : Addr).add j) = some u
theorem ver_src {w : World} {S : Nat → Prop} {a : Option Addr} {n k : Nat} {l : List VerdictD} (h : LAt 3 verdictR w S (.slice a n k) l) : SrcV w a l := by
  obtain ⟨a', cap', e, hl, h⟩ := h
  injection e with e1 e2 e3
  subst e1
  rcases h with h | ⟨b, o, h1, h2, h3, h4⟩
  · exact .inl h
  · refine .inr ⟨b, o, h1, h2, flat_src (N := 3) verC_len (by omega) (fun i x hx => ?_)⟩
    obtain ⟨cs, rfl, hin⟩ := h4 i x hx
    exact hin
theorem SrcV.keep {w w' : World} {a : Option Addr} {l : List VerdictD} (h : SrcV w a l) (hb : Below w.heap.size w w') : SrcV w' a l := by
  rcases h with h | ⟨b, o, h1, h2, h3⟩
  · exact .inl h
  · refine .inr ⟨b, o, h1, Nat.lt_of_lt_of_le h2 hb.size, fun j u hu => ?_⟩
    have e : (⟨b, o, none⟩ : Addr).add j = ⟨b, o + j, none⟩ := by unfold Addr.add; split <;> simp_all
    have := h3 j u hu
    rw [e] at this ⊢
    rw [hb.cell (p := ⟨b, o + j, none⟩) h2]
    exact this
theorem lowV {w : World} {b lo : Nat} {l : List VerdictD} (hw : WrAt w b 0 (l.length * 3)) (hi : InB w b 0 (l.flatMap verC)) (hlo : lo ≤ b) (hl : l.length ≤ 9223372036854775807) (cap : Nat) : LOw 3 verdictO w (Within lo w.heap.size) (.slice (some ⟨b, 0, none⟩) l.length cap) l := by
  refine ⟨_, _, rfl, hl, .inr ⟨b, 0, fun _ _ => False, rfl, ⟨hlo, hw.1⟩, hw, fun _ _ e => e.elim, fun _ _ _ e => e.elim, fun i x hx => ⟨verC x, rfl, fun j u hu => ?_⟩⟩⟩
  have hj : j < 3 := by rw [← verC_len x]; exact (List.getElem?_eq_some_iff.1 hu).1
  have := hi (i * 3 + j) u (by rw [List.flatMap_def, flat_at (N := 3) _ i j (fun cs hcs => by obtain ⟨y, _, rfl⟩ := List.mem_map.1 hcs; rfl) hj, List.getElem?_map, hx]; exact hu)
  rw [show 0 + i * 3 + j = 0 + (i * 3 + j) by omega]
  exact this
theorem sizeVer2 : (Try.prog.info? 59).map (·.size) = some 3 := by kernel_rfl
theorem makeV (n : Nat) (hn : n ≤ 1048577) (w : World) : ∃ w0, (Instr.makeSlice 57 (.int .i64 n) (.int .i64 n)).run Try.prog w = .ok (.slice (some ⟨w.heap.size, 0, none⟩) n n) w0 ∧ WrAt w0 w.heap.size 0 (n * 3) ∧ Below w.heap.size w w0 := by
  obtain ⟨i0, hi, hz0, hz1, hz2⟩ := info_parts mInfoVerdict
  have h := run_make (P := Try.prog) w 57 59 i0 _ Try.underlying57 hi hz0 .i64 .i64 n n (by omega) (by omega) (by rw [hz2]; omega) (by omega)
  refine ⟨_, h, ?_, bnew _ _⟩
  rw [hz1]
  exact WrAt.new _ _ _ _ (by rw [size_madeCells]; simp)
theorem copyV (l : List VerdictD) (w0 : World) (b o dLen dCap : Nat) (a : Option Addr) (cap : Nat) (hs : SrcV w0 a l) (hw : WrAt w0 b o (l.length * 3)) (hd : l.length ≤ dLen) :
    ∃ w4, (Builtin.copy_ #[57, 57] 3 #[.slice (some ⟨b, o, none⟩) dLen dCap, .slice a l.length cap]).run Try.prog w0 = .ok (.int .i64 l.length) w4 ∧ Turn (fun k => k = b) w0 w4 ∧ InB w4 b o (l.flatMap verC) ∧ (∀ c p m, WrAt w0 c p m → WrAt w4 c p m) ∧ (∀ i cs, InB w0 b i cs → i + cs.length ≤ o → InB w4 b i cs) := by
  rcases hs with rfl | ⟨b', o', rfl, hbk, hsrc⟩
  · exact ⟨w0, run_copy0 w0 _ _ _ 59 3 _ _ _ _ _ Try.underlying57 sizeVer2, Turn.refl _ _, (fun i v hv => by simp at hv), fun _ _ _ h => h, fun _ _ h _ => h⟩
  · have hfl := flatMap_len l verC verC_len
    have hmin : Nat.min l.length dLen = l.length := Nat.min_eq_left hd
    have hr := run_copyN (P := Try.prog) w0 57 57 3 59 3 b o dLen dCap ⟨b', o', none⟩ l.length cap (l.flatMap verC) Try.underlying57 sizeVer2 (by rw [hfl, hmin]) hsrc (by rw [hfl]; exact hw) (vers_one l)
    rw [hmin] at hr
    refine ⟨_, hr, putL_turn _ _ _ _ _, ?_, fun c p m h => putL_wr _ _ h, fun i cs h hi => putL_in _ _ h (by omega)⟩
    exact putL_at (l.flatMap verC) 0 hw (by omega) (by rw [hfl]; omega)
set_option maxHeartbeats 2000000 in
theorem implLaid1 (l : List VerdictD) (S : Nat → Prop) (v : Value) (b0 : Nat) (w : World) (h0 : LAt 3 verdictR w S v l) (hc : w.cell? ⟨b0, 0, none⟩ = some v) (hb0 : b0 < w.heap.size) (hlen : l.length ≤ 1048576) :
    Calls Try.prog 125 #[.slice (some ⟨b0, 0, none⟩) 1 1] w fun e w' => ∃ v', e = .returned v' ∧ LOw 3 verdictO w' (Within w.heap.size w'.heap.size) v' l ∧ Below w.heap.size w w' := by
  obtain ⟨a, cap, rfl⟩ := h0.form
  have hsr := ver_src h0
  obtain ⟨w0, hmk, hrow, hbm⟩ := makeV l.length (by omega) w
  have hc0 : w0.cell? ⟨b0, 0, none⟩ = some (.slice a l.length cap) := by rw [hbm.cell (p := ⟨b0, 0, none⟩) hb0]; exact hc
  obtain ⟨w4, hrun, ht, hin, hwr, _⟩ := copyV l w0 w.heap.size 0 l.length l.length a cap (hsr.keep hbm) hrow (Nat.le_refl _)
  have hb4 := hbm.trans (ht.belowFrom hbm.size (fun k hk => by omega))
  have HY0 := hide (And.intro (lowV (hwr _ _ _ hrow) hin (Nat.le_refl _) (by omega) l.length) hb4)
  have hc4 : w4.cell? ⟨b0, 0, none⟩ = some (.slice a l.length cap) := by rw [hb4.cell (p := ⟨b0, 0, none⟩) hb0]; exact hc
  clear hb4 hrow hsr h0 ht hin hwr
  go_enter Try.func125, Try.ntmps125
  go_wp2
  go_loopw [3, 12] (fun s i wk => ∃ k : Nat, k ≤ 1 ∧ i = .int .i64 k ∧ s = .int .i64 (k * l.length : Nat) ∧ wk = w) (fun _ i _ => 1 - (intOf i).toNat)
  case atStart => exact ⟨0, by omega, rfl, by simp, rfl⟩
  case round =>
    obtain ⟨k, hk, rfl, rfl, rfl⟩ := hrel
    by_cases hlt : k = 0
    · subst hlt
      go_wp2
      go_roundw
      case rel => exact ⟨1, by omega, by go_num, by go_num, trivial⟩
      case measure => simp [intOf]
    · obtain rfl : k = 1 := by omega
      simp only [Nat.one_mul]
      go_wp2
      go_loopw [7, 25] (fun s i wk => (s = .int .i64 0 ∧ i = .int .i64 0 ∧ wk = w0) ∨ (s = .int .i64 l.length ∧ i = .int .i64 1 ∧ wk = w4)) (fun _ i _ => 1 - (intOf i).toNat)
      case atStart => exact .inl ⟨rfl, rfl, rfl⟩
      case round =>
        rcases hrel with ⟨rfl, rfl, rfl⟩ | ⟨rfl, rfl, rfl⟩
        · go_wp2_with (first | (at_builtin; refine wpl_copy _ rfl (.tmp 32) (.tmp 33) 57 57 rfl _ _ rfl rfl hrun ?_))
          go_roundw
          case rel => exact .inr ⟨by go_num, by go_num, trivial⟩
          case measure => simp [intOf]
        · go_wp2
          go_ret
          obtain ⟨y, hb4⟩ := unhide HY0
          exact ⟨_, rfl, y, hb4⟩
set_option maxHeartbeats 2000000 in
theorem implLaid2 (l : List VerdictD) (x : VerdictD) (S : Nat → Prop) (v : Value) (b0 b1 : Nat) (w : World) (h0 : LAt 3 verdictR w S v l) (hc : w.cell? ⟨b0, 0, none⟩ = some v) (hd : w.cell? ⟨b0, 1, none⟩ = some (.slice (some ⟨b1, 0, none⟩) 1 1)) (hx : InB w b1 0 (verC x)) (hb0 : b0 < w.heap.size) (hb1 : b1 < w.heap.size) (hlen : l.length ≤ 1048576) :
    Calls Try.prog 125 #[.slice (some ⟨b0, 0, none⟩) 2 2] w fun e w' => ∃ v', e = .returned v' ∧ LOw 3 verdictO w' (Within w.heap.size w'.heap.size) v' (l ++ [x]) ∧ Below w.heap.size w w' := by
  obtain ⟨a, cap, rfl⟩ := h0.form
  have hsr := ver_src h0
  obtain ⟨w0, hmk, hrow, hbm⟩ := makeV (l.length + 1) (by omega) w
  have hmk : (Instr.makeSlice 57 (.int .i64 ((l.length : Int) + 1)) (.int .i64 ((l.length : Int) + 1))).run Try.prog w = .ok (.slice (some ⟨w.heap.size, 0, none⟩) (l.length + 1) (l.length + 1)) w0 := by have h := hmk; rw [Int.natCast_add] at h; exact h
  have hc0 : w0.cell? ⟨b0, 0, none⟩ = some (.slice a l.length cap) := by rw [hbm.cell (p := ⟨b0, 0, none⟩) hb0]; exact hc
  obtain ⟨w4, hrun, ht, hin, hwr, _⟩ := copyV l w0 w.heap.size 0 (l.length + 1) (l.length + 1) a cap (hsr.keep hbm) (by simpa using hrow.part 0 (l.length * 3) (by omega)) (by omega)
  have hb4 := hbm.trans (ht.belowFrom hbm.size (fun k hk => by omega))
  have hd4 : w4.cell? ⟨b0, 1, none⟩ = some (.slice (some ⟨b1, 0, none⟩) 1 1) := by rw [hb4.cell (p := ⟨b0, 1, none⟩) hb0]; exact hd
  have hs1 : SrcV w4 (some ⟨b1, 0, none⟩) [x] := .inr ⟨b1, 0, rfl, Nat.lt_of_lt_of_le hb1 hb4.size, fun j u hu => by
    have e : (⟨b1, 0, none⟩ : Addr).add j = ⟨b1, 0 + j, none⟩ := by unfold Addr.add; split <;> simp_all
    rw [e, hb4.cell (p := ⟨b1, 0 + j, none⟩) hb1]
    exact hx j u (by simpa using hu)⟩
  have hw4 := hwr _ _ _ hrow
  have hfl := flatMap_len l verC verC_len
  obtain ⟨w5, hrun5, ht5, hin5, hwr5, hold⟩ := copyV [x] w4 w.heap.size (l.length * 3) 1 1 (some ⟨b1, 0, none⟩) 1 hs1 (by simpa using hw4.part (l.length * 3) 3 (by omega)) (by simp)
  rw [List.length_singleton] at hrun5
  have hb5 := hb4.trans (ht5.belowFrom hb4.size (fun k hk => by omega))
  have hin6 : InB w5 w.heap.size 0 ((l ++ [x]).flatMap verC) := by
    have hi0 := hold 0 _ hin (by rw [hfl]; omega)
    rw [List.flatMap_append]
    intro i u hu
    rcases Nat.lt_or_ge i (l.flatMap verC).length with h | h
    · rw [List.getElem?_append_left h] at hu; exact hi0 i u hu
    · rw [List.getElem?_append_right h] at hu
      have := hin5 _ u hu
      rw [hfl] at this h
      rwa [show l.length * 3 + (i - l.length * 3) = 0 + i by omega] at this
  have HY0 := hide (And.intro (lowV (l := l ++ [x]) (by rw [List.length_append]; exact hwr5 _ _ _ hw4) hin6 (Nat.le_refl w.heap.size) (by rw [List.length_append, List.length_singleton]; omega) (l.length + 1)) hb5)
  have hln : (l ++ [x]).length = l.length + 1 := by simp
  rw [hln] at HY0
  clear hb4 hb5 hrow hsr h0 ht hin hwr ht5 hin5 hwr5 hold hin6 hs1 hw4 hx
  go_enter Try.func125, Try.ntmps125
  go_wp2
  go_loopw [3, 12] (fun s i wk => ((s = .int .i64 0 ∧ i = .int .i64 0) ∨ (s = .int .i64 l.length ∧ i = .int .i64 1) ∨ (s = .int .i64 ((l.length : Int) + 1) ∧ i = .int .i64 2)) ∧ wk = w) (fun _ i _ => 2 - (intOf i).toNat)
  case atStart => exact ⟨.inl ⟨rfl, rfl⟩, rfl⟩
  case round =>
    rcases hrel with ⟨⟨rfl, rfl⟩ | ⟨rfl, rfl⟩ | ⟨rfl, rfl⟩, hww⟩
    · subst wr
      go_wp2
      go_roundw
      case rel => exact ⟨.inr (.inl ⟨by go_num, by go_num⟩), trivial⟩
      case measure => simp [intOf]
    · subst wr
      go_wp2
      go_roundw
      case rel => exact ⟨.inr (.inr ⟨by go_num, by go_num⟩), trivial⟩
      case measure => simp [intOf]
    · subst wr
      go_wp2
      go_loopw [7, 25] (fun s i wk => (s = .int .i64 0 ∧ i = .int .i64 0 ∧ wk = w0) ∨ (s = .int .i64 l.length ∧ i = .int .i64 1 ∧ wk = w4) ∨ (i = .int .i64 2 ∧ wk = w5)) (fun _ i _ => 2 - (intOf i).toNat)
      case atStart => exact .inl ⟨rfl, rfl, rfl⟩
      case round =>
        rcases hrel with ⟨rfl, rfl, hww⟩ | ⟨rfl, rfl, hww⟩ | ⟨rfl, hww⟩
        · subst hww
          go_wp2_with (first | (at_builtin; refine wpl_copy _ rfl (.tmp 32) (.tmp 33) 57 57 rfl _ _ rfl rfl hrun ?_))
          go_roundw
          case rel => exact .inr (.inl ⟨by go_num, by go_num, trivial⟩)
          case measure => simp [intOf]
        · subst hww
          go_wp2_with (first | (at_builtin; refine wpl_copy _ rfl (.tmp 32) (.tmp 33) 57 57 rfl _ _ rfl rfl hrun5 ?_))
          go_roundw
          case rel => exact .inr (.inr ⟨by go_num, trivial⟩)
          case measure => simp [intOf]
        · subst hww
          go_wp2
          go_ret
          obtain ⟨y, hb4⟩ := unhide HY0
          exact ⟨_, rfl, y, hb4⟩
end Go.Proofs.Ytjhlammjnggghaa
