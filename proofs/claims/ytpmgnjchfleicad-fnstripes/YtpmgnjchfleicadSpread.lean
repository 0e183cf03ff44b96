/-
  Contracts of chapter 4's Spread, of the program and of the specification.
-/
import Derived.Test.YtpmgnjchfleicadMix
import Derived.Test.YtpmgnjchfleicadInts
import Derived.OwnWalk
import Derived.Laws.OwnMore
import Derived.Laws.StructEq
import Derived.DeepKeys
import Derived.Laws.IdiomCopy
namespace Go.Proofs.Ytpmgnjchfleicad
open Go.ChangeShapes Go.WideShapes Go.ChangeAt Go.RowKit
set_option linter.unusedVariables false

def cnt (l : List Int) (n i : Int) : Int := (l.map fun x => if stripev x n = i then (1 : Int) else 0).sum
theorem cnt_snoc (l : List Int) (n i : Int) (k : Nat) (h : k < l.length) : cnt (l.take (k + 1)) n i = cnt (l.take k) n i + (if stripev (l.getD k 0) n = i then (1 : Int) else 0) := by
  unfold cnt
  rw [List.take_succ_eq_append_getElem h, List.map_append, List.sum_append]
  simp [List.getD, h]
theorem cnt_in (l : List Int) (n i : Int) : 0 ≤ cnt l n i ∧ cnt l n i ≤ l.length := by
  unfold cnt
  induction l with
  | nil => simp
  | cons x r ih => simp only [List.map_cons, List.sum_cons, List.length_cons]; split <;> omega
def spreadL (l : List Int) (n : Int) : List Int := if inB n 1 3 then (List.range n.toNat).map (fun i : Nat => cnt l n (i : Int)) else []
theorem spreadL_no {l : List Int} {n : Int} (h : inB n 1 3 = false) : spreadL l n = [] := by simp [spreadL, h]
theorem spreadL_yes {l : List Int} {n : Int} (h : inB n 1 3 = true) : spreadL l n = (List.range n.toNat).map (fun i : Nat => cnt l n (i : Int)) := by simp [spreadL, h]
def cells (l : List Int) (n : Int) (k : Nat) : List Value := (List.range k).map fun i : Nat => Value.int .i64 (cnt l n (i : Int))
theorem cells_succ (l : List Int) (n : Int) (k : Nat) : cells l n (k + 1) = cells l n k ++ [.int .i64 (cnt l n (k : Int))] := by simp [cells, List.range_succ]
theorem empty_ints (w : World) (b cap : Nat) : IntsAt w (.slice (some ⟨b, 0, none⟩) 0 cap) [] := ⟨_, _, rfl, by simp, .inl rfl⟩
theorem owned_ints {w : World} {base : Nat} {v : Value} {l : List Int} {n : Int} {k : Nat} (h : w.ownsRow base 3 1 v k (cells l n k)) (hk : k ≤ 3) : IntsAt w v ((List.range k).map fun i : Nat => cnt l n (i : Int)) := by
  obtain ⟨h1, h2⟩ := h
  rcases h2 with ⟨rfl, rfl⟩ | ⟨g, cap, cur, rfl, hg, hh, hc, hm, hs, ht⟩
  · exact ⟨none, 0, rfl, by simp, .inl rfl⟩
  · have how : w.ownsRow base 3 1 (.slice (some ⟨g, 0, none⟩) k cap) k (cells l n k) := ⟨h1, .inr ⟨g, cap, cur, rfl, hg, hh, hc, hm, hs, ht⟩⟩
    have hlt : g < w.heap.size := by
      rcases Nat.lt_or_ge g w.heap.size with h | h
      · exact h
      · rw [Array.getElem?_eq_none h] at hh; cases hh
    refine ⟨_, cap, by simp, by simp; omega, .inr ⟨g, 0, rfl, hlt, fun i hi => ?_⟩⟩
    have hi' : i < k := by simpa using hi
    rw [Nat.zero_add, how.cellAt i (by omega)]
    simp [cells, List.getD, hi']

set_option maxHeartbeats 2000000 in
theorem specSpread (l : List Int) (v : Value) (n : Int) (w : World) (ha : IntsAt w v l) (h1 : l.length ≤ 1048576) :
    Calls Try.prog 7 #[v, .int .i64 n] w fun e w' => ∃ v', e = .returned v' ∧ IntsAt w' v' (spreadL l n) ∧ Below w.heap.size w w' := by
  obtain ⟨a, cap, rfl⟩ := ha.form
  have HA := hide ha
  clear ha
  cases hn : inB n 1 3
  · rw [spreadL_no hn]
    go_enter Try.func7, Try.ntmps7
    go_wp2_with (go_at_call 44; refine (specIn _ _ _ _ hn _).mono ?_; rintro e w' ⟨rfl, rfl⟩)
    go_ret
    exact ⟨_, rfl, empty_ints _ _ _, by (repeat (first | with_reducible assumption | with_reducible exact Below.refl _ _ | with_reducible refine Below.drew ?_ | with_reducible refine bdrewN ?_ _ | (with_reducible refine Below.alloc ?_ ?side _; case side => (first | omega | (simp [go_sem]; done) | (simp [go_sem]; omega))) | (with_reducible refine Below.setCell ?_ ?side _; case side => (first | omega | (simp [go_sem]; done) | (simp [go_sem]; omega)))))⟩
  rw [spreadL_yes hn]
  have hn' := (inB_iff n 1 3).1 hn
  obtain ⟨m, rfl⟩ := Int.eq_ofNat_of_zero_le (show 0 ≤ n by omega)
  have hm1 : 1 ≤ m := by omega
  have hm3 : m ≤ 3 := by omega
  obtain ⟨i0, hi, hz0, hz1, hz2⟩ := info_parts infoInt
  go_enter Try.func7, Try.ntmps7
  go_wp2_with (go_at_call 44; refine (specIn _ _ _ _ hn _).mono ?_; rintro e w' ⟨rfl, rfl⟩)
  have hown0 : (w.alloc (.cells #[] 3)).ownsRow w.heap.size 3 1 (.slice (some ⟨w.heap.size, 0, none⟩) 0 0) 0 (cells l m 0) := World.ownsRow_made w #[] 0 (Nat.le_refl _) (by unfold maxLen; omega) rfl
  go_loopw [5, 6] (fun o i wk => ∃ k : Nat, k ≤ m ∧ i = .int .i64 k ∧ wk.ownsRow w.heap.size 3 1 o k (cells l m k) ∧ Below w.heap.size w wk) (fun _ i _ => m - (intOf i).toNat)
  case atStart => exact ⟨0, Nat.zero_le _, rfl, hown0, bnew _ _⟩
  case round =>
    obtain ⟨k, hk, rfl, hown, hbl⟩ := hrel
    have hbs := hbl.size
    by_cases hlt : k < m
    · have hki : (k : Int) < (m : Int) := by omega
      go_wp2
      go_loop [7, 8] (fun c j => ∃ q : Nat, q ≤ l.length ∧ j = .int .i64 q ∧ c = .int .i64 (cnt (l.take q) m k)) (fun _ j => l.length - (intOf j).toNat)
      case atStart => exact ⟨0, Nat.zero_le _, rfl, rfl⟩
      case round =>
        obtain ⟨q, hq, rfl, rfl⟩ := hrel
        have hcl := cnt_in (l.take q) m k
        rw [List.length_take] at hcl
        by_cases hqt : q < l.length
        · obtain ⟨b, o, rfl, hbk, c0⟩ := (unhide HA).at q hqt
          have hsn := cnt_snoc l m k q hqt
          generalize l.getD q 0 = x at *
          rw [← hbl.cell hbk] at c0
          have hqi : (q : Int) < (l.length : Int) := by omega
          generalize cnt (l.take q) m k = C at *
          by_cases hst : stripev x m = k
          · rw [if_pos hst] at hsn
            have HS := hide hsn
            clear hsn
            go_wp2_with (go_at_call 20; refine (specStripeOf _ _ _).mono ?_; rintro e w' ⟨rfl, rfl⟩; rw [hst])
            exact ⟨⟨q + 1, by omega, by go_num, by rw [unhide HS]⟩, by simp [intOf]; omega⟩
          · rw [if_neg hst] at hsn
            have HS := hide hsn
            clear hsn
            have hne : (stripev x m == (k : Int)) = false := beq_eq_false_iff_ne.2 hst
            go_wp2_with (go_at_call 20; refine (specStripeOf _ _ _).mono ?_; rintro e w' ⟨rfl, rfl⟩)
            exact ⟨⟨q + 1, by omega, by go_num, by rw [unhide HS, Int.add_zero]⟩, by simp [intOf]; omega⟩
        · have hqi : ¬ (q : Int) < (l.length : Int) := by omega
          have e : l.take q = l := List.take_of_length_le (by omega)
          rw [e]
          go_wp2_with (first | (at_builtin; refine wpList_append_own _ rfl (.tmp 35) (.tmp 37) 22 rfl w.heap.size 3 i0 (.int .i64 0) 1 8 Try.underlying22 hi hz0 hz1 hz2 rfl (by decide) _ _ _ rfl (hown.alloc _) ⟨_, 0, none⟩ 1 1 [.int .i64 (cnt l m k)] rfl rfl ?_ (by intro u hu; simp at hu; subst hu; rfl) (by unfold maxLen; omega) (by omega) ?_ ?_))
          · omega
          · intro v' w' how hgr hnil
            have hB := (hbl.alloc hbs (.cells #[.int .i64 (cnt l m k)] 3)).grown hgr (by simp; omega) (fun j hj => (hown.lt j hj).1)
            go_wp2
            exact ⟨⟨k + 1, by omega, by go_num, by rw [cells_succ]; exact how, hB⟩, by simp [intOf]; omega⟩
    · have hki : ¬ (k : Int) < (m : Int) := by omega
      obtain rfl : k = m := by omega
      go_wp2
      go_ret
      exact ⟨_, rfl, owned_ints hown hm3, hbl⟩

theorem stripe_in (x : Int) (m : Nat) (h : 1 ≤ m) : 0 ≤ stripev x m ∧ stripev x m < m := by
  unfold stripev
  rw [if_neg (by omega)]
  have := mixv_lo x
  exact ⟨Int.tmod_nonneg _ this, Int.tmod_lt_of_pos _ (by omega)⟩
set_option maxHeartbeats 2000000 in
theorem implCount (l : List Int) (v : Value) (m : Nat) (w : World) (ha : IntsAt w v l) (h1 : l.length ≤ 1048576) (hm1 : 1 ≤ m) (hm3 : m ≤ 3) :
    Calls Try.prog 45 #[v, .int .i64 m] w fun e w' => e = .returned (.agg #[.int .i64 (cnt l m 0), .int .i64 (cnt l m 1), .int .i64 (cnt l m 2)]) ∧ Below w.heap.size w w' := by
  obtain ⟨a, cap, rfl⟩ := ha.form
  have HA := hide ha
  clear ha
  go_enter Try.func45, Try.ntmps45
  go_wp2
  go_loopw [10] (fun i wk => ∃ k : Nat, k ≤ l.length ∧ i = .int .i64 k ∧ wk = (w.alloc (.cells #[.int .i64 0, .int .i64 0, .int .i64 0] 54)).alloc (.cells #[.int .i64 (cnt (l.take k) m 0), .int .i64 (cnt (l.take k) m 1), .int .i64 (cnt (l.take k) m 2)] 54)) (fun i _ => l.length - (intOf i).toNat)
  case atStart => exact ⟨0, Nat.zero_le _, rfl, rfl⟩
  case round =>
    obtain ⟨k, hk, rfl, rfl⟩ := hrel
    have q0 := cnt_in (l.take k) m 0
    have q1 := cnt_in (l.take k) m 1
    have q2 := cnt_in (l.take k) m 2
    rw [List.length_take] at q0 q1 q2
    by_cases hlt : k < l.length
    · obtain ⟨b, o, rfl, hbk, c0⟩ := (unhide HA).at k hlt
      have s0 := cnt_snoc l m 0 k hlt
      have s1 := cnt_snoc l m 1 k hlt
      have s2 := cnt_snoc l m 2 k hlt
      generalize l.getD k 0 = x at *
      have hst := stripe_in x m hm1
      have hki : (k : Int) < (l.length : Int) := by omega
      have c0' : ((w.alloc (.cells #[.int .i64 0, .int .i64 0, .int .i64 0] 54)).alloc (.cells #[.int .i64 (cnt (l.take k) m 0), .int .i64 (cnt (l.take k) m 1), .int .i64 (cnt (l.take k) m 2)] 54)).cell? ⟨b, o + k, none⟩ = some (.int .i64 x) := by
        rw [World.cell?_alloc_past _ _ _ (by simp; omega), World.cell?_alloc_past _ _ _ hbk]; exact c0
      clear c0
      generalize cnt (l.take k) m 0 = C0 at *
      generalize cnt (l.take k) m 1 = C1 at *
      generalize cnt (l.take k) m 2 = C2 at *
      have hcase : stripev x m = 0 ∨ stripev x m = 1 ∨ stripev x m = 2 := by omega
      rcases hcase with hs | hs | hs
      all_goals
        rw [hs] at s0 s1 s2
        simp only [if_true, if_false, Int.reduceEq] at s0 s1 s2
        have HS := hide (And.intro s0 (And.intro s1 s2))
        clear s0 s1 s2
        go_wp2_with (go_at_call 17; refine (implStripeOf _ _ _).mono ?_; rintro e w' ⟨rfl, rfl⟩; rw [hs])
        obtain ⟨t0, t1, t2⟩ := unhide HS
        exact ⟨⟨k + 1, by omega, by go_num, by rw [t0, t1, t2]; simp⟩, by simp [intOf]; omega⟩
    · have hki : ¬ (k : Int) < (l.length : Int) := by omega
      have e : l.take k = l := List.take_of_length_le (by omega)
      rw [e]
      go_wp2
      exact bodyPost_ret (v := .agg #[.int .i64 (cnt l m 0), .int .i64 (cnt l m 1), .int .i64 (cnt l m 2)]) (by simp [results, Try.results45, go_sem]) rfl ⟨rfl, by (repeat (first | with_reducible assumption | with_reducible exact Below.refl _ _ | with_reducible refine Below.drew ?_ | with_reducible refine bdrewN ?_ _ | (with_reducible refine Below.alloc ?_ ?side _; case side => (first | omega | (simp [go_sem]; done) | (simp [go_sem]; omega))) | (with_reducible refine Below.setCell ?_ ?side _; case side => (first | omega | (simp [go_sem]; done) | (simp [go_sem]; omega)))))⟩

theorem implSpread_no (l : List Int) (v : Value) (n : Int) (w : World) (ha : IntsAt w v l) (hn : inB n 1 3 = false) :
    Calls Try.prog 9 #[v, .int .i64 n] w fun e w' => ∃ b, e = .returned (.slice (some ⟨b, 0, none⟩) 0 0) ∧ w.heap.size ≤ b ∧ b < w'.heap.size ∧ Below w.heap.size w w' := by
  obtain ⟨a, cap, rfl⟩ := ha.form
  have hn' : n < 1 ∨ 3 < n := by
    rcases Int.lt_or_le n 1 with h | h
    · exact .inl h
    · rcases Int.lt_or_le 3 n with h' | h'
      · exact .inr h'
      · rw [(inB_iff n 1 3).2 ⟨h, h'⟩] at hn; cases hn
  rcases hn' with h | h
  · go_enter Try.func9, Try.ntmps9
    go_wp2
    go_ret
    exact ⟨_, rfl, Nat.le_refl _, by simp, by (repeat (first | with_reducible assumption | with_reducible exact Below.refl _ _ | with_reducible refine Below.drew ?_ | with_reducible refine bdrewN ?_ _ | (with_reducible refine Below.alloc ?_ ?side _; case side => (first | omega | (simp [go_sem]; done) | (simp [go_sem]; omega))) | (with_reducible refine Below.setCell ?_ ?side _; case side => (first | omega | (simp [go_sem]; done) | (simp [go_sem]; omega)))))⟩
  · have h2 : ¬ n < 1 := by omega
    go_enter Try.func9, Try.ntmps9
    go_wp2
    go_ret
    exact ⟨_, rfl, Nat.le_refl _, by simp, by (repeat (first | with_reducible assumption | with_reducible exact Below.refl _ _ | with_reducible refine Below.drew ?_ | with_reducible refine bdrewN ?_ _ | (with_reducible refine Below.alloc ?_ ?side _; case side => (first | omega | (simp [go_sem]; done) | (simp [go_sem]; omega))) | (with_reducible refine Below.setCell ?_ ?side _; case side => (first | omega | (simp [go_sem]; done) | (simp [go_sem]; omega)))))⟩
theorem eqArr (C0 C1 C2 : Int) (h0 : (Lit.int .i64 C0).wf = true) (h1 : (Lit.int .i64 C1).wf = true) (h2 : (Lit.int .i64 C2).wf = true) (w : World) :
    (Op.equalIn 10000 54 (.agg #[.int .i64 C0, .int .i64 C1, .int .i64 C2]) (.agg #[.int .i64 0, .int .i64 0, .int .i64 0])).run Try.prog w = .ok (decide (C0 = 0 ∧ C1 = 0 ∧ C2 = 0)) w := by
  have hk : Try.prog.keyTypeAt 2 54 = true := by kernel_rfl
  have ce : Try.prog.cellsOf 3 = 1 := by kernel_rfl
  have ct : Try.prog.cellsOf 54 = 3 := by kernel_rfl
  have hk1 : Try.prog.keyLits 3 54 (Value.agg #[.int .i64 C0, .int .i64 C1, .int .i64 C2]).cells.toList = some [.int .i64 C0, .int .i64 C1, .int .i64 C2] := by
    simp [Program.keyLits, Try.underlying54, Try.underlying3, Value.cells, ce, ct, h0, h1, h2, List.range, List.range.loop]
  obtain ⟨r, hr, hiff⟩ := run_equalIn_deep (P := Try.prog) 9998 2 54 hk w 3 3 (.agg #[.int .i64 C0, .int .i64 C1, .int .i64 C2]) (.agg #[.int .i64 0, .int .i64 0, .int .i64 0]) [.int .i64 C0, .int .i64 C1, .int .i64 C2] [.int .i64 0, .int .i64 0, .int .i64 0] (by kernel_rfl) (by kernel_rfl) hk1 (by kernel_rfl)
  rw [hr]
  congr 1
  simp only [List.cons.injEq, Lit.int.injEq, true_and, and_true] at hiff
  by_cases h : C0 = 0 ∧ C1 = 0 ∧ C2 = 0
  · rw [decide_eq_true h]; exact hiff.2 h
  · rw [decide_eq_false h]
    cases r
    · rfl
    · exact absurd (hiff.1 rfl) h
theorem cnt_wf (l : List Int) (n i : Int) (h : l.length ≤ 1048576) : (Lit.int .i64 (cnt l n i)).wf = true := by
  have := cnt_in l n i
  simp [Lit.wf, IntKind.min, IntKind.max, IntKind.signed, IntKind.bits]
  omega
set_option maxHeartbeats 2000000 in
theorem implSpread1 (l : List Int) (v : Value) (w : World) (ha : IntsAt w v l) (h1 : l.length ≤ 1048576) :
    Calls Try.prog 9 #[v, .int .i64 1] w fun e w' => e = .returned (.slice (some ⟨w.heap.size, 0, none⟩) 1 1) ∧ w.heap.size < w'.heap.size ∧ (w'.cell? ⟨w.heap.size, 0, none⟩ = some (.int .i64 (cnt l 1 0)) ∧ w'.frozen? ⟨w.heap.size, 0, none⟩ = false) ∧ Below w.heap.size w w' := by
  obtain ⟨a, cap, rfl⟩ := ha.form
  have hmk : ∀ w, (Instr.makeSlice 22 (.int .i64 1) (.int .i64 1)).run Try.prog w = .ok (.slice (some ⟨w.heap.size, 0, none⟩) 1 1) (w.alloc (.cells #[.int .i64 0] 3)) := fun w => by kernel_rfl
  have heq := eqArr (cnt l 1 0) (cnt l 1 1) (cnt l 1 2) (cnt_wf l 1 0 h1) (cnt_wf l 1 1 h1) (cnt_wf l 1 2 h1)
  go_enter Try.func9, Try.ntmps9
  go_wp2_with fail
  refine (implCount l (.slice a l.length cap) 1 _ (ha.keep (bnew _ _)) h1 (by omega) (by omega)).mono ?_
  rintro e w2 ⟨rfl, hb2⟩
  have z0 : w2.cell? ⟨w.heap.size, 0, none⟩ = some (.int .i64 0) := by rw [hb2.cell (by simp [go_sem])]; simp [go_sem]
  have f0 : w2.frozen? ⟨w.heap.size, 0, none⟩ = false := by rw [hb2.frozen (by simp [go_sem])]; simp [go_sem]
  have hlt : w.heap.size < w2.heap.size := by have := hb2.size; simp at this; omega
  have B2 := bthen (bnew _ _) hb2
  clear hb2
  generalize hC0' : cnt l 1 0 = C0 at *
  generalize hC1' : cnt l 1 1 = C1 at *
  generalize hC2' : cnt l 1 2 = C2 at *
  have HC := hide (And.intro hC0' (And.intro hC1' hC2'))
  clear hC0' hC1' hC2'
  have y0 : (w2.alloc (.cells #[.int .i64 C0, .int .i64 C1, .int .i64 C2] 54)).cell? ⟨w.heap.size, 0, none⟩ = some (.int .i64 0) := by rw [World.cell?_alloc_past _ _ _ hlt]; exact z0
  have g0 : (w2.alloc (.cells #[.int .i64 C0, .int .i64 C1, .int .i64 C2] 54)).frozen? ⟨w.heap.size, 0, none⟩ = false := by rw [(bnew w2 _).frozen hlt]; exact f0
  by_cases e0 : C0 = 0 ∧ C1 = 0 ∧ C2 = 0
  · rw [decide_eq_true e0] at heq
    obtain ⟨rfl, rfl, rfl⟩ := e0
    clear y0 g0
    go_wp2
    go_ret
    obtain ⟨hC0, hC1, hC2⟩ := unhide HC
    exact ⟨rfl, by simp; omega, ⟨by rw [hC0, World.cell?_alloc_past _ _ _ hlt]; exact z0, by rw [(bnew w2 _).frozen hlt]; exact f0⟩, by (repeat (first | with_reducible assumption | with_reducible exact Below.refl _ _ | with_reducible refine Below.drew ?_ | with_reducible refine bdrewN ?_ _ | (with_reducible refine Below.alloc ?_ ?side _; case side => (first | omega | (simp [go_sem]; done) | (simp [go_sem]; omega))) | (with_reducible refine Below.setCell ?_ ?side _; case side => (first | omega | (simp [go_sem]; done) | (simp [go_sem]; omega)))))⟩
  · rw [decide_eq_false e0] at heq
    clear e0
    have hcp : (Builtin.copy_ #[22, 22] 3 #[.slice (some ⟨w.heap.size, 0, none⟩) 1 1, .slice (some ⟨w2.heap.size, 0, none⟩) 1 3]).run Try.prog (w2.alloc (.cells #[.int .i64 C0, .int .i64 C1, .int .i64 C2] 54)) = .ok (goInt 1) ((w2.alloc (.cells #[.int .i64 C0, .int .i64 C1, .int .i64 C2] 54)).setCell ⟨w.heap.size, 0, none⟩ (.int .i64 C0)) := by
      have := run_copy_cells (P := Try.prog) (w2.alloc (.cells #[.int .i64 C0, .int .i64 C1, .int .i64 C2] 54)) 22 22 3 3 w.heap.size 0 1 1 ⟨w2.heap.size, 0, none⟩ 1 3 [.int .i64 C0] Try.underlying22 (by kernel_rfl) rfl ?_ ?_ ?_ ?_
      · simpa [World.setCells] using this
      · intro j u hu
        match j with
        | 0 => simp at hu; subst hu; simp [Addr.add, go_sem]
        | q + 1 => simp at hu
      · intro j hj
        match j, hj with
        | 0, _ => rw [Nat.zero_add, y0]; rfl
      · intro j hj
        match j, hj with
        | 0, _ => rw [Nat.zero_add]; exact g0
      · intro u hu
        simp at hu
        subst hu; rfl
    go_wp2
    go_ret
    obtain ⟨hC0, hC1, hC2⟩ := unhide HC
    exact ⟨rfl, by simp; omega, ⟨by rw [hC0, World.cell?_alloc_past _ _ _ (by simpa using hlt), World.cell?_setCell_same' _ _ _ (by rw [z0]; rfl)], by rw [(bnew _ _).frozen (by simpa using hlt)]; simpa using f0⟩, by (repeat (first | with_reducible assumption | with_reducible exact Below.refl _ _ | with_reducible refine Below.drew ?_ | with_reducible refine bdrewN ?_ _ | (with_reducible refine Below.alloc ?_ ?side _; case side => (first | omega | (simp [go_sem]; done) | (simp [go_sem]; omega))) | (with_reducible refine Below.setCell ?_ ?side _; case side => (first | omega | (simp [go_sem]; done) | (simp [go_sem]; omega)))))⟩
set_option maxHeartbeats 2000000 in
theorem implSpread2 (l : List Int) (v : Value) (w : World) (ha : IntsAt w v l) (h1 : l.length ≤ 1048576) :
    Calls Try.prog 9 #[v, .int .i64 2] w fun e w' => e = .returned (.slice (some ⟨w.heap.size, 0, none⟩) 2 2) ∧ w.heap.size < w'.heap.size ∧ (w'.cell? ⟨w.heap.size, 0, none⟩ = some (.int .i64 (cnt l 2 0)) ∧ w'.frozen? ⟨w.heap.size, 0, none⟩ = false ∧ w'.cell? ⟨w.heap.size, 1, none⟩ = some (.int .i64 (cnt l 2 1)) ∧ w'.frozen? ⟨w.heap.size, 1, none⟩ = false) ∧ Below w.heap.size w w' := by
  obtain ⟨a, cap, rfl⟩ := ha.form
  have hmk : ∀ w, (Instr.makeSlice 22 (.int .i64 2) (.int .i64 2)).run Try.prog w = .ok (.slice (some ⟨w.heap.size, 0, none⟩) 2 2) (w.alloc (.cells #[.int .i64 0, .int .i64 0] 3)) := fun w => by kernel_rfl
  have heq := eqArr (cnt l 2 0) (cnt l 2 1) (cnt l 2 2) (cnt_wf l 2 0 h1) (cnt_wf l 2 1 h1) (cnt_wf l 2 2 h1)
  go_enter Try.func9, Try.ntmps9
  go_wp2_with fail
  refine (implCount l (.slice a l.length cap) 2 _ (ha.keep (bnew _ _)) h1 (by omega) (by omega)).mono ?_
  rintro e w2 ⟨rfl, hb2⟩
  have z0 : w2.cell? ⟨w.heap.size, 0, none⟩ = some (.int .i64 0) := by rw [hb2.cell (by simp [go_sem])]; simp [go_sem]
  have f0 : w2.frozen? ⟨w.heap.size, 0, none⟩ = false := by rw [hb2.frozen (by simp [go_sem])]; simp [go_sem]
  have z1 : w2.cell? ⟨w.heap.size, 1, none⟩ = some (.int .i64 0) := by rw [hb2.cell (by simp [go_sem])]; simp [go_sem]
  have f1 : w2.frozen? ⟨w.heap.size, 1, none⟩ = false := by rw [hb2.frozen (by simp [go_sem])]; simp [go_sem]
  have hlt : w.heap.size < w2.heap.size := by have := hb2.size; simp at this; omega
  have B2 := bthen (bnew _ _) hb2
  clear hb2
  generalize hC0' : cnt l 2 0 = C0 at *
  generalize hC1' : cnt l 2 1 = C1 at *
  generalize hC2' : cnt l 2 2 = C2 at *
  have HC := hide (And.intro hC0' (And.intro hC1' hC2'))
  clear hC0' hC1' hC2'
  have y0 : (w2.alloc (.cells #[.int .i64 C0, .int .i64 C1, .int .i64 C2] 54)).cell? ⟨w.heap.size, 0, none⟩ = some (.int .i64 0) := by rw [World.cell?_alloc_past _ _ _ hlt]; exact z0
  have g0 : (w2.alloc (.cells #[.int .i64 C0, .int .i64 C1, .int .i64 C2] 54)).frozen? ⟨w.heap.size, 0, none⟩ = false := by rw [(bnew w2 _).frozen hlt]; exact f0
  have y1 : (w2.alloc (.cells #[.int .i64 C0, .int .i64 C1, .int .i64 C2] 54)).cell? ⟨w.heap.size, 1, none⟩ = some (.int .i64 0) := by rw [World.cell?_alloc_past _ _ _ hlt]; exact z1
  have g1 : (w2.alloc (.cells #[.int .i64 C0, .int .i64 C1, .int .i64 C2] 54)).frozen? ⟨w.heap.size, 1, none⟩ = false := by rw [(bnew w2 _).frozen hlt]; exact f1
  by_cases e0 : C0 = 0 ∧ C1 = 0 ∧ C2 = 0
  · rw [decide_eq_true e0] at heq
    obtain ⟨rfl, rfl, rfl⟩ := e0
    clear y0 g0 y1 g1
    go_wp2
    go_ret
    obtain ⟨hC0, hC1, hC2⟩ := unhide HC
    exact ⟨rfl, by simp; omega, ⟨by rw [hC0, World.cell?_alloc_past _ _ _ hlt]; exact z0, by rw [(bnew w2 _).frozen hlt]; exact f0, by rw [hC1, World.cell?_alloc_past _ _ _ hlt]; exact z1, by rw [(bnew w2 _).frozen hlt]; exact f1⟩, by (repeat (first | with_reducible assumption | with_reducible exact Below.refl _ _ | with_reducible refine Below.drew ?_ | with_reducible refine bdrewN ?_ _ | (with_reducible refine Below.alloc ?_ ?side _; case side => (first | omega | (simp [go_sem]; done) | (simp [go_sem]; omega))) | (with_reducible refine Below.setCell ?_ ?side _; case side => (first | omega | (simp [go_sem]; done) | (simp [go_sem]; omega)))))⟩
  · rw [decide_eq_false e0] at heq
    clear e0
    have hcp : (Builtin.copy_ #[22, 22] 3 #[.slice (some ⟨w.heap.size, 0, none⟩) 2 2, .slice (some ⟨w2.heap.size, 0, none⟩) 2 3]).run Try.prog (w2.alloc (.cells #[.int .i64 C0, .int .i64 C1, .int .i64 C2] 54)) = .ok (goInt 2) (((w2.alloc (.cells #[.int .i64 C0, .int .i64 C1, .int .i64 C2] 54)).setCell ⟨w.heap.size, 0, none⟩ (.int .i64 C0)).setCell ⟨w.heap.size, 1, none⟩ (.int .i64 C1)) := by
      have := run_copy_cells (P := Try.prog) (w2.alloc (.cells #[.int .i64 C0, .int .i64 C1, .int .i64 C2] 54)) 22 22 3 3 w.heap.size 0 2 2 ⟨w2.heap.size, 0, none⟩ 2 3 [.int .i64 C0, .int .i64 C1] Try.underlying22 (by kernel_rfl) rfl ?_ ?_ ?_ ?_
      · simpa [World.setCells] using this
      · intro j u hu
        match j with
        | 0 => simp at hu; subst hu; simp [Addr.add, go_sem]
        | 1 => simp at hu; subst hu; simp [Addr.add, go_sem]
        | q + 2 => simp at hu
      · intro j hj
        match j, hj with
        | 0, _ => rw [Nat.zero_add, y0]; rfl
        | 1, _ => rw [Nat.zero_add, y1]; rfl
      · intro j hj
        match j, hj with
        | 0, _ => rw [Nat.zero_add]; exact g0
        | 1, _ => rw [Nat.zero_add]; exact g1
      · intro u hu
        simp at hu
        rcases hu with rfl | rfl <;> rfl
    go_wp2
    go_ret
    obtain ⟨hC0, hC1, hC2⟩ := unhide HC
    exact ⟨rfl, by simp; omega, ⟨by rw [hC0, World.cell?_alloc_past _ _ _ (by simpa using hlt), off_ne (by omega), World.cell?_setCell_same' _ _ _ (by rw [z0]; rfl)], by rw [(bnew _ _).frozen (by simpa using hlt)]; simpa using f0, by rw [hC1, World.cell?_alloc_past _ _ _ (by simpa using hlt), World.cell?_setCell_same' _ _ _ (by rw [off_ne (by omega)]; rw [z1]; rfl)], by rw [(bnew _ _).frozen (by simpa using hlt)]; simpa using f1⟩, by (repeat (first | with_reducible assumption | with_reducible exact Below.refl _ _ | with_reducible refine Below.drew ?_ | with_reducible refine bdrewN ?_ _ | (with_reducible refine Below.alloc ?_ ?side _; case side => (first | omega | (simp [go_sem]; done) | (simp [go_sem]; omega))) | (with_reducible refine Below.setCell ?_ ?side _; case side => (first | omega | (simp [go_sem]; done) | (simp [go_sem]; omega)))))⟩
set_option maxHeartbeats 2000000 in
theorem implSpread3 (l : List Int) (v : Value) (w : World) (ha : IntsAt w v l) (h1 : l.length ≤ 1048576) :
    Calls Try.prog 9 #[v, .int .i64 3] w fun e w' => e = .returned (.slice (some ⟨w.heap.size, 0, none⟩) 3 3) ∧ w.heap.size < w'.heap.size ∧ (w'.cell? ⟨w.heap.size, 0, none⟩ = some (.int .i64 (cnt l 3 0)) ∧ w'.frozen? ⟨w.heap.size, 0, none⟩ = false ∧ w'.cell? ⟨w.heap.size, 1, none⟩ = some (.int .i64 (cnt l 3 1)) ∧ w'.frozen? ⟨w.heap.size, 1, none⟩ = false ∧ w'.cell? ⟨w.heap.size, 2, none⟩ = some (.int .i64 (cnt l 3 2)) ∧ w'.frozen? ⟨w.heap.size, 2, none⟩ = false) ∧ Below w.heap.size w w' := by
  obtain ⟨a, cap, rfl⟩ := ha.form
  have hmk : ∀ w, (Instr.makeSlice 22 (.int .i64 3) (.int .i64 3)).run Try.prog w = .ok (.slice (some ⟨w.heap.size, 0, none⟩) 3 3) (w.alloc (.cells #[.int .i64 0, .int .i64 0, .int .i64 0] 3)) := fun w => by kernel_rfl
  have heq := eqArr (cnt l 3 0) (cnt l 3 1) (cnt l 3 2) (cnt_wf l 3 0 h1) (cnt_wf l 3 1 h1) (cnt_wf l 3 2 h1)
  go_enter Try.func9, Try.ntmps9
  go_wp2_with fail
  refine (implCount l (.slice a l.length cap) 3 _ (ha.keep (bnew _ _)) h1 (by omega) (by omega)).mono ?_
  rintro e w2 ⟨rfl, hb2⟩
  have z0 : w2.cell? ⟨w.heap.size, 0, none⟩ = some (.int .i64 0) := by rw [hb2.cell (by simp [go_sem])]; simp [go_sem]
  have f0 : w2.frozen? ⟨w.heap.size, 0, none⟩ = false := by rw [hb2.frozen (by simp [go_sem])]; simp [go_sem]
  have z1 : w2.cell? ⟨w.heap.size, 1, none⟩ = some (.int .i64 0) := by rw [hb2.cell (by simp [go_sem])]; simp [go_sem]
  have f1 : w2.frozen? ⟨w.heap.size, 1, none⟩ = false := by rw [hb2.frozen (by simp [go_sem])]; simp [go_sem]
  have z2 : w2.cell? ⟨w.heap.size, 2, none⟩ = some (.int .i64 0) := by rw [hb2.cell (by simp [go_sem])]; simp [go_sem]
  have f2 : w2.frozen? ⟨w.heap.size, 2, none⟩ = false := by rw [hb2.frozen (by simp [go_sem])]; simp [go_sem]
  have hlt : w.heap.size < w2.heap.size := by have := hb2.size; simp at this; omega
  have B2 := bthen (bnew _ _) hb2
  clear hb2
  generalize hC0' : cnt l 3 0 = C0 at *
  generalize hC1' : cnt l 3 1 = C1 at *
  generalize hC2' : cnt l 3 2 = C2 at *
  have HC := hide (And.intro hC0' (And.intro hC1' hC2'))
  clear hC0' hC1' hC2'
  have y0 : (w2.alloc (.cells #[.int .i64 C0, .int .i64 C1, .int .i64 C2] 54)).cell? ⟨w.heap.size, 0, none⟩ = some (.int .i64 0) := by rw [World.cell?_alloc_past _ _ _ hlt]; exact z0
  have g0 : (w2.alloc (.cells #[.int .i64 C0, .int .i64 C1, .int .i64 C2] 54)).frozen? ⟨w.heap.size, 0, none⟩ = false := by rw [(bnew w2 _).frozen hlt]; exact f0
  have y1 : (w2.alloc (.cells #[.int .i64 C0, .int .i64 C1, .int .i64 C2] 54)).cell? ⟨w.heap.size, 1, none⟩ = some (.int .i64 0) := by rw [World.cell?_alloc_past _ _ _ hlt]; exact z1
  have g1 : (w2.alloc (.cells #[.int .i64 C0, .int .i64 C1, .int .i64 C2] 54)).frozen? ⟨w.heap.size, 1, none⟩ = false := by rw [(bnew w2 _).frozen hlt]; exact f1
  have y2 : (w2.alloc (.cells #[.int .i64 C0, .int .i64 C1, .int .i64 C2] 54)).cell? ⟨w.heap.size, 2, none⟩ = some (.int .i64 0) := by rw [World.cell?_alloc_past _ _ _ hlt]; exact z2
  have g2 : (w2.alloc (.cells #[.int .i64 C0, .int .i64 C1, .int .i64 C2] 54)).frozen? ⟨w.heap.size, 2, none⟩ = false := by rw [(bnew w2 _).frozen hlt]; exact f2
  by_cases e0 : C0 = 0 ∧ C1 = 0 ∧ C2 = 0
  · rw [decide_eq_true e0] at heq
    obtain ⟨rfl, rfl, rfl⟩ := e0
    clear y0 g0 y1 g1 y2 g2
    go_wp2
    go_ret
    obtain ⟨hC0, hC1, hC2⟩ := unhide HC
    exact ⟨rfl, by simp; omega, ⟨by rw [hC0, World.cell?_alloc_past _ _ _ hlt]; exact z0, by rw [(bnew w2 _).frozen hlt]; exact f0, by rw [hC1, World.cell?_alloc_past _ _ _ hlt]; exact z1, by rw [(bnew w2 _).frozen hlt]; exact f1, by rw [hC2, World.cell?_alloc_past _ _ _ hlt]; exact z2, by rw [(bnew w2 _).frozen hlt]; exact f2⟩, by (repeat (first | with_reducible assumption | with_reducible exact Below.refl _ _ | with_reducible refine Below.drew ?_ | with_reducible refine bdrewN ?_ _ | (with_reducible refine Below.alloc ?_ ?side _; case side => (first | omega | (simp [go_sem]; done) | (simp [go_sem]; omega))) | (with_reducible refine Below.setCell ?_ ?side _; case side => (first | omega | (simp [go_sem]; done) | (simp [go_sem]; omega)))))⟩
  · rw [decide_eq_false e0] at heq
    clear e0
    have hcp : (Builtin.copy_ #[22, 22] 3 #[.slice (some ⟨w.heap.size, 0, none⟩) 3 3, .slice (some ⟨w2.heap.size, 0, none⟩) 3 3]).run Try.prog (w2.alloc (.cells #[.int .i64 C0, .int .i64 C1, .int .i64 C2] 54)) = .ok (goInt 3) ((((w2.alloc (.cells #[.int .i64 C0, .int .i64 C1, .int .i64 C2] 54)).setCell ⟨w.heap.size, 0, none⟩ (.int .i64 C0)).setCell ⟨w.heap.size, 1, none⟩ (.int .i64 C1)).setCell ⟨w.heap.size, 2, none⟩ (.int .i64 C2)) := by
      have := run_copy_cells (P := Try.prog) (w2.alloc (.cells #[.int .i64 C0, .int .i64 C1, .int .i64 C2] 54)) 22 22 3 3 w.heap.size 0 3 3 ⟨w2.heap.size, 0, none⟩ 3 3 [.int .i64 C0, .int .i64 C1, .int .i64 C2] Try.underlying22 (by kernel_rfl) rfl ?_ ?_ ?_ ?_
      · simpa [World.setCells] using this
      · intro j u hu
        match j with
        | 0 => simp at hu; subst hu; simp [Addr.add, go_sem]
        | 1 => simp at hu; subst hu; simp [Addr.add, go_sem]
        | 2 => simp at hu; subst hu; simp [Addr.add, go_sem]
        | q + 3 => simp at hu
      · intro j hj
        match j, hj with
        | 0, _ => rw [Nat.zero_add, y0]; rfl
        | 1, _ => rw [Nat.zero_add, y1]; rfl
        | 2, _ => rw [Nat.zero_add, y2]; rfl
      · intro j hj
        match j, hj with
        | 0, _ => rw [Nat.zero_add]; exact g0
        | 1, _ => rw [Nat.zero_add]; exact g1
        | 2, _ => rw [Nat.zero_add]; exact g2
      · intro u hu
        simp at hu
        rcases hu with rfl | rfl | rfl <;> rfl
    go_wp2
    go_ret
    obtain ⟨hC0, hC1, hC2⟩ := unhide HC
    exact ⟨rfl, by simp; omega, ⟨by rw [hC0, World.cell?_alloc_past _ _ _ (by simpa using hlt), off_ne (by omega), off_ne (by omega), World.cell?_setCell_same' _ _ _ (by rw [z0]; rfl)], by rw [(bnew _ _).frozen (by simpa using hlt)]; simpa using f0, by rw [hC1, World.cell?_alloc_past _ _ _ (by simpa using hlt), off_ne (by omega), World.cell?_setCell_same' _ _ _ (by rw [off_ne (by omega)]; rw [z1]; rfl)], by rw [(bnew _ _).frozen (by simpa using hlt)]; simpa using f1, by rw [hC2, World.cell?_alloc_past _ _ _ (by simpa using hlt), World.cell?_setCell_same' _ _ _ (by rw [off_ne (by omega)]; rw [off_ne (by omega)]; rw [z2]; rfl)], by rw [(bnew _ _).frozen (by simpa using hlt)]; simpa using f2⟩, by (repeat (first | with_reducible assumption | with_reducible exact Below.refl _ _ | with_reducible refine Below.drew ?_ | with_reducible refine bdrewN ?_ _ | (with_reducible refine Below.alloc ?_ ?side _; case side => (first | omega | (simp [go_sem]; done) | (simp [go_sem]; omega))) | (with_reducible refine Below.setCell ?_ ?side _; case side => (first | omega | (simp [go_sem]; done) | (simp [go_sem]; omega)))))⟩

theorem spread1 (l : List Int) : spreadL l 1 = [cnt l 1 0] := rfl
theorem spread2 (l : List Int) : spreadL l 2 = [cnt l 2 0, cnt l 2 1] := rfl
theorem spread3 (l : List Int) : spreadL l 3 = [cnt l 3 0, cnt l 3 1, cnt l 3 2] := rfl
theorem spread_len (l : List Int) (n : Int) : (spreadL l n).length ≤ 3 := by
  unfold spreadL
  split
  · rename_i h; have := (inB_iff n 1 3).1 h; simp; omega
  · simp
def GotInts (w : World) (e : Ending) (w' : World) (L : List Int) : Prop :=
  ∃ b, e = .returned (.slice (some ⟨b, 0, none⟩) L.length L.length) ∧ w.heap.size ≤ b ∧ IntsAt w' (.slice (some ⟨b, 0, none⟩) L.length L.length) L ∧ RowI w' b L.length
theorem got_ints {w w' : World} {b : Nat} {L : List Int} (hb : w.heap.size ≤ b) (hlt : b < w'.heap.size) (hl : L.length ≤ 3)
    (h : ∀ j, j < L.length → w'.cell? ⟨b, j, none⟩ = some (.int .i64 (L.getD j 0)) ∧ w'.frozen? ⟨b, j, none⟩ = false) : GotInts w (.returned (.slice (some ⟨b, 0, none⟩) L.length L.length)) w' L :=
  ⟨b, rfl, hb, ⟨_, _, rfl, by omega, .inr ⟨b, 0, rfl, hlt, fun i hi => by rw [Nat.zero_add]; exact (h i hi).1⟩⟩, hlt, fun j hj => ⟨by rw [(h j hj).1]; rfl, (h j hj).2⟩⟩
theorem implSpread (l : List Int) (v : Value) (n : Int) (w : World) (ha : IntsAt w v l) (h1 : l.length ≤ 1048576) :
    Calls Try.prog 9 #[v, .int .i64 n] w fun e w' => GotInts w e w' (spreadL l n) ∧ Below w.heap.size w w' := by
  cases hn : inB n 1 3
  · refine (implSpread_no l v n w ha hn).mono ?_
    rintro e w' ⟨b, rfl, hb, hlt, hbel⟩
    rw [spreadL_no hn]
    exact ⟨got_ints (L := []) hb hlt (by simp) (fun j hj => absurd hj (by simp)), hbel⟩
  · have hn' := (inB_iff n 1 3).1 hn
    have hc : n = 1 ∨ n = 2 ∨ n = 3 := by omega
    rcases hc with rfl | rfl | rfl
    · refine (implSpread1 l v w ha h1).mono ?_
      rintro e w' ⟨rfl, hlt, ⟨c0, f0⟩, hbel⟩
      rw [spread1]
      refine ⟨got_ints (L := [cnt l 1 0]) (Nat.le_refl _) hlt (by simp) (fun j hj => ?_), hbel⟩
      match j, hj with
      | 0, _ => exact ⟨c0, f0⟩
    · refine (implSpread2 l v w ha h1).mono ?_
      rintro e w' ⟨rfl, hlt, ⟨c0, f0, c1, f1⟩, hbel⟩
      rw [spread2]
      refine ⟨got_ints (L := [cnt l 2 0, cnt l 2 1]) (Nat.le_refl _) hlt (by simp) (fun j hj => ?_), hbel⟩
      match j, hj with
      | 0, _ => exact ⟨c0, f0⟩
      | 1, _ => exact ⟨c1, f1⟩
    · refine (implSpread3 l v w ha h1).mono ?_
      rintro e w' ⟨rfl, hlt, ⟨c0, f0, c1, f1, c2, f2⟩, hbel⟩
      rw [spread3]
      refine ⟨got_ints (L := [cnt l 3 0, cnt l 3 1, cnt l 3 2]) (Nat.le_refl _) hlt (by simp) (fun j hj => ?_), hbel⟩
      match j, hj with
      | 0, _ => exact ⟨c0, f0⟩
      | 1, _ => exact ⟨c1, f1⟩
      | 2, _ => exact ⟨c2, f2⟩
/-- A list that was there ahead of block bx stands where only bx turns. -/
theorem IntsAt.only {w0 w w' : World} {v : Value} {l : List Int} {bx : Nat} (h : IntsAt w0 v l) (hb : Below w0.heap.size w0 w) (hx : w0.heap.size ≤ bx) (ho : OnlyB bx w w') : IntsAt w' v l := by
  obtain ⟨a, cap, rfl, hl, h⟩ := h
  refine ⟨a, cap, rfl, hl, ?_⟩
  rcases h with h | ⟨b, o, h1, h2, h3⟩
  · exact .inl h
  · refine .inr ⟨b, o, h1, ?_, fun i hi => ?_⟩
    · have := hb.size; have := ho.2.1; omega
    · rw [ho.2.2.1 _ (by show b ≠ bx; omega), hb.cell h2]; exact h3 i hi
theorem IntsAt.other {w w' : World} {b : Nat} {n c : Nat} {l : List Int} {bx : Nat} (h : IntsAt w (.slice (some ⟨b, 0, none⟩) n c) l) (hx : b ≠ bx) (ho : OnlyB bx w w') : IntsAt w' (.slice (some ⟨b, 0, none⟩) n c) l := by
  obtain ⟨a, cap, e, hl, h⟩ := h
  injection e with e1 e2 e3
  subst e1
  refine ⟨_, _, by rw [e2, e3], hl, ?_⟩
  rcases h with h | ⟨b', o, h1, h2, h3⟩
  · exact .inl h
  · injection h1 with h1
    injection h1 with h1 h4
    subst h1 h4
    refine .inr ⟨b, 0, rfl, by have := ho.2.1; omega, fun i hi => ?_⟩
    rw [ho.2.2.1 _ hx]; exact h3 i hi
theorem RowI.other {w w' : World} {b n bx : Nat} (h : RowI w b n) (hx : b < bx ∨ bx < b) (ho : OnlyB bx w w') : RowI w' b n :=
  ⟨by have := h.1; have := ho.2.1; omega, fun j hj => ⟨by rw [ho.2.2.1 _ (by show b ≠ bx; omega)]; exact (h.2 j hj).1, by rw [ho.2.2.2]; exact (h.2 j hj).2⟩⟩

end Go.Proofs.Ytpmgnjchfleicad
