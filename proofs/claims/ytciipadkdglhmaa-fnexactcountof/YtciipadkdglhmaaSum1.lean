/-
  Contracts of sums: what is added one by one behind a pointer, and over a list what a function tells of each.
-/
import Derived.Test.YtciipadkdglhmaaAbs2
import Derived.Test.YtciipadkdglhmaaADeed
namespace Go.Proofs.Ytciipadkdglhmaa
open Go.ChangeShapes Go.WideShapes Go.ChangeAt Go.RowKit
set_option linter.unusedVariables false
set_option maxRecDepth 100000

theorem fold_snoc' {β σ : Type} {g : σ → β → σ} {s : σ} {l : List β} {k : Nat} (h : k < l.length) : (l.take (k + 1)).foldl g s = g ((l.take k).foldl g s) l[k] := by
  rw [List.take_succ_eq_append_getElem h, List.foldl_append]
  simp
def addI (s : Int) (x : Int) : Int := wrap64 (s + x)
def sumI {α : Type} (g : α → Int) (l : List α) : Int := l.foldl (fun s x => addI s (g x)) 0
def AtI (bp lo : Nat) (w : World) (s : Int) : Prop := lo ≤ bp ∧ bp < w.heap.size ∧ w.cell? ⟨bp, 0, none⟩ = some (.int .i64 s) ∧ w.frozen? ⟨bp, 0, none⟩ = false
theorem AtI.keep {bp lo : Nat} {w w' : World} {s : Int} (h : AtI bp lo w s) (hb : Below w.heap.size w w') : AtI bp lo w' s :=
  ⟨h.1, Nat.lt_of_lt_of_le h.2.1 hb.size, by rw [hb.cell h.2.1]; exact h.2.2.1, by rw [hb.frozen h.2.1]; exact h.2.2.2⟩
theorem AtI.set {bp lo : Nat} {w : World} {s : Int} (h : AtI bp lo w s) (t : Int) : AtI bp lo (w.setCell ⟨bp, 0, none⟩ (.int .i64 t)) t :=
  ⟨h.1, by simpa using h.2.1, World.cell?_setCell_same' _ _ _ (by rw [h.2.2.1]; rfl), by simpa using h.2.2.2⟩
def cellsZ (zs : List Int) : List Value := zs.map (fun x => .int .i64 x)
theorem cellsZ_at {zs : List Int} {k : Nat} (h : k < zs.length) : (cellsZ zs)[k]? = some (.int .i64 zs[k]) := by simp [cellsZ, h]
set_option maxHeartbeats 2000000 in
theorem sumAdd (bp lo b : Nat) (s : Int) (zs : List Int) (cap : Nat) (w : World) (hi : AtI bp lo w s) (hb : b < w.heap.size) (hne : b ≠ bp) (hin : InB w b 0 (cellsZ zs)) (hz : zs.length ≤ 1048576) :
    Calls Try.prog 59 #[.pointer (some ⟨bp, 0, none⟩), .slice (some ⟨b, 0, none⟩) zs.length cap] w fun e w' => e = .returned (.tuple #[]) ∧ AtI bp lo w' (zs.foldl addI s) ∧ Turn (fun k => k = bp) w w' := by
  have HI := hide hi
  have HIN := hide hin
  clear hi hin
  go_enter Try.func59, Try.ntmps59
  go_wp2
  go_loopw [8] (fun i wk => ∃ k : Nat, k ≤ zs.length ∧ i = .int .i64 k ∧ Hid (AtI bp lo wk ((zs.take k).foldl addI s)) ∧ Hid (Turn (fun k => k = bp) w wk)) (fun i _ => zs.length - (intOf i).toNat)
  case atStart => exact ⟨0, Nat.zero_le _, rfl, HI, hide (Turn.refl _ _)⟩
  case round =>
    obtain ⟨k, hk, rfl, hiv, htr⟩ := hrel
    by_cases hlt : k < zs.length
    · have hki : (k : Int) < (zs.length : Int) := by omega
      have c0 := ((unhide HIN).turn hb (unhide htr) hne) k _ (cellsZ_at hlt)
      rw [Nat.zero_add] at c0
      obtain ⟨i0, i1, i2, i3⟩ := unhide hiv
      have HS := hide (fold_snoc' (g := addI) (s := s) hlt)
      generalize hX : zs[k] = X at *
      generalize hY : (zs.take k).foldl addI s = Y at *
      clear hX hY
      go_wp2
      go_roundw
      case rel => exact ⟨k + 1, by omega, by go_num, hide (by rw [unhide HS]; exact (unhide hiv).set _), hide ((unhide htr).setIn rfl _)⟩
      case measure => simp [intOf]; omega
    · have hki : ¬ (k : Int) < (zs.length : Int) := by omega
      obtain rfl : k = zs.length := by omega
      have hfin := unhide hiv
      rw [List.take_length] at hfin
      have HF := hide hfin
      clear hfin hiv
      go_wp2
      go_end0
      exact ⟨rfl, unhide HF, unhide htr⟩
set_option maxHeartbeats 4000000 in
theorem implAddedUpDeed (l : List DeedD) (S0 : Nat → Prop) (v0 : Value) (w : World) (h0 : LAt 20 deedR w S0 v0 l) (b0 : bulkL deedBulk l ≤ 1048576) (fn : Nat) (caps : Array Value) (g : DeedD → Int) (hlx : l.length ≤ 1048576) (hf : ∀ (a : Array Value) (w : World), (callFunc fn a).run Try.prog w = .ok (.enter fn a) w)
    (hg : ∀ (X : DeedD) (S : Nat → Prop) (cs : List Value) (w1 : World), Below w.heap.size w w1 → deedR w1 S cs X → deedBulk X ≤ 1048576 → Calls Try.prog fn (#[.agg cs.toArray] ++ caps) w1 fun e w' => e = .returned (.int .i64 (g X)) ∧ Below w1.heap.size w1 w') :
    Calls Try.prog 32 #[v0, .func (.func fn) #[] caps] w fun e w' => e = .returned (.int .i64 (sumI g l)) ∧ Below w.heap.size w w' := by
  obtain ⟨a, cap, rfl⟩ := h0.form
  have hl := h0.len
  have HA := hide h0
  have HG := hide hg
  have HFN := hide hf
  have HI : Hid (AtI w.heap.size w.heap.size (w.alloc (.cells #[.int .i64 0] 147)) 0) := hide ⟨Nat.le_refl _, by simp, by simp [go_sem], by simp [go_sem]⟩
  have hb0 := bnew w (.cells #[.int .i64 0] 147)
  clear h0 hg hf
  go_enter Try.func32, Try.ntmps32
  go_wp2
  go_loopw [11] (fun i wk => ∃ k : Nat, k ≤ l.length ∧ i = .int .i64 k ∧ Hid (AtI w.heap.size w.heap.size wk (sumI g (l.take k))) ∧ Hid (Below w.heap.size w wk)) (fun i _ => l.length - (intOf i).toNat)
  case atStart => exact ⟨0, Nat.zero_le _, rfl, HI, hide hb0⟩
  case round =>
    obtain ⟨k, hk, rfl, hiv, hbl⟩ := hrel
    clear HI hb0
    have hbl := unhide hbl
    by_cases hlt : k < l.length
    · have hki : (k : Int) < (l.length : Int) := by omega
      obtain ⟨b, o, cs, rfl, hbk, hSb, hcs, hin⟩ := (unhide HA).at k hlt
      have hcs := deedR_keeps _ _ S0 None1 cs _ (Below.turn hbl) none_off hcs
      have hin := hin.turn hbk (Below.turn hbl) (fun e => e)
      have hXb : deedBulk l[k] ≤ 1048576 := by have := bulkL_mem deedBulk (List.getElem_mem hlt); omega
      have hrw : RowT Try.prog 77 cs.length := by rw [deedR_len hcs]; exact rowIDeed
      have HS := hide (fold_snoc' (g := fun s x => addI s (g x)) (s := 0) hlt)
      generalize hX : l[k] = X at *
      clear hX
      have HL1 := hide (deedR_len hcs)
      have on1 := deedR_one hcs
      have hA1 := Held.new wr cs 77
      have hbA := bnew wr (.cells cs.toArray 77)
      have hiw := (unhide hiv).keep hbA
      have hcs := deedR_keeps _ _ S0 None1 cs _ (Below.turn hbA) none_off hcs
      have hbl := bthen hbl hbA
      clear hiv
      go_upto_region 5 with (first | (refine wpl_load rfl 77 _ rfl _ _ rfl cs hin hrw ?_) | (refine wpl_store_new rfl _ _ _ rfl _ cs rfl rfl ?_ on1 hrw ?_; (rw [unhide HL1]; rfl)))
      generalize hWa : World.alloc wr _ = wa at *
      clear hWa hin on1
      have HIW := hide hiw
      clear hiw
      go_wp2_with (first | (refine wpl_load rfl 77 _ rfl _ 0 rfl cs hA1.inB hrw ?_))
      rw [unhide HFN, Oper.upon_enter]
      refine (unhide HG X S0 cs _ hbl hcs hXb).mono ?_
      rintro e w2 ⟨rfl, hb2⟩
      have hbl := bthen hbl hb2
      have hiw := (unhide HIW).keep hb2
      have hbn := bnew w2 (.cells #[.int .i64 (g X)] 3)
      have hPn := Held.new w2 (cellsZ [g X]) 3
      have hix := hiw.keep hbn
      have hlt2 := hiw.2.1
      have HIX := hide hix
      have hbm := bthen hbl hbn
      have hbq := hbl.size
      clear hix hiw hA1 hrw HIW
      go_wp2_with fail
      refine (sumAdd w.heap.size w.heap.size w2.heap.size _ [g X] 1 _ (unhide HIX) (by simp) (by omega) hPn.inB (by simp)).mono ?_
      rintro e w3 ⟨rfl, hi3, ht3⟩
      have hb3 := hbm.trans (ht3.belowFrom (B := w.heap.size) (by simp; omega) (fun k hk => by subst hk; exact Nat.le_refl _))
      have HI3 := hide hi3
      clear hi3 ht3 hPn hbn
      go_wp2
      go_roundw
      case rel => exact ⟨k + 1, by omega, by go_num, hide (by unfold sumI; rw [unhide HS]; exact unhide HI3), hide hb3⟩
      case measure => simp [intOf]; omega
    · have hki : ¬ (k : Int) < (l.length : Int) := by omega
      obtain rfl : k = l.length := by omega
      have hfin := unhide hiv
      rw [List.take_length] at hfin
      have c1 := hfin.2.2.1
      clear hfin hiv
      go_wp2
      go_ret
      exact ⟨rfl, hbl⟩
end Go.Proofs.Ytciipadkdglhmaa
