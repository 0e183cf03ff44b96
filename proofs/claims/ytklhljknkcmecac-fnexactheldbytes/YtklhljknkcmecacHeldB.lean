/-
  Contracts of HeldBytes, of the program (each trail is handed to a function that adds) and of the specification.
-/
import Derived.Test.YtklhljknkcmecacPlain2
import Derived.Test.YtklhljknkcmecacAStripe
import Derived.Test.YtklhljknkcmecacATrail
import Derived.Test.YtklhljknkcmecacAbs2
namespace Go.Proofs.Ytklhljknkcmecac
open Go.ChangeShapes Go.WideShapes Go.ChangeAt Go.RowKit
set_option linter.unusedVariables false
set_option maxRecDepth 100000

theorem flat_snoc {α β σ : Type} {f : α → List β} {g : σ → β → σ} {s : σ} {l : List α} {k : Nat} (h : k < l.length) : ((l.take (k + 1)).flatMap f).foldl g s = (f l[k]).foldl g (((l.take k).flatMap f).foldl g s) := by
  rw [List.take_succ_eq_append_getElem h, List.flatMap_append, List.foldl_append]
  simp
theorem fold_snoc {β σ : Type} {g : σ → β → σ} {s : σ} {l : List β} {k : Nat} (h : k < l.length) : (l.take (k + 1)).foldl g s = g ((l.take k).foldl g s) l[k] := by
  rw [List.take_succ_eq_append_getElem h, List.foldl_append]
  simp
def addB (s : Int) (t : TrailD) : Int := IntKind.i64.wrap (s + totS t.spans)
def heldSum (l : List StripeD) : Int := (l.flatMap StripeD.l).foldl addB 0
def AtCell (bp lo : Nat) (w : World) (s : Int) : Prop := lo ≤ bp ∧ bp < w.heap.size ∧ w.cell? ⟨bp, 0, none⟩ = some (.int .i64 s) ∧ w.frozen? ⟨bp, 0, none⟩ = false
theorem AtCell.keep {bp lo : Nat} {w w' : World} {s : Int} (h : AtCell bp lo w s) (hb : Below w.heap.size w w') : AtCell bp lo w' s :=
  ⟨h.1, Nat.lt_of_lt_of_le h.2.1 hb.size, by rw [hb.cell h.2.1]; exact h.2.2.1, by rw [hb.frozen h.2.1]; exact h.2.2.2⟩
theorem AtCell.set {bp lo : Nat} {w : World} {s : Int} (h : AtCell bp lo w s) (t : Int) : AtCell bp lo (w.setCell ⟨bp, 0, none⟩ (.int .i64 t)) t :=
  ⟨h.1, by simpa using h.2.1, World.cell?_setCell_same' _ _ _ (by rw [h.2.2.1]; rfl), by simpa using h.2.2.2⟩
set_option maxHeartbeats 1000000 in
theorem implHB1 (t : TrailD) (S0 : Nat → Prop) (c0 : List Value) (bp lo : Nat) (s : Int) (w : World) (h0 : trailR w S0 c0 t) (b0 : trailBulk t ≤ 1048576) (hi : AtCell bp lo w s) :
    Calls Try.prog 124 #[.agg c0.toArray, .pointer (some ⟨bp, 0, none⟩)] w fun e w' => e = .returned (.tuple #[]) ∧ ∃ w1, Below w.heap.size w w1 ∧ w' = w1.setCell ⟨bp, 0, none⟩ (.int .i64 (addB s t)) := by
  have HR := hide h0
  obtain ⟨sl, rfl, g⟩ := h0
  obtain ⟨a, k, rfl⟩ := g.form
  have P0 := Held.new w [.int .i64 t.id, .int .i64 t.stamp, .int .i64 t.first, .slice a t.spans.length k] 68
  have B0 := bnew w (.cells #[.int .i64 t.id, .int .i64 t.stamp, .int .i64 t.first, .slice a t.spans.length k] 68)
  have HI := hide (hi.keep B0)
  clear g hi
  go_enter Try.func124, Try.ntmps124
  go_upto_region 1 with fail
  generalize World.alloc w _ = w0 at *
  have p0 := P0.2 0 _ rfl
  have p1 := P0.2 1 _ rfl
  have p2 := P0.2 2 _ rfl
  have p3 := P0.2 3 _ rfl
  obtain ⟨i0, i1, i2, i3⟩ := unhide HI
  go_region_with (go_at_call 125; refine (implBytesOf t S0 _ _ (trailR_keeps _ _ _ None1 _ _ (Below.turn (Below.trans B0 (Below.drew (Below.refl _ _)))) none_off (unhide HR)) b0).mono ?_; rintro e w1 ⟨rfl, hb1'⟩
                  have hb1 : Below w0.heap.size w0 w1 := Below.trans (Below.drew (Below.refl _ _)) hb1'
                  have j1 := hb1.cell (p := ⟨bp, 0, none⟩) i1
                  have j2 := hb1.frozen (p := ⟨bp, 0, none⟩) i1
                  rw [i2] at j1
                  rw [i3] at j2)
  all_goals (go_wp2; go_end0; exact ⟨rfl, w1, bthen B0 hb1, rfl⟩)
theorem implHB2 (t : TrailD) (S0 : Nat → Prop) (c0 : List Value) (bp : Nat) (w0 : World) (s : Int) (w : World) (h0 : trailR w S0 c0 t) (b0 : trailBulk t ≤ 1048576) (hi : AtCell bp w0.heap.size w s) (hb : Below w0.heap.size w0 w) :
    Calls Try.prog 124 #[.agg c0.toArray, .pointer (some ⟨bp, 0, none⟩)] w fun e w' => e = .returned (.tuple #[]) ∧ AtCell bp w0.heap.size w' (addB s t) ∧ Below w0.heap.size w0 w' := by
  refine (implHB1 t S0 c0 bp w0.heap.size s w h0 b0 hi).mono ?_
  rintro e w' ⟨rfl, w1, hb1, rfl⟩
  exact ⟨rfl, (hi.keep hb1).set _, (hb.trans (hb1.mono hb.size)).setCell hi.1 _⟩
set_option maxHeartbeats 4000000 in
theorem implEachHB (l : List StripeD) (S0 : Nat → Prop) (v0 : Value) (w0 w : World) (h0 : LAt 2 stripeR w0 S0 v0 l) (b0 : bulkL stripeBulk l ≤ 1048576) (hb0 : Below w0.heap.size w0 w) (bp : Nat) (s0 : Int) (hi : AtCell bp w0.heap.size w s0) :
    Calls Try.prog 123 #[v0, .func (.func 124) #[] #[.pointer (some ⟨bp, 0, none⟩)]] w fun e w' => e = .returned (.tuple #[]) ∧ AtCell bp w0.heap.size w' ((l.flatMap StripeD.l).foldl (addB) s0) ∧ Below w0.heap.size w0 w' := by
  obtain ⟨a, cap, rfl⟩ := h0.form
  have hl := h0.len
  have HA := hide h0
  have HI := hide hi
  clear h0 hi
  go_enter Try.func123, Try.ntmps123
  go_wp2
  go_loopw [10] (fun i wk => ∃ k : Nat, k ≤ l.length ∧ i = .int .i64 k ∧ Hid (AtCell bp w0.heap.size wk (((l.take k).flatMap StripeD.l).foldl (addB) s0)) ∧ Below w0.heap.size w0 wk) (fun i _ => l.length - (intOf i).toNat)
  case atStart => exact ⟨0, Nat.zero_le _, rfl, HI, hb0⟩
  case round =>
    obtain ⟨k, hk, rfl, hiv, hbl⟩ := hrel
    clear HI
    by_cases hlt : k < l.length
    · have hki : (k : Int) < (l.length : Int) := by omega
      obtain ⟨b, o, cs, rfl, hbk, hSb, hcs, hin⟩ := (unhide HA).at k hlt
      have hin := hin.turn hbk (Below.turn hbl) (fun e => e)
      have hXb : stripeBulk l[k] ≤ 1048576 := by have := bulkL_mem stripeBulk (List.getElem_mem hlt); omega
      have hrw : RowT Try.prog 150 cs.length := by rw [stripeR_len hcs]; exact rowIStripe
      have HSN := hide (flat_snoc (f := StripeD.l) (g := addB) (s := s0) hlt)
      generalize hX : l[k] = X at *
      clear hX
      have HL1 := hide (stripeR_len hcs)
      have on1 := stripeR_one hcs
      obtain ⟨a1, k1, z1, g1⟩ := stripeR_c1 hcs
      have HZ1 := hide z1
      have hl1 := g1.len
      have hA1 := Held.new wr cs 150
      have hbA := bnew wr (.cells cs.toArray 150)
      have HI := hide (AtCell.keep (unhide hiv) hbA)
      have HG := hide g1
      have hbl := Below.trans hbl (hbA.mono hbl.size)
      clear z1 g1 hiv
      go_upto_region 3 with (first | (refine wpl_load rfl 150 _ rfl _ _ rfl cs hin hrw ?_) | (refine wpl_store_new rfl _ _ _ rfl _ cs rfl rfl ?_ on1 hrw ?_; (rw [unhide HL1]; rfl)))
      generalize hWa : World.alloc wr _ = wa at *
      clear hWa hin hrw on1
      have i1 := hA1.2 1 _ (unhide HZ1)
      go_wp2
      go_loopw [17] (fun i wk => ∃ j : Nat, j ≤ X.l.length ∧ i = .int .i64 j ∧ Hid (AtCell bp w0.heap.size wk ((X.l.take j).foldl (addB) (((l.take k).flatMap StripeD.l).foldl (addB) s0))) ∧ Below w0.heap.size w0 wk) (fun i _ => X.l.length - (intOf i).toNat)
      case atStart => exact ⟨0, Nat.zero_le _, rfl, HI, hbl⟩
      case round =>
        obtain ⟨j, hj, rfl, hiv, hbl2⟩ := hrel
        by_cases hlt2 : j < X.l.length
        · have hji : (j : Int) < (X.l.length : Int) := by omega
          obtain ⟨c, q, ds, rfl, hck, hSc, hds, hjn⟩ := ((unhide HG).keep trailR_keeps hbl2).at j hlt2
          have hYb : trailBulk X.l[j] ≤ 1048576 := by have := bulkL_mem trailBulk (List.getElem_mem hlt2); unfold stripeBulk at hXb; omega
          have hrw : RowT Try.prog 68 ds.length := by rw [trailR_len hds]; exact rowITrail
          have HTS := hide (fold_snoc (g := addB) (s := ((l.take k).flatMap StripeD.l).foldl (addB) s0) hlt2)
          generalize hY : X.l[j] = Y at *
          clear hY
          have HL2 := hide (trailR_len hds)
          have on2 := trailR_one hds
          have hB1 := Held.new wr ds 68
          have hbB := bnew wr (.cells ds.toArray 68)
          have hiw := AtCell.keep (unhide hiv) hbB
          have hds := trailR_keeps _ _ S0 None1 ds _ (Below.turn hbB) none_off hds
          have hbl2 := Below.trans hbl2 (hbB.mono hbl2.size)
          clear hiv i1 hA1
          go_upto_region 6 with (first | (refine wpl_load rfl 68 _ rfl _ _ rfl ds hjn hrw ?_) | (refine wpl_store_new rfl _ _ _ rfl _ ds rfl rfl ?_ on2 hrw ?_; (rw [unhide HL2]; rfl)))
          generalize hWb : World.alloc wr _ = wb at *
          clear hWb hjn on2
          have HIW := hide hiw
          clear hiw
          go_wp2_with (first | (refine wpl_load rfl 68 _ rfl _ 0 rfl ds hB1.inB hrw ?_))
          refine (implHB2 Y S0 ds bp w0 _ _ hds hYb (unhide HIW) hbl2).mono ?_
          rintro e w2 ⟨rfl, hiz, hb2⟩
          have HIZ := hide hiz
          clear hiz HIW
          go_wp2
          go_roundw
          case rel =>
            exact ⟨j + 1, by omega, by go_num, hide (by rw [unhide HTS]; exact unhide HIZ), hb2⟩
          case measure => simp [intOf]; omega
        · have hji : ¬ (j : Int) < (X.l.length : Int) := by omega
          obtain rfl : j = X.l.length := by omega
          have hfin : AtCell bp w0.heap.size wr (((l.take (k + 1)).flatMap StripeD.l).foldl (addB) s0) := by rw [unhide HSN]; have h := unhide hiv; rw [List.take_length] at h; exact h
          have HFIN := hide hfin
          clear hfin hiv
          go_wp2
          go_roundw
          case rel => exact ⟨k + 1, by omega, by go_num, HFIN, hbl2⟩
          case measure => simp [intOf]; omega
    · have hki : ¬ (k : Int) < (l.length : Int) := by omega
      obtain rfl : k = l.length := by omega
      have hfin := unhide hiv
      rw [List.take_length] at hfin
      have HFIN := hide hfin
      clear hfin hiv
      go_wp2
      go_end0
      exact ⟨rfl, unhide HFIN, hbl⟩
theorem implHeldBytes (l : List StripeD) (S0 : Nat → Prop) (v0 : Value) (w : World) (h0 : LAt 2 stripeR w S0 v0 l) (b0 : bulkL stripeBulk l ≤ 1048576) :
    Calls Try.prog 43 #[v0] w fun e w' => e = .returned (.int .i64 (heldSum l)) ∧ Below w.heap.size w w' := by
  obtain ⟨a, cap, rfl⟩ := h0.form
  have hmf := hmf
  have hb := bnew w (.cells #[.int .i64 0] 3)
  have hi : AtCell w.heap.size w.heap.size (w.alloc (.cells #[.int .i64 0] 3)) 0 := ⟨Nat.le_refl _, by simp, by simp [go_sem], by simp [go_sem]⟩
  have HI := hide hi
  clear hi
  go_enter Try.func43, Try.ntmps43
  go_wp2_with fail
  refine (implEachHB l S0 _ w _ h0 b0 hb w.heap.size 0 (unhide HI)).mono ?_
  rintro e w1 ⟨rfl, hi1, hb1⟩
  have c1 := hi1.2.2.1
  have HI1 := hide hi1
  clear hi1
  go_wp2
  go_ret
  exact ⟨rfl, hb1⟩
set_option maxHeartbeats 4000000 in
theorem specHeldBytes (l : List StripeD) (S0 : Nat → Prop) (v0 : Value) (w : World) (h0 : LAt 2 stripeR w S0 v0 l) (b0 : bulkL stripeBulk l ≤ 1048576) :
    Calls Try.prog 41 #[v0] w fun e w' => e = .returned (.int .i64 (heldSum l)) ∧ Below w.heap.size w w' := by
  obtain ⟨a, cap, rfl⟩ := h0.form
  have hl := h0.len
  have HA := hide h0
  clear h0
  go_enter Try.func41, Try.ntmps41
  go_wp2
  go_loopw [3, 4] (fun n i wk => ∃ k : Nat, k ≤ l.length ∧ i = .int .i64 k ∧ n = .int .i64 (((l.take k).flatMap StripeD.l).foldl addB 0) ∧ Below w.heap.size w wk) (fun _ i _ => l.length - (intOf i).toNat)
  case atStart => exact ⟨0, Nat.zero_le _, rfl, rfl, Below.refl _ _⟩
  case round =>
    obtain ⟨k, hk, rfl, rfl, hbl⟩ := hrel
    by_cases hlt : k < l.length
    · have hki : (k : Int) < (l.length : Int) := by omega
      obtain ⟨b, o, cs, rfl, hbk, hSb, hcs, hin⟩ := (unhide HA).at k hlt
      have hXb : stripeBulk l[k] ≤ 1048576 := by have := bulkL_mem stripeBulk (List.getElem_mem hlt); omega
      have HSN := hide (flat_snoc (f := StripeD.l) (g := addB) (s := (0 : Int)) hlt)
      generalize hX : l[k] = X at *
      clear hX
      obtain ⟨a1, k1, z1, g1⟩ := stripeR_c1 hcs
      have HC1 := hide (hin 1 _ z1)
      have hl1 := g1.len
      have HG := hide g1
      clear z1 g1 hin hcs
      generalize hN : ((l.take k).flatMap StripeD.l).foldl addB 0 = N at *
      clear hN
      go_wp2
      go_loopw [3, 5] (fun n i wk => ∃ j : Nat, j ≤ X.l.length ∧ i = .int .i64 j ∧ n = .int .i64 ((X.l.take j).foldl addB N) ∧ Below w.heap.size w wk) (fun _ i _ => X.l.length - (intOf i).toNat)
      case atStart => exact ⟨0, Nat.zero_le _, rfl, rfl, hbl⟩
      case round =>
        obtain ⟨j, hj, rfl, rfl, hbl2⟩ := hrel
        have c1 := unhide HC1
        rw [← hbl2.cell (p := ⟨b, o + k * 2 + 1, none⟩) hbk] at c1
        by_cases hlt2 : j < X.l.length
        · have hji : (j : Int) < (X.l.length : Int) := by omega
          obtain ⟨c, q, ds, rfl, hck, hSc, hds, hjn⟩ := ((unhide HG).keep trailR_keeps hbl2).at j hlt2
          have hYb : trailBulk X.l[j] ≤ 1048576 := by have := bulkL_mem trailBulk (List.getElem_mem hlt2); unfold stripeBulk at hXb; omega
          have hrw : RowT Try.prog 68 ds.length := by rw [trailR_len hds]; exact rowITrail
          have HTS := hide (fold_snoc (g := addB) (s := N) hlt2)
          generalize hY : X.l[j] = Y at *
          clear hY
          generalize hM : (X.l.take j).foldl addB N = M at *
          clear hM
          go_wp2_with (first | (refine wpl_load rfl 68 _ rfl _ _ rfl ds hjn hrw ?_))
          refine (specBytesOf Y S0 ds _ hds hYb).mono ?_
          rintro e w2 ⟨rfl, hb2⟩
          clear c1
          go_wp2
          go_roundw
          case rel => exact ⟨j + 1, by omega, by go_num, by rw [unhide HTS, addB, IntWalk.i64_left], hbl2.trans (hb2.mono hbl2.size)⟩
          case measure => simp [intOf]; omega
        · have hji : ¬ (j : Int) < (X.l.length : Int) := by omega
          obtain rfl : j = X.l.length := by omega
          rw [List.take_length]
          go_wp2
          go_roundw
          case rel => exact ⟨k + 1, by omega, by go_num, by rw [unhide HSN], hbl2⟩
          case measure => simp [intOf]; omega
    · have hki : ¬ (k : Int) < (l.length : Int) := by omega
      obtain rfl : k = l.length := by omega
      rw [List.take_length]
      go_wp2
      go_ret
      exact ⟨rfl, hbl⟩
end Go.Proofs.Ytklhljknkcmecac
