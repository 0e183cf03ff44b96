/-
  What CountOf of the program is made of.
-/
import Derived.Test.YtciipadkdglhmaaDeeds2
import Derived.Test.YtciipadkdglhmaaDeeds3
import Derived.Test.YtciipadkdglhmaaATask
import Derived.Test.YtciipadkdglhmaaAStripe
import Derived.Test.YtciipadkdglhmaaATrail
import Derived.Test.YtciipadkdglhmaaAbs2
import Derived.Shelf.Abstract
namespace Go.Proofs.Ytciipadkdglhmaa
open Go.ChangeShapes Go.WideShapes Go.ChangeAt Go.RowKit
set_option linter.unusedVariables false
set_option maxRecDepth 100000

theorem flat_snoc {α β σ : Type} {f : α → List β} {g : σ → β → σ} {s : σ} {l : List α} {k : Nat} (h : k < l.length) : ((l.take (k + 1)).flatMap f).foldl g s = (f l[k]).foldl g (((l.take k).flatMap f).foldl g s) := by
  rw [List.take_succ_eq_append_getElem h, List.flatMap_append, List.foldl_append]
  simp
theorem fold_snoc {β σ : Type} {g : σ → β → σ} {s : σ} {l : List β} {k : Nat} (h : k < l.length) : (l.take (k + 1)).foldl g s = g ((l.take k).foldl g s) l[k] := fold_snoc' h
def takenB (x : DeedD) : Bool := offB 1 x || offB 2 x
def lostB (x : DeedD) : Bool := (dropB x && tookB x) || (judB x && !x.keep)
def lostG (x : DeedD) : Int := if lostB x then x.n else 0
def handL (x : TaskD) : Int := (x.hand.length : Int)
def addL (s : Int) (t : TrailD) : Int := addI s (t.spans.length : Int)
def heldN (l : List StripeD) : Int := (l.flatMap StripeD.l).foldl addL 0
set_option maxHeartbeats 2000000 in
theorem implTaken (x : DeedD) (S0 : Nat → Prop) (c0 : List Value) (w : World) (h0 : deedR w S0 c0 x) (b0 : deedBulk x ≤ 1048576) :
    Calls Try.prog 28 #[.agg c0.toArray] w fun e w' => e = .returned (.bool (takenB x)) ∧ Below w.heap.size w w' := by
  have P0 := Held.new w c0 77
  have B0 := bnew w (.cells c0.toArray 77)
  have r0 : RowT Try.prog 77 c0.length := by rw [deedR_len h0]; exact rowIDeed
  have HR := hide h0
  clear h0
  go_enter Try.func28, Try.ntmps28
  go_upto_region 1 with fail
  generalize World.alloc w _ = w0 at *
  go_wp2_with (first | (refine wpl_loadG (by rfl) 77 _ rfl _ 0 rfl c0 P0.inB r0 ?_) | (refine wpl_load rfl 77 _ rfl _ 0 rfl c0 P0.inB r0 ?_))
  have hc := implOffered x 1 S0 c0 _ (deedR_keeps _ _ _ None1 _ _ (Below.turn B0) none_off (unhide HR)) b0
  cases hp : offB 1 x
  · have HF := hide (show takenB x = offB 2 x by simp [takenB, hp])
    rw [hp] at hc
    refine hc.mono ?_
    rintro e w1 ⟨rfl, hb1⟩
    clear hc
    have P1 := P0.keep hb1
    go_wp2_with (first | (refine wpl_loadG (by rfl) 77 _ rfl _ 0 rfl c0 P1.inB r0 ?_) | (refine wpl_load rfl 77 _ rfl _ 0 rfl c0 P1.inB r0 ?_))
    refine (implOffered x 2 S0 c0 _ (deedR_keeps _ _ _ None1 _ _ (Below.turn (bthen B0 hb1)) none_off (unhide HR)) b0).mono ?_
    rintro e w2 ⟨rfl, hb2⟩
    go_wp2
    go_ret
    exact ⟨ret_bool (unhide HF).symm, bthen (bthen B0 hb1) hb2⟩
  · have HF := hide (show takenB x = true by simp [takenB, hp])
    rw [hp] at hc
    refine hc.mono ?_
    rintro e w1 ⟨rfl, hb1⟩
    clear hc
    go_wp2
    go_ret
    exact ⟨ret_bool (unhide HF).symm, bthen B0 hb1⟩
set_option maxHeartbeats 4000000 in
theorem implLost (x : DeedD) (S0 : Nat → Prop) (c0 : List Value) (w : World) (h0 : deedR w S0 c0 x) (b0 : deedBulk x ≤ 1048576) :
    Calls Try.prog 33 #[.agg c0.toArray] w fun e w' => e = .returned (.int .i64 (lostG x)) ∧ Below w.heap.size w w' := by
  have P0 := Held.new w c0 77
  have B0 := bnew w (.cells c0.toArray 77)
  have r0 : RowT Try.prog 77 c0.length := by rw [deedR_len h0]; exact rowIDeed
  have HR := hide h0
  clear h0
  by_cases e : x.op = 3
  case neg =>
    have q : (x.op == 3) = false := by simpa using e
    have hd : dropB x = false := by simp [dropB, e]
    clear e
    go_enter Try.func33, Try.ntmps33
    go_upto_region 1 with fail
    generalize World.alloc w _ = w0 at *
    have p0 := P0.2 0 _ (deedR_c0 (unhide HR))
    go_wp2_with (first | (refine wpl_loadG (by rfl) 77 _ rfl _ 0 rfl c0 P0.inB r0 ?_) | (refine wpl_load rfl 77 _ rfl _ 0 rfl c0 P0.inB r0 ?_))
    have hj := implJudged x S0 c0 _ (deedR_keeps _ _ _ None1 _ _ (Below.turn (B0)) none_off (unhide HR)) b0
    cases hq : judB x
    · have HF := hide (show lostG x = 0 by simp [lostG, lostB, hd, hq])
      rw [hq] at hj
      refine hj.mono ?_
      rintro e w3 ⟨rfl, hb3⟩
      clear hj
      go_wp2
      go_ret
      exact ⟨by rw [unhide HF]; rfl, bthen (B0) hb3⟩
    · rw [hq] at hj
      refine hj.mono ?_
      rintro e w3 ⟨rfl, hb3⟩
      clear hj
      have p11 := (P0.keep hb3).2 11 _ (deedR_c11 (unhide HR))
      have p14 := (P0.keep hb3).2 14 _ (deedR_c14 (unhide HR))
      cases hk : x.keep
      · have HF := hide (show lostG x = x.n by simp [lostG, lostB, hq, hk])
        rw [hk] at p11
        go_wp2
        go_ret
        exact ⟨by rw [unhide HF]; rfl, bthen (B0) hb3⟩
      · have HF := hide (show lostG x = 0 by simp [lostG, lostB, hd, hk])
        rw [hk] at p11
        go_wp2
        go_ret
        exact ⟨by rw [unhide HF]; rfl, bthen (B0) hb3⟩
  have q : (x.op == 3) = true := by simpa using e
  have hq0 : judB x = false := by simp [judB, e]
  have hdr : dropB x = true := by simp [dropB, e]
  clear e
  go_enter Try.func33, Try.ntmps33
  go_upto_region 1 with fail
  generalize World.alloc w _ = w0 at *
  have p0 := P0.2 0 _ (deedR_c0 (unhide HR))
  go_wp2_with (first | (refine wpl_loadG (by rfl) 77 _ rfl _ 0 rfl c0 P0.inB r0 ?_) | (refine wpl_load rfl 77 _ rfl _ 0 rfl c0 P0.inB r0 ?_))
  have hc := implTook x S0 c0 _ (deedR_keeps _ _ _ None1 _ _ (Below.turn B0) none_off (unhide HR)) b0
  cases hp : tookB x
  · rw [hp] at hc
    refine hc.mono ?_
    rintro e w1 ⟨rfl, hb1⟩
    clear hc
    have P1 := P0.keep hb1
    have B1 := bthen B0 hb1
    go_wp2_with (first | (refine wpl_loadG (by rfl) 77 _ rfl _ 0 rfl c0 P1.inB r0 ?_) | (refine wpl_load rfl 77 _ rfl _ 0 rfl c0 P1.inB r0 ?_))
    have hj := implJudged x S0 c0 _ (deedR_keeps _ _ _ None1 _ _ (Below.turn B1) none_off (unhide HR)) b0
    rw [hq0] at hj
    refine hj.mono ?_
    rintro e w3 ⟨rfl, hb3⟩
    clear hj
    have HF := hide (show lostG x = 0 by simp [lostG, lostB, hp, hq0])
    go_wp2
    go_ret
    exact ⟨by rw [unhide HF]; rfl, bthen B1 hb3⟩
  · have HF := hide (show lostG x = x.n by simp [lostG, lostB, hp, hdr])
    rw [hp] at hc
    refine hc.mono ?_
    rintro e w1 ⟨rfl, hb1⟩
    clear hc
    have p14 := (P0.keep hb1).2 14 _ (deedR_c14 (unhide HR))
    go_wp2
    go_ret
    exact ⟨by rw [unhide HF]; rfl, bthen B0 hb1⟩
theorem implCO1 (x : TaskD) (S0 : Nat → Prop) (c0 : List Value) (w : World) (h0 : taskR w S0 c0 x) (b0 : taskBulk x ≤ 1048576) :
    Calls Try.prog 30 #[.agg c0.toArray] w fun e w' => e = .returned (.int .i64 (handL x)) ∧ Below w.heap.size w w' := by
  obtain ⟨a, k, hc, hA⟩ := taskR_c10 h0
  have HC := hide hc
  clear hc hA
  have P0 := Held.new w c0 79
  have B0 := bnew w (.cells c0.toArray 79)
  have r0 : RowT Try.prog 79 c0.length := by rw [taskR_len h0]; exact rowITask
  have HR := hide h0
  clear h0
  go_enter Try.func30, Try.ntmps30
  go_upto_region 1 with fail
  generalize World.alloc w _ = w0 at *
  have p10 := P0.2 10 _ (unhide HC)
  go_wp2
  go_ret
  exact ⟨rfl, B0⟩
set_option maxHeartbeats 4000000 in
theorem implAddedUpTask (l : List TaskD) (S0 : Nat → Prop) (v0 : Value) (w : World) (h0 : LAt 12 taskR w S0 v0 l) (b0 : bulkL taskBulk l ≤ 1048576) (fn : Nat) (caps : Array Value) (g : TaskD → Int) (hlx : l.length ≤ 1048576) (hf : ∀ (a : Array Value) (w : World), (callFunc fn a).run Try.prog w = .ok (.enter fn a) w)
    (hg : ∀ (X : TaskD) (S : Nat → Prop) (cs : List Value) (w1 : World), Below w.heap.size w w1 → taskR w1 S cs X → taskBulk X ≤ 1048576 → Calls Try.prog fn (#[.agg cs.toArray] ++ caps) w1 fun e w' => e = .returned (.int .i64 (g X)) ∧ Below w1.heap.size w1 w') :
    Calls Try.prog 29 #[v0, .func (.func fn) #[] caps] w fun e w' => e = .returned (.int .i64 (sumI g l)) ∧ Below w.heap.size w w' := by
  obtain ⟨a, cap, rfl⟩ := h0.form
  have hl := h0.len
  have HA := hide h0
  have HG := hide hg
  have HFN := hide hf
  have HI : Hid (AtI w.heap.size w.heap.size (w.alloc (.cells #[.int .i64 0] 147)) 0) := hide ⟨Nat.le_refl _, by simp, by simp [go_sem], by simp [go_sem]⟩
  have hb0 := bnew w (.cells #[.int .i64 0] 147)
  clear h0 hg hf
  go_enter Try.func29, Try.ntmps29
  go_wp2
  go_loopw [11] (fun i wk => ∃ k : Nat, k ≤ l.length ∧ i = .int .i64 k ∧ Hid (AtI w.heap.size w.heap.size wk (sumI g (l.take k))) ∧ Hid (Below w.heap.size w wk)) (fun i _ => l.length - (intOf i).toNat)
  case atStart => exact ⟨0, Nat.zero_le _, rfl, HI, hide hb0⟩
  case round =>
    obtain ⟨k, hk, rfl, hiv, hbl⟩ := hrel
    clear HI hb0
    have hbl := unhide hbl
    by_cases hlt : k < l.length
    · have hki : (k : Int) < (l.length : Int) := by omega
      obtain ⟨b, o, cs, rfl, hbk, hSb, hcs, hin⟩ := (unhide HA).at k hlt
      have hcs := taskR_keeps _ _ S0 None1 cs _ (Below.turn hbl) none_off hcs
      have hin := hin.turn hbk (Below.turn hbl) (fun e => e)
      have hXb : taskBulk l[k] ≤ 1048576 := by have := bulkL_mem taskBulk (List.getElem_mem hlt); omega
      have hrw : RowT Try.prog 79 cs.length := by rw [taskR_len hcs]; exact rowITask
      have HS := hide (fold_snoc' (g := fun s x => addI s (g x)) (s := 0) hlt)
      generalize hX : l[k] = X at *
      clear hX
      have HL1 := hide (taskR_len hcs)
      have on1 := taskR_one hcs
      have hA1 := Held.new wr cs 79
      have hbA := bnew wr (.cells cs.toArray 79)
      have hiw := (unhide hiv).keep hbA
      have hcs := taskR_keeps _ _ S0 None1 cs _ (Below.turn hbA) none_off hcs
      have hbl := bthen hbl hbA
      clear hiv
      go_upto_region 5 with (first | (refine wpl_load rfl 79 _ rfl _ _ rfl cs hin hrw ?_) | (refine wpl_store_new rfl _ _ _ rfl _ cs rfl rfl ?_ on1 hrw ?_; (rw [unhide HL1]; rfl)))
      generalize hWa : World.alloc wr _ = wa at *
      clear hWa hin on1
      have HIW := hide hiw
      clear hiw
      go_wp2_with (first | (refine wpl_load rfl 79 _ rfl _ 0 rfl cs hA1.inB hrw ?_))
      rw [unhide HFN, Oper.upon_enter]
      refine (unhide HG X S0 cs _ hbl hcs hXb).mono ?_
      rintro e w2 ⟨rfl, hb2⟩
      have hbl := bthen hbl hb2
      have hiw := (unhide HIW).keep hb2
      have hbn := bnew w2 (.cells #[.int .i64 (g X)] 3)
      have hPn := Held.new w2 (cellsZ [g X]) 3
      have hix := hiw.keep hbn
      have hlt2 := hiw.2.1
      have HIX := hide hix
      have hbm := bthen hbl hbn
      have hbq := hbl.size
      clear hix hiw hA1 hrw HIW
      go_wp2_with fail
      refine (sumAdd w.heap.size w.heap.size w2.heap.size _ [g X] 1 _ (unhide HIX) (by simp) (by omega) hPn.inB (by simp)).mono ?_
      rintro e w3 ⟨rfl, hi3, ht3⟩
      have hb3 := hbm.trans (ht3.belowFrom (B := w.heap.size) (by simp; omega) (fun k hk => by subst hk; exact Nat.le_refl _))
      have HI3 := hide hi3
      clear hi3 ht3 hPn hbn
      go_wp2
      go_roundw
      case rel => exact ⟨k + 1, by omega, by go_num, hide (by unfold sumI; rw [unhide HS]; exact unhide HI3), hide hb3⟩
      case measure => simp [intOf]; omega
    · have hki : ¬ (k : Int) < (l.length : Int) := by omega
      obtain rfl : k = l.length := by omega
      have hfin := unhide hiv
      rw [List.take_length] at hfin
      have c1 := hfin.2.2.1
      clear hfin hiv
      go_wp2
      go_ret
      exact ⟨rfl, hbl⟩
set_option maxHeartbeats 2000000 in
theorem implTh1 (t : TrailD) (S0 : Nat → Prop) (c0 : List Value) (bp : Nat) (w0 : World) (s : Int) (w : World) (h0 : trailR w S0 c0 t) (b0 : trailBulk t ≤ 1048576) (hi : AtI bp w0.heap.size w s) (hb : Below w0.heap.size w0 w) :
    Calls Try.prog 61 #[.agg c0.toArray, .pointer (some ⟨bp, 0, none⟩)] w fun e w' => e = .returned (.tuple #[]) ∧ AtI bp w0.heap.size w' (addL s t) ∧ Below w0.heap.size w0 w' := by
  obtain ⟨a, k, hc, hA⟩ := trailR_c3 h0
  have P0 := Held.new w c0 85
  have B0 := bnew w (.cells c0.toArray 85)
  have HC := hide hc
  have HI := hide (hi.keep B0)
  have hlo := hi.1
  have hbs := hb.size
  have hbp := hi.2.1
  have hbl := hb.trans (B0.mono hb.size)
  clear h0 hc hA hi
  go_enter Try.func61, Try.ntmps61
  go_upto_region 1 with fail
  generalize hW : World.alloc w _ = w2 at *
  have hsz : w.heap.size < w2.heap.size := by rw [← hW]; simp
  clear hW
  have p3 := P0.2 3 _ (unhide HC)
  have hbn := bnew w2 (.cells (cellsZ [(t.spans.length : Int)]).toArray 3)
  have hPn := Held.new w2 (cellsZ [(t.spans.length : Int)]) 3
  go_wp2_with fail
  refine (sumAdd bp w0.heap.size w2.heap.size _ [(t.spans.length : Int)] 1 _ ((unhide HI).keep hbn) (by simp) (by omega) hPn.inB (by simp)).mono ?_
  rintro e w3 ⟨rfl, hi3, ht3⟩
  have HI3 := hide hi3
  have hb3 := (hbl.trans (hbn.mono (by omega))).trans (ht3.belowFrom (B := w0.heap.size) (by simp; omega) (fun k hk => by subst hk; exact hlo))
  clear hi3 ht3 hbn hPn p3
  go_wp2
  go_end0
  exact ⟨rfl, unhide HI3, hb3⟩
set_option maxHeartbeats 4000000 in
theorem implEachTh (l : List StripeD) (S0 : Nat → Prop) (v0 : Value) (w0 w : World) (h0 : LAt 2 stripeR w0 S0 v0 l) (b0 : bulkL stripeBulk l ≤ 1048576) (hb0 : Below w0.heap.size w0 w) (bp : Nat) (s0 : Int) (hi : AtI bp w0.heap.size w s0) :
    Calls Try.prog 60 #[v0, .func (.func 61) #[] #[.pointer (some ⟨bp, 0, none⟩)]] w fun e w' => e = .returned (.tuple #[]) ∧ AtI bp w0.heap.size w' ((l.flatMap StripeD.l).foldl (addL) s0) ∧ Below w0.heap.size w0 w' := by
  obtain ⟨a, cap, rfl⟩ := h0.form
  have hl := h0.len
  have HA := hide h0
  have HI := hide hi
  clear h0 hi
  go_enter Try.func60, Try.ntmps60
  go_wp2
  go_loopw [10] (fun i wk => ∃ k : Nat, k ≤ l.length ∧ i = .int .i64 k ∧ Hid (AtI bp w0.heap.size wk (((l.take k).flatMap StripeD.l).foldl (addL) s0)) ∧ Below w0.heap.size w0 wk) (fun i _ => l.length - (intOf i).toNat)
  case atStart => exact ⟨0, Nat.zero_le _, rfl, HI, hb0⟩
  case round =>
    obtain ⟨k, hk, rfl, hiv, hbl⟩ := hrel
    clear HI
    by_cases hlt : k < l.length
    · have hki : (k : Int) < (l.length : Int) := by omega
      obtain ⟨b, o, cs, rfl, hbk, hSb, hcs, hin⟩ := (unhide HA).at k hlt
      have hin := hin.turn hbk (Below.turn hbl) (fun e => e)
      have hXb : stripeBulk l[k] ≤ 1048576 := by have := bulkL_mem stripeBulk (List.getElem_mem hlt); omega
      have hrw : RowT Try.prog 82 cs.length := by rw [stripeR_len hcs]; exact rowIStripe
      have HSN := hide (flat_snoc (f := StripeD.l) (g := addL) (s := s0) hlt)
      generalize hX : l[k] = X at *
      clear hX
      have HL1 := hide (stripeR_len hcs)
      have on1 := stripeR_one hcs
      obtain ⟨a1, k1, z1, g1⟩ := stripeR_c1 hcs
      have HZ1 := hide z1
      have hl1 := g1.len
      have hA1 := Held.new wr cs 82
      have hbA := bnew wr (.cells cs.toArray 82)
      have HI := hide (AtI.keep (unhide hiv) hbA)
      have HG := hide g1
      have hbl := Below.trans hbl (hbA.mono hbl.size)
      clear z1 g1 hiv
      go_upto_region 3 with (first | (refine wpl_load rfl 82 _ rfl _ _ rfl cs hin hrw ?_) | (refine wpl_store_new rfl _ _ _ rfl _ cs rfl rfl ?_ on1 hrw ?_; (rw [unhide HL1]; rfl)))
      generalize hWa : World.alloc wr _ = wa at *
      clear hWa hin hrw on1
      have i1 := hA1.2 1 _ (unhide HZ1)
      go_wp2
      go_loopw [17] (fun i wk => ∃ j : Nat, j ≤ X.l.length ∧ i = .int .i64 j ∧ Hid (AtI bp w0.heap.size wk ((X.l.take j).foldl (addL) (((l.take k).flatMap StripeD.l).foldl (addL) s0))) ∧ Below w0.heap.size w0 wk) (fun i _ => X.l.length - (intOf i).toNat)
      case atStart => exact ⟨0, Nat.zero_le _, rfl, HI, hbl⟩
      case round =>
        obtain ⟨j, hj, rfl, hiv, hbl2⟩ := hrel
        by_cases hlt2 : j < X.l.length
        · have hji : (j : Int) < (X.l.length : Int) := by omega
          obtain ⟨c, q, ds, rfl, hck, hSc, hds, hjn⟩ := ((unhide HG).keep trailR_keeps hbl2).at j hlt2
          have hYb : trailBulk X.l[j] ≤ 1048576 := by have := bulkL_mem trailBulk (List.getElem_mem hlt2); unfold stripeBulk at hXb; omega
          have hrw : RowT Try.prog 85 ds.length := by rw [trailR_len hds]; exact rowITrail
          have HTS := hide (fold_snoc (g := addL) (s := ((l.take k).flatMap StripeD.l).foldl (addL) s0) hlt2)
          generalize hY : X.l[j] = Y at *
          clear hY
          have HL2 := hide (trailR_len hds)
          have on2 := trailR_one hds
          have hB1 := Held.new wr ds 85
          have hbB := bnew wr (.cells ds.toArray 85)
          have hiw := AtI.keep (unhide hiv) hbB
          have hds := trailR_keeps _ _ S0 None1 ds _ (Below.turn hbB) none_off hds
          have hbl2 := Below.trans hbl2 (hbB.mono hbl2.size)
          clear hiv i1 hA1
          go_upto_region 6 with (first | (refine wpl_load rfl 85 _ rfl _ _ rfl ds hjn hrw ?_) | (refine wpl_store_new rfl _ _ _ rfl _ ds rfl rfl ?_ on2 hrw ?_; (rw [unhide HL2]; rfl)))
          generalize hWb : World.alloc wr _ = wb at *
          clear hWb hjn on2
          have HIW := hide hiw
          clear hiw
          go_wp2_with (first | (refine wpl_load rfl 85 _ rfl _ 0 rfl ds hB1.inB hrw ?_))
          refine (implTh1 Y S0 ds bp w0 _ _ hds hYb (unhide HIW) hbl2).mono ?_
          rintro e w2 ⟨rfl, hiz, hb2⟩
          have HIZ := hide hiz
          clear hiz HIW
          go_wp2
          go_roundw
          case rel =>
            exact ⟨j + 1, by omega, by go_num, hide (by rw [unhide HTS]; exact unhide HIZ), hb2⟩
          case measure => simp [intOf]; omega
        · have hji : ¬ (j : Int) < (X.l.length : Int) := by omega
          obtain rfl : j = X.l.length := by omega
          have hfin : AtI bp w0.heap.size wr (((l.take (k + 1)).flatMap StripeD.l).foldl (addL) s0) := by rw [unhide HSN]; have h := unhide hiv; rw [List.take_length] at h; exact h
          have HFIN := hide hfin
          clear hfin hiv
          go_wp2
          go_roundw
          case rel => exact ⟨k + 1, by omega, by go_num, HFIN, hbl2⟩
          case measure => simp [intOf]; omega
    · have hki : ¬ (k : Int) < (l.length : Int) := by omega
      obtain rfl : k = l.length := by omega
      have hfin := unhide hiv
      rw [List.take_length] at hfin
      have HFIN := hide hfin
      clear hfin hiv
      go_wp2
      go_end0
      exact ⟨rfl, unhide HFIN, hbl⟩
theorem implThings (l : List StripeD) (S0 : Nat → Prop) (v0 : Value) (w : World) (h0 : LAt 2 stripeR w S0 v0 l) (b0 : bulkL stripeBulk l ≤ 1048576) :
    Calls Try.prog 31 #[v0] w fun e w' => e = .returned (.int .i64 (heldN l)) ∧ Below w.heap.size w w' := by
  obtain ⟨a, cap, rfl⟩ := h0.form
  have hmf := hmfD
  have hb := bnew w (.cells #[.int .i64 0] 147)
  have HI : Hid (AtI w.heap.size w.heap.size (w.alloc (.cells #[.int .i64 0] 147)) 0) := hide ⟨Nat.le_refl _, by simp, by simp [go_sem], by simp [go_sem]⟩
  go_enter Try.func31, Try.ntmps31
  go_wp2_with fail
  refine (implEachTh l S0 _ w _ h0 b0 hb w.heap.size 0 (unhide HI)).mono ?_
  rintro e w1 ⟨rfl, hi1, hb1⟩
  have c1 := hi1.2.2.1
  have HI1 := hide hi1
  clear hi1
  go_wp2
  go_ret
  exact ⟨rfl, hb1⟩
end Go.Proofs.Ytciipadkdglhmaa
