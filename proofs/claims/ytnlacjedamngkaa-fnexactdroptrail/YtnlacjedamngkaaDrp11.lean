/-
  Copies of stripes, of the specification.
-/
import Derived.Test.YtnlacjedamngkaaDrp1
import Derived.Test.YtnlacjedamngkaaGrowK
import Derived.Test.YtnlacjedamngkaaAStripe
import Derived.Test.YtnlacjedamngkaaAbs2
import Derived.Deep.RegionHeld3
namespace Go.Proofs.Ytnlacjedamngkaa
open Go.ChangeShapes Go.WideShapes Go.ChangeAt Go.RowKit
set_option linter.unusedVariables false
set_option maxRecDepth 100000

def stripeK (w : World) (S : Nat → Prop) (cs : List Value) (x : StripeD) : Prop := ∃ v css T, cs = [.int .i64 x.held, v] ∧ GrowX 4 trailO 50 0 w v x.l css T ∧ (∀ i k, T i k → S k) ∧ (∀ k, v.ownBlock = some k → S k)
theorem stripeK_keeps : Keeps stripeK := by
  intro w w' S U cs x ht hd h
  obtain ⟨v, css, T, e, g, h1, h2⟩ := h
  exact ⟨v, css, T, e, g.keepU trailO_keeps ht (fun i k hk => hd k (h1 i k hk)) (fun k hk => hd k (h2 k hk)), h1, h2⟩
theorem stripeK_read (w : World) (S : Nat → Prop) (cs : List Value) (x : StripeD) (h : stripeK w S cs x) : stripeR w S cs x := by
  obtain ⟨v, css, T, e, g, h1, h2⟩ := h
  exact ⟨v, e, (g.doneS h1 h2).read trailR_widens trailO_read⟩
theorem stripeK_len {w : World} {S : Nat → Prop} {cs : List Value} {x : StripeD} (h : stripeK w S cs x) : cs.length = 2 := by
  obtain ⟨v, css, T, rfl, _⟩ := h
  rfl
theorem stripeK_of {w : World} {base : Nat} {v : Value} {X : StripeD} (h : GrowL 4 trailO 50 base w v X.l) : stripeK w (Within base w.heap.size) [.int .i64 X.held, v] X := by
  obtain ⟨css, T, g⟩ := h
  exact ⟨v, css, T, rfl, g.base0, fun i k hk => ⟨(g.off i k hk).1, (g.off i k hk).2.1⟩, fun k hk => g.row.lt k hk⟩
theorem GrowL.form {α : Type} {N : Nat} {C : World → (Nat → Prop) → List Value → α → Prop} {t : TypeId} {base : Nat} {w : World} {v : Value} {l : List α} (h : GrowL N C t base w v l) : ∃ a cap, v = .slice a l.length cap := by
  obtain ⟨css, T, g⟩ := h
  rcases g.row.2 with ⟨rfl, h0⟩ | ⟨b, cap, cur, rfl, _⟩
  · exact ⟨none, 0, by rw [h0]⟩
  · exact ⟨_, cap, rfl⟩
theorem plainTrailsK : PlainT Try.prog 36 := fun w a v h => by simp [loadVar, go_sem, h]
theorem wpo_appendK {P : Program} {w : World} {o : Oper} {a : Act} {K : Act → World → Prop} {Q : Exit → Act → World → Prop} {s x : Operand} {t : TypeId} {v u v' : Value} {w' : World} (ho : o.op = .call { callee := .builtin .append, args := #[s, x], argTypes := #[t, t] })
    (hs : a.eval s = v) (hx : a.eval x = u) (hr : (Builtin.append_ #[t, t] o.type #[v, u]).run P w = .ok v' w') (h : K (a.put o.dst v') w') : Oper.wp P o a w K Q := by
  unfold Oper.wp execOp
  simp only [ho, resolve, invoke, builtin, Sem.run_bind, Sem.run_pure, Result.andThen_ok, List.map_toArray, List.map_cons, List.map_nil, hs, hx, hr]
  exact h
set_option maxHeartbeats 2000000 in
theorem specL11CopyK (l : List StripeD) (S : Nat → Prop) (v : Value) (w : World) (h0 : LAt 2 stripeR w S v l) (b0 : bulkL stripeBulk l ≤ 1048576) :
    Calls Try.prog 42 #[v] w fun e w' => ∃ v', e = .returned v' ∧ LOw 2 stripeK w' (Within w.heap.size w'.heap.size) v' l ∧ Below w.heap.size w w' := by
  obtain ⟨a, cap, rfl⟩ := h0.form
  have hl := bulkL_len stripeBulk l
  have HA := hide h0
  clear h0
  have hst := hide (GrowL.start (α := StripeD) (N := 2) (C := stripeK) (t := 68) (Nat.le_refl w.heap.size))
  have hb0 := hide (bnew w (.cells #[] 68))
  have hml : (1048577 : Nat) ≤ maxLen := by unfold maxLen; omega
  go_enter Try.func42, Try.ntmps42
  go_wp2
  go_loopw [3, 4] (fun o i wk => ∃ k : Nat, k ≤ l.length ∧ i = .int .i64 k ∧ Hid (GrowL 2 stripeK 68 w.heap.size wk o (l.take k)) ∧ Below w.heap.size w wk) (fun _ i _ => l.length - (intOf i).toNat)
  case atStart => exact ⟨0, Nat.zero_le _, rfl, hst, unhide hb0⟩
  case round =>
    obtain ⟨k, hk, rfl, hgr, hbl⟩ := hrel
    have hpre : (l.take k).length ≤ k := by rw [List.length_take]; omega
    have hbs := hbl.size
    clear hst hb0
    by_cases hlt : k < l.length
    · have hki : (k : Int) < (l.length : Int) := by omega
      have hk0 : (0 : Int) ≤ (k : Int) := by omega
      obtain ⟨b, oo, cs, rfl, hbk, hSb, hcs, hin⟩ := (unhide HA).at k hlt
      have hXb : bulkL trailBulk l[k].l ≤ 1048576 := by have := bulkL_mem stripeBulk (List.getElem_mem hlt); unfold stripeBulk at this; unfold stripeBulk at hl b0; omega
      have HS := hide (List.take_succ_eq_append_getElem hlt)
      generalize l[k] = X at *
      obtain ⟨s1, rfl, g1⟩ := hcs
      obtain ⟨a1, k1, rfl⟩ := g1.form
      have q0 : w.cell? ⟨b, oo + k * 2, none⟩ = some (.int .i64 X.held) := hin 0 _ rfl
      have q1 : w.cell? ⟨b, oo + k * 2 + 1, none⟩ = some (.slice a1 X.l.length k1) := hin 1 _ rfl
      obtain ⟨css, T, gx⟩ := unhide hgr
      generalize hTK : l.take k = TK at *
      have HG := hide g1
      clear hTK hin hgr g1
      have hbd : Below wr.heap.size wr wr.drew := Below.drew (Below.refl _ _)
      have HX := hide (And.intro gx (And.intro hbl hbd))
      have hb5 := hbl.drew
      clear gx hbl hbd
      go_upto_region 5 with fail
      refine wp_region_held_drew (S := fun w' => Below w.heap.size w w') (by kernel_rfl) hb5 (fun hHeld => ?_)
      refine wpAnyH_take (i := 0) (oi := ?oo1) (v := ?vv1) ?hi1 (by kernel_rfl) (by kernel_rfl) (by kernel_rfl) ?hQ1 ?hy1 (by assumption) ?rest1
      case hi1 => (simp only [List.getElem?_toArray, List.getElem?_cons_zero]; rfl)
      case hQ1 => exact fun _ _ _ h => h
      case hy1 => exact Or.inl ⟨by rfl, by intro wS hSw; (try dsimp only at hSw); go_simp; try first | (with_reducible rfl) | (simp only [*]; done) | omega⟩
      try simp only [Act.put, List.setIfInBounds_toArray, List.set_cons_zero, List.set_cons_succ]
      refine wpAnyH_take (i := 1) (oi := ?oo2) (v := ?vv2) ?hi2 (by kernel_rfl) (by kernel_rfl) (by kernel_rfl) ?hQ2 ?hy2 (by assumption) ?rest2
      case hi2 => (simp only [List.getElem?_toArray, List.getElem?_cons_zero, List.getElem?_cons_succ]; rfl)
      case hQ2 => exact fun _ _ _ h => h
      case hy2 => exact Or.inl ⟨by rfl, by intro wS hSw; (try dsimp only at hSw); go_simp; try first | (with_reducible rfl) | (simp only [*]; done) | omega⟩
      try simp only [Act.put, List.setIfInBounds_toArray, List.set_cons_zero, List.set_cons_succ]
      refine wpAnyH_take (i := 2) (oi := ?oo3) (v := ?vv3) ?hi3 (by kernel_rfl) (by kernel_rfl) (by kernel_rfl) ?hQ3 ?hy3 (by assumption) ?rest3
      case hi3 => (simp only [List.getElem?_toArray, List.getElem?_cons_zero, List.getElem?_cons_succ]; rfl)
      case hQ3 => exact fun _ _ _ h => h
      case hy3 => exact Or.inl ⟨by rfl, by intro wS hSw; (try dsimp only at hSw); go_simp; try first | (with_reducible rfl) | (simp only [*]; done) | omega⟩
      try simp only [Act.put, List.setIfInBounds_toArray, List.set_cons_zero, List.set_cons_succ]
      refine wpAnyH_take (i := 3) (oi := ?oo4) (v := ?vv4) ?hi4 (by kernel_rfl) (by kernel_rfl) (by kernel_rfl) ?hQ4 ?hy4 (by assumption) ?rest4
      case hi4 => (simp only [List.getElem?_toArray, List.getElem?_cons_zero, List.getElem?_cons_succ]; rfl)
      case hQ4 => exact fun _ _ _ h => h
      case hy4 => exact Or.inl ⟨by rfl, by intro wS hSw; (try dsimp only at hSw); go_simp; try first | (with_reducible rfl) | (simp only [*]; done) | omega⟩
      try simp only [Act.put, List.setIfInBounds_toArray, List.set_cons_zero, List.set_cons_succ]
      refine wpAnyH_take (i := 4) (oi := ?oo5) (v := ?vv5) ?hi5 (by kernel_rfl) (by kernel_rfl) (by kernel_rfl) ?hQ5 ?hy5 (by assumption) ?rest5
      case hi5 => (simp only [List.getElem?_toArray, List.getElem?_cons_zero, List.getElem?_cons_succ]; rfl)
      case hQ5 => exact fun _ _ _ h => h
      case hy5 => exact Or.inl ⟨by rfl, by intro wS hSw; (try dsimp only at hSw); go_simp; try first | (with_reducible rfl) | (simp only [*]; done) | omega⟩
      try simp only [Act.put, List.setIfInBounds_toArray, List.set_cons_zero, List.set_cons_succ]
      refine wpAnyH_take (i := 5) (oi := ?oo6) (v := .int .i64 X.held) ?hi6 (by kernel_rfl) (by kernel_rfl) (by kernel_rfl) ?hQ6 ?hy6 (by assumption) ?rest6
      case hi6 => (simp only [List.getElem?_toArray, List.getElem?_cons_zero, List.getElem?_cons_succ]; rfl)
      case hQ6 => exact fun _ _ _ h => h
      case hy6 => exact yld_cell (by rfl) 3 _ rfl b (oo + k * 2) rfl _ (fun w' hS => (hS.cell (p := ⟨b, oo + k * 2, none⟩) hbk).trans q0) plainInt
      try simp only [Act.put, List.setIfInBounds_toArray, List.set_cons_zero, List.set_cons_succ]
      refine wpAnyH_take (i := 6) (oi := ?oo7) (v := ?vv7) ?hi7 (by kernel_rfl) (by kernel_rfl) (by kernel_rfl) ?hQ7 ?hy7 (by assumption) ?rest7
      case hi7 => (simp only [List.getElem?_toArray, List.getElem?_cons_zero, List.getElem?_cons_succ]; rfl)
      case hQ7 => exact fun _ _ _ h => h
      case hy7 => exact Or.inl ⟨by rfl, by intro wS hSw; (try dsimp only at hSw); go_simp; try first | (with_reducible rfl) | (simp only [*]; done) | omega⟩
      try simp only [Act.put, List.setIfInBounds_toArray, List.set_cons_zero, List.set_cons_succ]
      refine wpAnyH_take (i := 7) (oi := ?oo8) (v := ?vv8) ?hi8 (by kernel_rfl) (by kernel_rfl) (by kernel_rfl) ?hQ8 ?hy8 (by assumption) ?rest8
      case hi8 => (simp only [List.getElem?_toArray, List.getElem?_cons_zero, List.getElem?_cons_succ]; rfl)
      case hQ8 => exact fun _ _ _ h => h
      case hy8 => exact Or.inl ⟨by rfl, by intro wS hSw; (try dsimp only at hSw); go_simp; try first | (with_reducible rfl) | (simp only [*]; done) | omega⟩
      try simp only [Act.put, List.setIfInBounds_toArray, List.set_cons_zero, List.set_cons_succ]
      refine wpAnyH_take (i := 8) (oi := ?oo9) (v := ?vv9) ?hi9 (by kernel_rfl) (by kernel_rfl) (by kernel_rfl) ?hQ9 ?hy9 (by assumption) ?rest9
      case hi9 => (simp only [List.getElem?_toArray, List.getElem?_cons_zero, List.getElem?_cons_succ]; rfl)
      case hQ9 => exact fun _ _ _ h => h
      case hy9 => exact Or.inl ⟨by rfl, by intro wS hSw; (try dsimp only at hSw); go_simp; try first | (with_reducible rfl) | (simp only [*]; done) | omega⟩
      try simp only [Act.put, List.setIfInBounds_toArray, List.set_cons_zero, List.set_cons_succ]
      refine wpAnyH_take (i := 9) (oi := ?oo10) (v := ?vv10) ?hi10 (by kernel_rfl) (by kernel_rfl) (by kernel_rfl) ?hQ10 ?hy10 (by assumption) ?rest10
      case hi10 => (simp only [List.getElem?_toArray, List.getElem?_cons_zero, List.getElem?_cons_succ]; rfl)
      case hQ10 => exact fun _ _ _ h => h
      case hy10 => exact Or.inl ⟨by rfl, by intro wS hSw; (try dsimp only at hSw); go_simp; try first | (with_reducible rfl) | (simp only [*]; done) | omega⟩
      try simp only [Act.put, List.setIfInBounds_toArray, List.set_cons_zero, List.set_cons_succ]
      refine wpAnyH_take (i := 10) (oi := ?oo11) (v := .slice a1 X.l.length k1) ?hi11 (by kernel_rfl) (by kernel_rfl) (by kernel_rfl) ?hQ11 ?hy11 (by assumption) ?rest11
      case hi11 => (simp only [List.getElem?_toArray, List.getElem?_cons_zero, List.getElem?_cons_succ]; rfl)
      case hQ11 => exact fun _ _ _ h => h
      case hy11 => exact yld_cell (by rfl) 36 _ rfl b (oo + k * 2 + 1) rfl _ (fun w' hS => (hS.cell (p := ⟨b, oo + k * 2 + 1, none⟩) hbk).trans q1) plainTrailsK
      try simp only [Act.put, List.setIfInBounds_toArray, List.set_cons_zero, List.set_cons_succ]
      refine wpAnyH_ready (rs := [11]) (by kernel_rfl) (by simp) ?_
      refine (AllReadyH.cons (o := ?bo12n11) ?bh12n11 (fun K hK => ?br12n11) AllReadyH.nil)
      case bh12n11 => (simp only [List.getElem?_toArray, List.getElem?_cons_zero, List.getElem?_cons_succ]; rfl)
      case br12n11 =>
        go_simp
        refine (specL10AllG X.l S _ _ ((unhide HG).keep trailR_keeps hHeld) hXb).mono ?_
        rintro e w2 ⟨v2, rfl, y, hb2⟩
        obtain ⟨a2, k2, rfl⟩ := y.form
        obtain ⟨gx, hbl, hbd⟩ := unhide HX
        have hbw := bthen hbd hb2
        have hb3 := bnew w2 (.cells #[.int .i64 X.held, .slice a2 X.l.length k2] 68)
        have hb4 := bthen hbw hb3
        have hrow := (gx.keep stripeK_keeps hb4).row
        have hwz := hbw.size
        have h3z := hb3.size
        have hdz := hbd.size
        obtain ⟨i0, hi, hz0, hz1, hz2⟩ := info_parts mInfoStripe
        obtain ⟨v3, w3, hr, how, hg, hv⟩ := run_append2 (P := Try.prog) (w2.alloc (.cells #[.int .i64 X.held, .slice a2 X.l.length k2] 68)) w.heap.size 24 24 68 i0 _ 2 32 Try.underlying24 hi hz0 hz1 hz2 rfl (by decide) _ _ _ hrow ⟨w2.heap.size, 0, none⟩ 1 1 [.int .i64 X.held, .slice a2 X.l.length k2] rfl (lit_cells2 w2 [.int .i64 X.held, .slice a2 X.l.length k2] 68) (by intro u hu; simp at hu; rcases hu with rfl | rfl <;> rfl) (by omega) (by omega) (by omega)
        have yy3 : stripeK (w2.alloc (.cells #[.int .i64 X.held, .slice a2 X.l.length k2] 68)) (Within wr.drew.heap.size w2.heap.size) [.int .i64 X.held, .slice a2 X.l.length k2] X := stripeK_keeps _ _ _ None1 _ _ (Below.turn hb3) none_off (stripeK_of y)
        have st1 := GrowX.step stripeK_keeps gx hbs hb4 yy3 (fun k hk => ⟨Nat.le_trans hdz hk.1, Nat.lt_of_lt_of_le hk.2 h3z⟩) rfl how hg (by rcases hv with h | h; exact .inl h; exact .inr (by rw [h]; try simp))
        have bl1 := grown_below (bthen hbl hb4) hg (fun k hk => (gx.row.lt k hk).1) (by omega)
        have HST := hide (And.intro st1 bl1)
        have HB3 := hide (bthen hbl hb4)
        have hHw := bthen hHeld hb2
        clear gx hbl hbd hb2 hbw hb3 hb4 hrow y how hg hv yy3 st1 bl1 hHeld hi hz0 hz1 hz2 hwz h3z hdz
        go_wp2_with fail
        refine hK.out _ _ (hHw) (fun hHeld => ?_)
        clear hK
        refine wpAnyH_take (i := 12) (oi := ?oo13) (v := .agg #[.int .i64 X.held, .slice a2 X.l.length k2]) ?hi13 (by kernel_rfl) (by kernel_rfl) (by kernel_rfl) ?hQ13 ?hy13 (by assumption) ?rest13
        case hi13 => (simp only [List.getElem?_toArray, List.getElem?_cons_zero, List.getElem?_cons_succ]; rfl)
        case hQ13 => exact fun _ _ _ h => h
        case hy13 => exact Or.inl ⟨by rfl, by intro wS hSw; (try dsimp only at hSw); go_simp; try first | (with_reducible rfl) | (simp only [*]; done) | omega⟩
        try simp only [Act.put, List.setIfInBounds_toArray, List.set_cons_zero, List.set_cons_succ]
        refine wpAnyH_ready (rs := [13]) (by kernel_rfl) (by simp) ?_
        refine (AllReadyH.cons (o := ?bo14n13) ?bh14n13 (fun K hK => ?br14n13) AllReadyH.nil)
        case bh14n13 => (simp only [List.getElem?_toArray, List.getElem?_cons_zero, List.getElem?_cons_succ]; rfl)
        case br14n13 =>
          go_simp
          refine hK.out _ _ ((unhide HB3)) (fun hHeld => ?_)
          clear hK
          refine wpAnyH_ready (rs := [14]) (by kernel_rfl) (by simp) ?_
          refine (AllReadyH.cons (o := ?bo15n14) ?bh15n14 (fun K hK => ?br15n14) AllReadyH.nil)
          case bh15n14 => (simp only [List.getElem?_toArray, List.getElem?_cons_zero, List.getElem?_cons_succ]; rfl)
          case br15n14 =>
            refine wpo_appendK (s := .tmp 12) (x := .tmp 25) (t := 24) (by rfl) (by rfl) (by rfl) hr ?_
            refine hK.out _ _ ((unhide HST).2) (fun hHeld => ?_)
            clear hK
            refine wpAnyH_take (i := 15) (oi := ?oo16) (v := ?vv16) ?hi16 (by kernel_rfl) (by kernel_rfl) (by kernel_rfl) ?hQ16 ?hy16 (by assumption) ?rest16
            case hi16 => (simp only [List.getElem?_toArray, List.getElem?_cons_zero, List.getElem?_cons_succ]; rfl)
            case hQ16 => exact fun _ _ _ h => h
            case hy16 => exact Or.inl ⟨by rfl, by intro wS hSw; (try dsimp only at hSw); go_simp; try first | (with_reducible rfl) | (simp only [*]; done) | omega⟩
            try simp only [Act.put, List.setIfInBounds_toArray, List.set_cons_zero, List.set_cons_succ]
            refine wpAnyH_done (by kernel_rfl) ?_ _
            clear hHeld hr
            go_wp2
            go_roundw
            case rel => exact ⟨k + 1, by omega, by go_num, hide (by rw [unhide HS]; exact (unhide HST).1), (unhide HST).2⟩
            case measure => simp [intOf]; omega
    · have hki : ¬ (k : Int) < (l.length : Int) := by omega
      obtain rfl : k = l.length := by omega
      go_wp2
      go_ret
      have h := unhide hgr
      rw [List.take_length] at h
      exact ⟨_, rfl, h.done (by omega), hbl⟩
end Go.Proofs.Ytnlacjedamngkaa
