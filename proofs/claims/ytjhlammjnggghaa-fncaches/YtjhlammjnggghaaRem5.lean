/-
  Remember of the specification: its answer is a row of the call's own.
-/
import Derived.Test.YtjhlammjnggghaaRem4
namespace Go.Proofs.Ytjhlammjnggghaa
open Go.ChangeShapes Go.WideShapes Go.ChangeAt Go.RowKit
set_option linter.unusedVariables false
set_option maxRecDepth 100000
theorem owns_mono {w : World} {base base' : Nat} {e : TypeId} {size : Nat} {v : Value} {n : Nat} {xs : List Value} (h : w.ownsRow base e size v n xs) (hb : base' ≤ base) : w.ownsRow base' e size v n xs := by
  obtain ⟨h1, h2⟩ := h
  refine ⟨h1, ?_⟩
  rcases h2 with h2 | ⟨g, cap, cur, hv, hg, rest⟩
  · exact .inl h2
  · exact .inr ⟨g, cap, cur, hv, Nat.le_trans hb hg, rest⟩
set_option maxHeartbeats 2000000 in
theorem specRememberK (l : List VerdictD) (x : VerdictD) (most : Int) (S0 : Nat → Prop) (v0 : Value) (w : World) (h0 : LAt 3 verdictR w S0 v0 l) (b0 : bulkL verdictBulk l ≤ 1048576) :
    Calls Try.prog 36 #[v0, .agg #[.int .i64 x.trace, .int .i64 x.stamp, .bool x.keep], .int .i64 most] w fun e w' => ∃ v', e = .returned (.tuple #[v', .int .i64 (remG l x most)]) ∧ w'.ownsRow w.heap.size 59 3 v' (remL l x most).length (cellsW (remL l x most)) ∧ Below w.heap.size w w' := by
  obtain ⟨a, cap, rfl⟩ := h0.form
  have hl := bulkL_len verdictBulk l
  have B01 := bnew w (.cells #[.int .i64 x.trace, .int .i64 x.stamp, .bool x.keep] 59)
  have P0 := Held.new w [.int .i64 x.trace, .int .i64 x.stamp, .bool x.keep] 59
  have HA := hide (h0.keep verdictR_keeps B01)
  clear h0
  by_cases hm : most < 1
  · have hq : decide (most < 1) = true := decide_eq_true hm
    have HR := hide (And.intro (remL_no (l := l) (x := x) hm) (remG_no (l := l) (x := x) hm))
    go_enter Try.func36, Try.ntmps36
    go_upto_region 1 with fail
    generalize World.alloc w _ = w1 at *
    obtain ⟨v', w3, hr, how, hb⟩ := appVs cap (ver_src (unhide HA)) (Nat.le_refl w1.heap.size) (by omega)
    have hb2 := hb.mono (Nat.le_refl _)
    have HV := hide (owns_mono how B01.size)
    have HB := hide (bthen B01 hb)
    clear how hb hb2 hm
    go_wp2_with (first | (at_builtin; refine wpl_append_run6 rfl (.tmp 13) (.tmp 14) 57 rfl _ _ rfl rfl hr ?_))
    refine bodyPost_ret (v := .tuple #[v', .int .i64 0]) (by simp [results, Try.results36, go_sem]) rfl ⟨v', ?_, ?_, unhide HB⟩
    · rw [(unhide HR).2]
    · rw [(unhide HR).1]; exact unhide HV
  · have hq : decide (most < 1) = false := decide_eq_false hm
    have HR := hide (And.intro (remL_yes (l := l) (x := x) hm) (remG_yes (l := l) (x := x) hm))
    have HM : Hid (1 ≤ most.toNat ∧ (most.toNat : Int) = most) := hide ⟨by omega, by omega⟩
    go_enter Try.func36, Try.ntmps36
    go_upto_region 1 with fail
    generalize World.alloc w _ = w1 at *
    have H0 : Hid ((w1.alloc (.cells #[] 59)).ownsRow w1.heap.size 59 3 (.slice (some ⟨w1.heap.size, 0, none⟩) 0 0) (fA (l.take 0) x).length (cellsW (fA (l.take 0) x))) := hide (World.ownsRow_made (base := w1.heap.size) (e := 59) (size := 3) w1 #[] 0 (Nat.le_refl _) (by unfold maxLen; omega) rfl)
    have HB0 := hide (bnew w1 (.cells #[] 59))
    clear hm
    go_wp2
    go_loopw [8, 9] (fun o i wk => ∃ k : Nat, k ≤ l.length ∧ i = .int .i64 k ∧ Hid (wk.ownsRow w1.heap.size 59 3 o (fA (l.take k) x).length (cellsW (fA (l.take k) x))) ∧ Below w1.heap.size w1 wk) (fun _ i _ => l.length - (intOf i).toNat)
    case atStart => exact ⟨0, Nat.zero_le _, rfl, H0, unhide HB0⟩
    case round =>
      clear H0 HB0
      obtain ⟨k, hk, rfl, hrow, hbl⟩ := hrel
      have hbs := hbl.size
      have hpre := fA_pre l x k
      have p0 := (P0.keep hbl).2 0 _ rfl
      have p1 := (P0.keep hbl).2 1 _ rfl
      have p2 := (P0.keep hbl).2 2 _ rfl
      have hwx : w.heap.size < wr.heap.size := (P0.keep hbl).1
      by_cases hlt : k < l.length
      · have hki : (k : Int) < (l.length : Int) := by omega
        have hk0 : (0 : Int) ≤ (k : Int) := by omega
        obtain ⟨b, oo, cs, rfl, hbk, hSb, hcs, hin⟩ := (unhide HA).at k hlt
        have hin := hin.turn hbk (Below.turn hbl) (fun e => e)
        have HY := hide (fun e => fA_yes (x := x) hlt e)
        have HN := hide (fun e => fA_no (x := x) hlt e)
        generalize l[k] = X at *
        obtain rfl : cs = _ := hcs
        have c0 : wr.cell? ⟨b, oo + k * 3, none⟩ = some (.int .i64 X.trace) := hin 0 _ rfl
        have c1 : wr.cell? ⟨b, oo + k * 3 + 1, none⟩ = some (.int .i64 X.stamp) := hin 1 _ rfl
        have c2 : wr.cell? ⟨b, oo + k * 3 + 2, none⟩ = some (.bool X.keep) := hin 2 _ rfl
        replace hbk : b < wr.heap.size := Nat.lt_of_lt_of_le hbk hbs
        clear hin
        by_cases hE : X.trace = x.trace
        · have q : (X.trace != x.trace) = false := by simpa using hE
          have HK : Hid (wr.ownsRow w1.heap.size 59 3 _ (fA (l.take (k + 1)) x).length (cellsW (fA (l.take (k + 1)) x))) := hide (by rw [unhide HY hE]; exact unhide hrow)
          clear hE HY HN
          go_upto_region 7 with fail
          refine wp_region_held_drew (S := fun w' => Below wr.heap.size wr w') (by kernel_rfl) (Below.drew (Below.refl _ _)) (fun hHeld => ?_)
          refine wpAnyH_take (i := 0) (oi := ?oo1) (v := ?vv1) ?hi1 (by kernel_rfl) (by kernel_rfl) (by kernel_rfl) ?hQ1 ?hy1 (by assumption) ?rest1
          case hi1 => (simp only [List.getElem?_toArray, List.getElem?_cons_zero]; rfl)
          case hQ1 => exact fun _ _ _ h => h
          case hy1 => exact Or.inl ⟨by rfl, by intro wS hSw; (try dsimp only at hSw); go_simp; try first | (with_reducible rfl) | (simp only [*]; done) | omega⟩
          try simp only [Act.put, List.setIfInBounds_toArray, List.set_cons_zero, List.set_cons_succ]
          refine wpAnyH_take (i := 1) (oi := ?oo2) (v := ?vv2) ?hi2 (by kernel_rfl) (by kernel_rfl) (by kernel_rfl) ?hQ2 ?hy2 (by assumption) ?rest2
          case hi2 => (simp only [List.getElem?_toArray, List.getElem?_cons_zero, List.getElem?_cons_succ]; rfl)
          case hQ2 => exact fun _ _ _ h => h
          case hy2 => exact Or.inl ⟨by rfl, by intro wS hSw; (try dsimp only at hSw); go_simp; try first | (with_reducible rfl) | (simp only [*]; done) | omega⟩
          try simp only [Act.put, List.setIfInBounds_toArray, List.set_cons_zero, List.set_cons_succ]
          refine wpAnyH_take (i := 2) (oi := ?oo3) (v := ?vv3) ?hi3 (by kernel_rfl) (by kernel_rfl) (by kernel_rfl) ?hQ3 ?hy3 (by assumption) ?rest3
          case hi3 => (simp only [List.getElem?_toArray, List.getElem?_cons_zero, List.getElem?_cons_succ]; rfl)
          case hQ3 => exact fun _ _ _ h => h
          case hy3 => exact Or.inl ⟨by rfl, by intro wS hSw; (try dsimp only at hSw); go_simp; try first | (with_reducible rfl) | (simp only [*]; done) | omega⟩
          try simp only [Act.put, List.setIfInBounds_toArray, List.set_cons_zero, List.set_cons_succ]
          refine wpAnyH_take (i := 3) (oi := ?oo4) (v := ?vv4) ?hi4 (by kernel_rfl) (by kernel_rfl) (by kernel_rfl) ?hQ4 ?hy4 (by assumption) ?rest4
          case hi4 => (simp only [List.getElem?_toArray, List.getElem?_cons_zero, List.getElem?_cons_succ]; rfl)
          case hQ4 => exact fun _ _ _ h => h
          case hy4 => exact Or.inl ⟨by rfl, by intro wS hSw; (try dsimp only at hSw); go_simp; try first | (with_reducible rfl) | (simp only [*]; done) | omega⟩
          try simp only [Act.put, List.setIfInBounds_toArray, List.set_cons_zero, List.set_cons_succ]
          refine wpAnyH_take (i := 4) (oi := ?oo5) (v := .int .i64 X.trace) ?hi5 (by kernel_rfl) (by kernel_rfl) (by kernel_rfl) ?hQ5 ?hy5 (by assumption) ?rest5
          case hi5 => (simp only [List.getElem?_toArray, List.getElem?_cons_zero, List.getElem?_cons_succ]; rfl)
          case hQ5 => exact fun _ _ _ h => h
          case hy5 => exact yld_cell (by rfl) 3 _ rfl b (oo + k * 3) rfl _ (fun w' hS => (hS.cell (p := ⟨b, oo + k * 3, none⟩) hbk).trans c0) plainInt
          try simp only [Act.put, List.setIfInBounds_toArray, List.set_cons_zero, List.set_cons_succ]
          refine wpAnyH_take (i := 5) (oi := ?oo6) (v := ?vv6) ?hi6 (by kernel_rfl) (by kernel_rfl) (by kernel_rfl) ?hQ6 ?hy6 (by assumption) ?rest6
          case hi6 => (simp only [List.getElem?_toArray, List.getElem?_cons_zero, List.getElem?_cons_succ]; rfl)
          case hQ6 => exact fun _ _ _ h => h
          case hy6 => exact Or.inl ⟨by rfl, by intro wS hSw; (try dsimp only at hSw); go_simp; try first | (with_reducible rfl) | (simp only [*]; done) | omega⟩
          try simp only [Act.put, List.setIfInBounds_toArray, List.set_cons_zero, List.set_cons_succ]
          refine wpAnyH_take (i := 6) (oi := ?oo7) (v := .int .i64 x.trace) ?hi7 (by kernel_rfl) (by kernel_rfl) (by kernel_rfl) ?hQ7 ?hy7 (by assumption) ?rest7
          case hi7 => (simp only [List.getElem?_toArray, List.getElem?_cons_zero, List.getElem?_cons_succ]; rfl)
          case hQ7 => exact fun _ _ _ h => h
          case hy7 => exact yld_cell (by rfl) 3 _ rfl w.heap.size 0 rfl _ (fun w' hS => (hS.cell (p := ⟨w.heap.size, 0, none⟩) hwx).trans p0) plainInt
          try simp only [Act.put, List.setIfInBounds_toArray, List.set_cons_zero, List.set_cons_succ]
          refine wpAnyH_take (i := 7) (oi := ?oo8) (v := ?vv8) ?hi8 (by kernel_rfl) (by kernel_rfl) (by kernel_rfl) ?hQ8 ?hy8 (by assumption) ?rest8
          case hi8 => (simp only [List.getElem?_toArray, List.getElem?_cons_zero, List.getElem?_cons_succ]; rfl)
          case hQ8 => exact fun _ _ _ h => h
          case hy8 => exact Or.inl ⟨by rfl, by intro wS hSw; (try dsimp only at hSw); go_simp; try first | (with_reducible rfl) | (simp only [*]; done) | omega⟩
          try simp only [Act.put, List.setIfInBounds_toArray, List.set_cons_zero, List.set_cons_succ]
          refine wpAnyH_done (by kernel_rfl) ?_ _
          have hH := hbl.trans (hHeld.mono hbs)
          have HK2 := hide (owns_below (unhide HK) hHeld)
          clear hHeld HK hrow hbl
          go_wp2
          go_roundw
          case rel => exact ⟨k + 1, by omega, by go_num, HK2, hH⟩
          case measure => simp [intOf]; omega
        · have q : (X.trace != x.trace) = true := by simpa using hE
          have HF := hide (unhide HN hE)
          clear hE HY HN
          go_upto_region 7 with fail
          refine wp_region_held_drew (S := fun w' => Below wr.heap.size wr w') (by kernel_rfl) (Below.drew (Below.refl _ _)) (fun hHeld => ?_)
          refine wpAnyH_take (i := 0) (oi := ?oo9) (v := ?vv9) ?hi9 (by kernel_rfl) (by kernel_rfl) (by kernel_rfl) ?hQ9 ?hy9 (by assumption) ?rest9
          case hi9 => (simp only [List.getElem?_toArray, List.getElem?_cons_zero]; rfl)
          case hQ9 => exact fun _ _ _ h => h
          case hy9 => exact Or.inl ⟨by rfl, by intro wS hSw; (try dsimp only at hSw); go_simp; try first | (with_reducible rfl) | (simp only [*]; done) | omega⟩
          try simp only [Act.put, List.setIfInBounds_toArray, List.set_cons_zero, List.set_cons_succ]
          refine wpAnyH_take (i := 1) (oi := ?oo10) (v := ?vv10) ?hi10 (by kernel_rfl) (by kernel_rfl) (by kernel_rfl) ?hQ10 ?hy10 (by assumption) ?rest10
          case hi10 => (simp only [List.getElem?_toArray, List.getElem?_cons_zero, List.getElem?_cons_succ]; rfl)
          case hQ10 => exact fun _ _ _ h => h
          case hy10 => exact Or.inl ⟨by rfl, by intro wS hSw; (try dsimp only at hSw); go_simp; try first | (with_reducible rfl) | (simp only [*]; done) | omega⟩
          try simp only [Act.put, List.setIfInBounds_toArray, List.set_cons_zero, List.set_cons_succ]
          refine wpAnyH_take (i := 2) (oi := ?oo11) (v := ?vv11) ?hi11 (by kernel_rfl) (by kernel_rfl) (by kernel_rfl) ?hQ11 ?hy11 (by assumption) ?rest11
          case hi11 => (simp only [List.getElem?_toArray, List.getElem?_cons_zero, List.getElem?_cons_succ]; rfl)
          case hQ11 => exact fun _ _ _ h => h
          case hy11 => exact Or.inl ⟨by rfl, by intro wS hSw; (try dsimp only at hSw); go_simp; try first | (with_reducible rfl) | (simp only [*]; done) | omega⟩
          try simp only [Act.put, List.setIfInBounds_toArray, List.set_cons_zero, List.set_cons_succ]
          refine wpAnyH_take (i := 3) (oi := ?oo12) (v := ?vv12) ?hi12 (by kernel_rfl) (by kernel_rfl) (by kernel_rfl) ?hQ12 ?hy12 (by assumption) ?rest12
          case hi12 => (simp only [List.getElem?_toArray, List.getElem?_cons_zero, List.getElem?_cons_succ]; rfl)
          case hQ12 => exact fun _ _ _ h => h
          case hy12 => exact Or.inl ⟨by rfl, by intro wS hSw; (try dsimp only at hSw); go_simp; try first | (with_reducible rfl) | (simp only [*]; done) | omega⟩
          try simp only [Act.put, List.setIfInBounds_toArray, List.set_cons_zero, List.set_cons_succ]
          refine wpAnyH_take (i := 4) (oi := ?oo13) (v := .int .i64 X.trace) ?hi13 (by kernel_rfl) (by kernel_rfl) (by kernel_rfl) ?hQ13 ?hy13 (by assumption) ?rest13
          case hi13 => (simp only [List.getElem?_toArray, List.getElem?_cons_zero, List.getElem?_cons_succ]; rfl)
          case hQ13 => exact fun _ _ _ h => h
          case hy13 => exact yld_cell (by rfl) 3 _ rfl b (oo + k * 3) rfl _ (fun w' hS => (hS.cell (p := ⟨b, oo + k * 3, none⟩) hbk).trans c0) plainInt
          try simp only [Act.put, List.setIfInBounds_toArray, List.set_cons_zero, List.set_cons_succ]
          refine wpAnyH_take (i := 5) (oi := ?oo14) (v := ?vv14) ?hi14 (by kernel_rfl) (by kernel_rfl) (by kernel_rfl) ?hQ14 ?hy14 (by assumption) ?rest14
          case hi14 => (simp only [List.getElem?_toArray, List.getElem?_cons_zero, List.getElem?_cons_succ]; rfl)
          case hQ14 => exact fun _ _ _ h => h
          case hy14 => exact Or.inl ⟨by rfl, by intro wS hSw; (try dsimp only at hSw); go_simp; try first | (with_reducible rfl) | (simp only [*]; done) | omega⟩
          try simp only [Act.put, List.setIfInBounds_toArray, List.set_cons_zero, List.set_cons_succ]
          refine wpAnyH_take (i := 6) (oi := ?oo15) (v := .int .i64 x.trace) ?hi15 (by kernel_rfl) (by kernel_rfl) (by kernel_rfl) ?hQ15 ?hy15 (by assumption) ?rest15
          case hi15 => (simp only [List.getElem?_toArray, List.getElem?_cons_zero, List.getElem?_cons_succ]; rfl)
          case hQ15 => exact fun _ _ _ h => h
          case hy15 => exact yld_cell (by rfl) 3 _ rfl w.heap.size 0 rfl _ (fun w' hS => (hS.cell (p := ⟨w.heap.size, 0, none⟩) hwx).trans p0) plainInt
          try simp only [Act.put, List.setIfInBounds_toArray, List.set_cons_zero, List.set_cons_succ]
          refine wpAnyH_take (i := 7) (oi := ?oo16) (v := ?vv16) ?hi16 (by kernel_rfl) (by kernel_rfl) (by kernel_rfl) ?hQ16 ?hy16 (by assumption) ?rest16
          case hi16 => (simp only [List.getElem?_toArray, List.getElem?_cons_zero, List.getElem?_cons_succ]; rfl)
          case hQ16 => exact fun _ _ _ h => h
          case hy16 => exact Or.inl ⟨by rfl, by intro wS hSw; (try dsimp only at hSw); go_simp; try first | (with_reducible rfl) | (simp only [*]; done) | omega⟩
          try simp only [Act.put, List.setIfInBounds_toArray, List.set_cons_zero, List.set_cons_succ]
          refine wpAnyH_done (by kernel_rfl) ?_ _
          have hH := hbl.trans (hHeld.mono hbs)
          obtain ⟨v3, w3, hr, how, hb3⟩ := appV1 (owns_below (unhide hrow) hHeld) hH.size X (by omega)
          rw [← unhide HF] at how
          have hl3 : (fA (l.take k) x).length + 1 = (fA (l.take (k + 1)) x).length := by rw [unhide HF]; simp
          rw [hl3] at how
          have HW := hide how
          have HB := hide (hH.trans hb3)
          have c0 := (hHeld.cell (p := ⟨b, oo + k * 3, none⟩) hbk).trans c0
          have c1 := (hHeld.cell (p := ⟨b, oo + k * 3 + 1, none⟩) hbk).trans c1
          have c2 := (hHeld.cell (p := ⟨b, oo + k * 3 + 2, none⟩) hbk).trans c2
          clear how hb3 hHeld hrow hbl hl3 hH p0 p1 p2
          go_wp2_with (first | (at_builtin; refine wpl_append_run6 rfl (.tmp 31) (.tmp 36) 57 rfl _ _ rfl rfl hr ?_))
          go_roundw
          case rel => exact ⟨k + 1, by omega, by go_num, HW, unhide HB⟩
          case measure => simp [intOf]; omega
      · have hki : ¬ (k : Int) < (l.length : Int) := by omega
        obtain rfl : k = l.length := by omega
        have h := unhide hrow
        rw [List.take_length] at h hpre
        obtain ⟨v3, w3, hr, how, hb3⟩ := appV1 h hbs x (by omega)
        rw [← remA_is] at how
        obtain ⟨gg, cp, rfl⟩ := rform how (Nat.succ_pos _)
        have HR0 := hide how
        have HB := hide (hbl.trans hb3)
        have HRL : Hid ((remA l x).length = (fA l x).length + 1 ∧ (remA l x).length ≤ l.length + 1) := hide ⟨by rw [remA_is]; simp, remA_len l x⟩
        clear how h hrow hb3 hpre
        generalize (fA l x).length = NF at *
        go_wp2_with (first | (at_builtin; refine wpl_append_run6 rfl (.tmp 38) (.tmp 40) 57 rfl _ _ rfl rfl hr ?_))
        clear hr p0 p1 p2
        go_loopw [8, 10] (fun o g wk => ∃ (c n : Nat) (ys : List VerdictD) (gg cp : Nat), c ≤ (remA l x).length - most.toNat ∧ o = .slice (some ⟨gg, 0, none⟩) n cp ∧ g = .int .i64 (goneAt (remA l x) c) ∧ Hid (ys.length = n ∧ ys = (remA l x).drop c) ∧ Hid (wk.ownsRow w1.heap.size 59 3 (.slice (some ⟨gg, 0, none⟩) n cp) n (cellsW ys)) ∧ Below w1.heap.size w1 wk) (fun o _ _ => sliceLen o)
        case atStart => exact ⟨0, _, remA l x, gg, cp, Nat.zero_le _, rfl, rfl, hide ⟨(unhide HRL).1, rfl⟩, HR0, unhide HB⟩
        case round =>
          clear HR0 HB hbl hbs
          obtain ⟨c, n, ys, g2, cp2, hc, rfl, rfl, hys, hrow, hbl⟩ := hrel
          have hbs := hbl.size
          obtain ⟨GN, hGN⟩ : ∃ g, g = goneAt (remA l x) c := ⟨_, rfl⟩
          rw [← hGN]
          have HG2 := hide hGN
          clear hGN
          by_cases hC : most.toNat < n
          · have q : decide (most < (n : Int)) = true := decide_eq_true (by have := (unhide HM).2; omega)
            obtain ⟨m, rfl⟩ : ∃ m, n = m + 1 := ⟨n - 1, by omega⟩
            have hm1 : most.toNat ≤ m := by omega
            have hm2 : 0 < m := by have := (unhide HM).1; omega
            obtain ⟨y, zs, rfl⟩ : ∃ y zs, ys = y :: zs := by
              cases ys with
              | nil => have := (unhide hys).1; simp at this
              | cons y zs => exact ⟨y, zs, rfl⟩
            have hcap := rcap (unhide hrow)
            obtain ⟨cq, rfl⟩ : ∃ cq, cp2 = cq + 1 := ⟨cp2 - 1, by omega⟩
            have hzl : zs.length = m := by have := (unhide hys).1; simpa using this
            have hmb : m ≤ 1048577 := by have h1 := (unhide hys).1; rw [(unhide hys).2, List.length_drop] at h1; have := (unhide HRL).2; omega
            have HGS : Hid (goneAt (remA l x) (c + 1) = y.trace) := hide (goneAt_succ (by have h1 := (unhide hys).2; have := congrArg (fun q => q[0]?) h1; simpa using this.symm))
            have HD : Hid (zs = (remA l x).drop (c + 1)) := hide (by have h1 := congrArg (List.drop 1) (unhide hys).2; rw [List.drop_drop] at h1; simpa [Nat.add_comm] using h1)
            have hc2 : c + 1 ≤ (remA l x).length - most.toNat := by have h1 := (unhide hys).1; rw [(unhide hys).2, List.length_drop] at h1; omega
            have y0 := row_head (unhide hrow)
            obtain ⟨v3, w3, hr, how, hb3⟩ := appVs cq (row_src (unhide hrow)) hbs (by omega)
            rw [hzl] at hr how
            obtain ⟨g3, cp3, rfl⟩ := rform how (by omega)
            have HW := hide how
            have HB := hide (hbl.trans hb3)
            have HZL := hide hzl
            have hcq : m ≤ cq := by omega
            have hcq2 : 0 < cq := by omega
            clear how hb3 hzl hrow hys hC hcap hc
            go_wp2_with (first | (at_builtin; refine wpl_append_run6 rfl (.tmp 50) (.tmp 52) 57 rfl _ _ rfl rfl hr ?_))
            go_roundw
            case rel => exact ⟨c + 1, m, zs, g3, cp3, hc2, rfl, by rw [unhide HGS], hide ⟨unhide HZL, unhide HD⟩, HW, unhide HB⟩
            case measure => simp [sliceLen]
          · have q : decide (most < (n : Int)) = false := decide_eq_false (by have := (unhide HM).2; omega)
            have hcd : c = (remA l x).length - most.toNat := by have h1 := (unhide hys).1; rw [(unhide hys).2, List.length_drop] at h1; omega
            have HGE : Hid (GN = remG l x most) := hide (by rw [unhide HG2, (unhide HR).2, hcd])
            have HYE : Hid (ys = remL l x most) := hide (by rw [(unhide hys).2, (unhide HR).1, hcd])
            have hnb : n ≤ 1048577 := by have h1 := (unhide hys).1; rw [(unhide hys).2, List.length_drop] at h1; have := (unhide HRL).2; omega
            have HV : Hid (wr.ownsRow w.heap.size 59 3 (.slice (some ⟨g2, 0, none⟩) n cp2) (remL l x most).length (cellsW (remL l x most))) := hide (by
              rw [← unhide HYE, (unhide hys).1]
              exact owns_mono (unhide hrow) B01.size)
            have HB := hide (bthen B01 hbl)
            clear hys hrow hC hcd
            go_wp2
            refine bodyPost_ret (v := .tuple #[.slice (some ⟨g2, 0, none⟩) n cp2, .int .i64 GN]) (by simp [results, Try.results36, go_sem]) rfl ⟨_, ?_, unhide HV, unhide HB⟩
            rw [unhide HGE]
end Go.Proofs.Ytjhlammjnggghaa
