/-
  Remember of the program.
-/
import Derived.Test.YtjhlammjnggghaaRem2
namespace Go.Proofs.Ytjhlammjnggghaa
open Go.ChangeShapes Go.WideShapes Go.ChangeAt Go.RowKit Go.Maps
set_option linter.unusedVariables false
set_option maxRecDepth 100000

theorem remL_no {l : List VerdictD} {x : VerdictD} {most : Int} (h : most < 1) : remL l x most = l := by unfold remL; rw [if_pos h]
theorem remG_no {l : List VerdictD} {x : VerdictD} {most : Int} (h : most < 1) : remG l x most = 0 := by unfold remG; rw [if_pos h]
theorem remL_yes {l : List VerdictD} {x : VerdictD} {most : Int} (h : ¬ most < 1) : remL l x most = (remA l x).drop ((remA l x).length - most.toNat) := by unfold remL; rw [if_neg h]
theorem remG_yes {l : List VerdictD} {x : VerdictD} {most : Int} (h : ¬ most < 1) : remG l x most = goneAt (remA l x) ((remA l x).length - most.toNat) := by unfold remG; rw [if_neg h]
theorem goneAt_succ {q : List VerdictD} {c : Nat} {X : VerdictD} (h : q[c]? = some X) : goneAt q (c + 1) = X.trace := by unfold goneAt; rw [if_neg (Nat.succ_ne_zero c), Nat.add_sub_cancel, h]; rfl
def RmO (l : List VerdictD) (x : VerdictD) (wk : World) (bm n k : Nat) : Prop := ∃ D p, wk.ownsMap Try.prog 3 rV bm n D ∧ TellsV D p ∧ OffOk l x k p
def RmE (l : List VerdictD) (x : VerdictD) (most : Nat) (wk : World) (bm n k c : Nat) : Prop := ∃ D p, wk.ownsMap Try.prog 3 rV bm n D ∧ TellsV D p ∧ Ev (l.map (offB x) ++ [some x]) most k p c
set_option maxHeartbeats 2000000 in
theorem implRemember (l : List VerdictD) (x : VerdictD) (most : Int) (S0 : Nat → Prop) (v0 : Value) (w : World) (h0 : LAt 3 verdictR w S0 v0 l) (b0 : bulkL verdictBulk l ≤ 1048576) :
    Calls Try.prog 35 #[v0, .agg #[.int .i64 x.trace, .int .i64 x.stamp, .bool x.keep], .int .i64 most] w fun e w' => ∃ v', e = .returned (.tuple #[v', .int .i64 (remG l x most)]) ∧ LOw 3 verdictO w' (Within w.heap.size w'.heap.size) v' (remL l x most) ∧ Below w.heap.size w w' := by
  obtain ⟨a, cap, rfl⟩ := h0.form
  have hl := bulkL_len verdictBulk l
  have B01 := bnew w (.cells #[.int .i64 x.trace, .int .i64 x.stamp, .bool x.keep] 59)
  have P0 := Held.new w [.int .i64 x.trace, .int .i64 x.stamp, .bool x.keep] 59
  have HS1 : Hid ((w.alloc (.cells #[.int .i64 x.trace, .int .i64 x.stamp, .bool x.keep] 59)).heap.size = w.heap.size + 1) := hide (by simp)
  have HA := hide (h0.keep verdictR_keeps B01)
  clear h0
  by_cases hm : most < 1
  · have hq : decide (most < 1) = true := decide_eq_true hm
    have HR := hide (And.intro (remL_no (l := l) (x := x) hm) (remG_no (l := l) (x := x) hm))
    go_enter Try.func35, Try.ntmps35
    go_upto_region 1 with fail
    generalize World.alloc w _ = w1 at *
    have B12 := bnew w1 (.cells #[.slice a l.length cap] 57)
    have HC := hide (implLaid1 l S0 (.slice a l.length cap) w1.heap.size _ ((unhide HA).keep verdictR_keeps B12) ((Held.new w1 [.slice a l.length cap] 57).2 0 _ rfl) (by simp) (by omega))
    have hs12 := B12.size
    clear hm
    go_wp2_with fail
    refine (unhide HC).mono ?_
    rintro e w3 ⟨v', rfl, hv, hb⟩
    have HB := hide (bthen (bthen B01 B12) hb)
    have HV := hide (hv.widens (fun k hk => (⟨by have := hk.1; have := B01.size; omega, hk.2⟩ : Within w.heap.size w3.heap.size k)))
    clear hv hb B12 hs12 HC
    go_wp2
    refine bodyPost_ret (v := .tuple #[v', .int .i64 0]) (by simp [results, Try.results35, go_sem]) rfl ⟨v', ?_, ?_, unhide HB⟩
    · rw [(unhide HR).2]
    · rw [(unhide HR).1]; exact unhide HV
  · have hq : decide (most < 1) = false := decide_eq_false hm
    have HR := hide (And.intro (remL_yes (l := l) (x := x) hm) (remG_yes (l := l) (x := x) hm))
    have HM : Hid (1 ≤ most.toNat ∧ (most.toNat : Int) = most) := hide ⟨by omega, by omega⟩
    go_enter Try.func35, Try.ntmps35
    go_upto_region 1 with fail
    generalize World.alloc w _ = w1 at *
    have p0 := P0.2 0 _ rfl
    have p1 := P0.2 1 _ rfl
    have p2 := P0.2 2 _ rfl
    have B12 := bnew w1 (.cells #[.int .i64 x.trace, .int .i64 x.stamp, .bool x.keep] 59)
    have hX1 := Held.new w1 [.int .i64 x.trace, .int .i64 x.stamp, .bool x.keep] 59
    have HS2 : Hid ((w1.alloc (.cells #[.int .i64 x.trace, .int .i64 x.stamp, .bool x.keep] 59)).heap.size = w1.heap.size + 1) := hide (by simp)
    have B23 := bnew (w1.alloc (.cells #[.int .i64 x.trace, .int .i64 x.stamp, .bool x.keep] 59)) (.cells #[.slice a l.length cap, .slice (some ⟨w1.heap.size, 0, none⟩) 1 1] 57)
    have hX2 := Held.new (w1.alloc (.cells #[.int .i64 x.trace, .int .i64 x.stamp, .bool x.keep] 59)) [.slice a l.length cap, .slice (some ⟨w1.heap.size, 0, none⟩) 1 1] 57
    rw [unhide HS2] at hX2
    have HC := hide (implLaid2 l x S0 (.slice a l.length cap) (w1.heap.size + 1) w1.heap.size _ (((unhide HA).keep verdictR_keeps B12).keep verdictR_keeps B23) (hX2.2 0 _ rfl) (hX2.2 1 _ rfl) ((hX1.keep B23).inB) hX2.1 (hX1.keep B23).1 (by omega))
    have B13 := hide (bthen B12 B23)
    clear hm B12 B23 hX1 hX2 HS2
    go_wp2_with fail
    refine (unhide HC).mono ?_
    rintro e w4 ⟨v4, rfl, hv4, hb4⟩
    have B14 := hide (bthen (unhide B13) hb4)
    have hl4 : (l ++ [x]).length = l.length + 1 := by simp
    have HC5 := hide (implMemoryOf (l ++ [x]) _ v4 w4 (hv4.read verdictR_widens verdictO_read) (by omega))
    rw [List.map_append, List.map_cons, List.map_nil, hl4] at HC5
    clear hv4 hb4 B13 HC p0 p1 p2 hl4
    go_wp2_with fail
    refine (unhide HC5).mono ?_
    rintro e w5 ⟨bm, rfl, D5, hown5, htl5, hbm5, hb5⟩
    have B15 := hide ((unhide B14).trans (hb5.mono (unhide B14).size))
    have hbm : w1.heap.size ≤ bm := Nat.le_trans (unhide B14).size hbm5
    have H0 : Hid (RmO l x w5 bm (l.length + 1) 0) := hide ⟨D5, _, hown5, htl5, OffOk.start l x⟩
    clear hown5 htl5 hbm5 hb5 B14 HC5
    go_wp2
    go_loopw [28] (fun i wk => ∃ k : Nat, k ≤ l.length ∧ i = .int .i64 k ∧ Hid (RmO l x wk bm (l.length + 1) k) ∧ Below w1.heap.size w1 wk) (fun i _ => l.length - (intOf i).toNat)
    case atStart => exact ⟨0, Nat.zero_le _, rfl, H0, unhide B15⟩
    case round =>
      clear H0 B15
      obtain ⟨k, hk, rfl, hrm, hbl⟩ := hrel
      have hbs := hbl.size
      by_cases hlt : k < l.length
      · have hki : (k : Int) < (l.length : Int) := by omega
        obtain ⟨b, o, cs, rfl, hbk, hSb, hcs, hin⟩ := (unhide HA).at k hlt
        have hin := hin.turn hbk (Below.turn hbl) (fun e => e)
        obtain ⟨D, p, hown, htl, hoff⟩ := unhide hrm
        have hCut := hide (fun e => OffOk.cut hoff hlt e)
        have hSkip := hide (fun e => OffOk.skip hoff hlt e)
        generalize l[k] = X at *
        obtain rfl : cs = _ := hcs
        have c0 : wr.cell? ⟨b, o + k * 3, none⟩ = some (.int .i64 X.trace) := hin 0 _ rfl
        have c1 : wr.cell? ⟨b, o + k * 3 + 1, none⟩ = some (.int .i64 X.stamp) := hin 1 _ rfl
        have c2 : wr.cell? ⟨b, o + k * 3 + 2, none⟩ = some (.bool X.keep) := hin 2 _ rfl
        have hA1 := Held.new wr [.int .i64 X.trace, .int .i64 X.stamp, .bool X.keep] 59
        have hbA := bnew wr (.cells #[.int .i64 X.trace, .int .i64 X.stamp, .bool X.keep] 59)
        have hown1 := ownsMap_below hown hbA
        have bl1 := bthen hbl hbA
        have p0 := (P0.keep bl1).2 0 _ rfl
        have hmb := hown1.lt
        clear hin hown hrm hoff hbl hbA
        go_upto_region 7 with fail
        generalize World.alloc wr _ = wa at *
        clear c0 c1 c2
        have x0 := hA1.2 0 _ rfl
        clear hA1
        by_cases hE : X.trace = x.trace
        · have q : (X.trace == x.trace) = true := by simpa using hE
          have hoff2 := hide (unhide hCut hE)
          have hkey := keyN k (by omega)
          have HTL := hide (htl.drop k)
          have HB1 := hide bl1
          have hbm2 : w1.heap.size ≤ wa.heap.size := bl1.size
          clear hE hCut hSkip htl bl1
          go_wp2_with (first | (at_delete; refine wpList_delete_own _ rfl (.tmp 38) (.tmp 39) 160 3 rfl 59 (int_keyed Try.underlying3) Try.underlying160 rV bm (l.length + 1) D rfl hown1 _ _ rfl hkey ?_; intro wd hown2 hturn1))
          have bl2 := grown_below (unhide HB1) hturn1.grown (fun q e => by rw [Option.some.injEq] at e; omega) hbm2
          have HK := hide (show RmO l x wd bm (l.length + 1) (k + 1) from ⟨_, _, hown2, unhide HTL, unhide hoff2⟩)
          clear hown1 hown2 hturn1 p0 x0
          go_roundw
          case rel => exact ⟨k + 1, by omega, by go_num, HK, bl2⟩
          case measure => simp [intOf]; omega
        · have q : (X.trace == x.trace) = false := by simpa using hE
          have HK := hide (show RmO l x wa bm (l.length + 1) (k + 1) from ⟨_, _, hown1, htl, unhide hSkip hE⟩)
          clear hE hCut hSkip htl hown1
          go_wp2
          go_roundw
          case rel => exact ⟨k + 1, by omega, by go_num, HK, bl1⟩
          case measure => simp [intOf]; omega
      · have hki : ¬ (k : Int) < (l.length : Int) := by omega
        obtain rfl : k = l.length := by omega
        obtain ⟨D, p, hown, htl, hoff⟩ := unhide hrm
        have hp := hoff.fin
        subst hp
        have H0 : Hid (RmE l x most.toNat wr bm (l.length + 1) 0 0) := hide ⟨D, _, hown, htl, Ev.start _ _⟩
        have HB := hide hbl
        clear hown htl hoff hrm
        go_wp2
        go_loopw [11, 43] (fun g i wk => ∃ k : Nat, k ≤ l.length ∧ i = .int .i64 k ∧ ∃ c : Nat, g = .int .i64 (goneAt (remA l x) c) ∧ Hid (RmE l x most.toNat wk bm (l.length + 1) k c) ∧ Below w1.heap.size w1 wk) (fun _ i _ => l.length - (intOf i).toNat)
        case atStart => exact ⟨0, Nat.zero_le _, rfl, 0, rfl, H0, unhide HB⟩
        case round =>
          clear H0 HB hbl hbs
          obtain ⟨k, hk, rfl, c, rfl, hrm, hbl⟩ := hrel
          have hbs := hbl.size
          obtain ⟨D, p, hown, htl, hev⟩ := unhide hrm
          have hpl : p.length = l.length + 1 := by rw [hev.len]; simp
          have hG : Hid (somes (l.map (offB x) ++ [some x]) = remA l x) := hide (somes_off l x)
          by_cases hlt : k < l.length
          · have hki : (k : Int) < (l.length : Int) := by omega
            have hkp : k < p.length := by omega
            cases hGo : getO p k with
            | none =>
              have HK0 := hide (hev.skip hkp (.inl hGo))
              have hbA := bnew wr (.cells #[.int .i64 0, .int .i64 0, .bool false] 59)
              have HK := hide (show RmE l x most.toNat (wr.alloc (.cells #[.int .i64 0, .int .i64 0, .bool false] 59)) bm (l.length + 1) (k + 1) c from ⟨D, p, ownsMap_below hown hbA, htl, unhide HK0⟩)
              have bl1 := bthen hbl hbA
              have HTL := hide htl
              have HGo := hide hGo
              clear hev hGo htl hbA HK0 hrm
              obtain ⟨GN, hGN⟩ : ∃ g, g = goneAt (remA l x) c := ⟨_, rfl⟩
              rw [← hGN]
              have HG2 := hide hGN
              clear hGN
              go_wp2_with (first | (at_lookup; refine look_no _ rfl (.tmp 47) (.tmp 48) rfl bm (l.length + 1) D p k rfl hown (unhide HTL) rfl (by omega) (unhide HGo) ?_))
              go_roundw
              case rel => exact ⟨k + 1, by omega, by go_num, c, by rw [unhide HG2], HK, bl1⟩
              case measure => simp [intOf]; omega
            | some X =>
              have hA1 := Held.new wr [.int .i64 X.trace, .int .i64 X.stamp, .bool X.keep] 59
              have hbA := bnew wr (.cells #[.int .i64 X.trace, .int .i64 X.stamp, .bool X.keep] 59)
              have hown1 := ownsMap_below hown hbA
              have bl1 := bthen hbl hbA
              have HTL := hide htl
              have HGo := hide hGo
              have HEV := hide hev
              have hkey := keyN k (by omega)
              have hsz := htl.size
              clear hbl hbA hev htl hGo hrm
              obtain ⟨GN, hGN⟩ : ∃ g, g = goneAt (remA l x) c := ⟨_, rfl⟩
              rw [← hGN]
              have HG2 := hide hGN
              clear hGN
              go_upto_region 15 with (first | (at_lookup; refine look_yes _ rfl (.tmp 47) (.tmp 48) rfl bm (l.length + 1) D p k X rfl hown (unhide HTL) rfl (by omega) (unhide HGo) ?_))
              generalize World.alloc wr _ = wa at *
              clear hown
              have hlen := fun ty => hown1.len (t := 160) Try.underlying160 ty
              rw [hsz] at hlen
              have x0 := hA1.2 0 _ rfl
              have hbm2 : w1.heap.size ≤ wa.heap.size := bl1.size
              have HB1 := hide bl1
              clear hA1 hsz bl1
              by_cases hC : most.toNat < (somes p).length
              · have q : decide (most < ((somes p).length : Int)) = true := decide_eq_true (by have := (unhide HM).2; omega)
                have hcut := (unhide HEV).cut hkp (unhide HGo) hC
                rw [unhide hG] at hcut
                have HGS := hide (goneAt_succ hcut.1)
                have HEV2 := hide hcut.2
                have HTL2 := hide ((unhide HTL).drop k)
                clear hC hcut
                generalize (somes p).length = NS at *
                go_wp2_with (first | (at_delete; refine wpList_delete_own _ rfl (.tmp 61) (.tmp 62) 160 3 rfl 59 (int_keyed Try.underlying3) Try.underlying160 rV bm (l.length + 1) D rfl hown1 _ _ rfl hkey ?_; intro wd hown2 hturn1))
                have bl2 := grown_below (unhide HB1) hturn1.grown (fun q e => by rw [Option.some.injEq] at e; omega) hbm2
                have HK := hide (show RmE l x most.toNat wd bm (l.length + 1) (k + 1) (c + 1) from ⟨_, _, hown2, unhide HTL2, unhide HEV2⟩)
                clear hown1 hown2 hturn1 x0 hlen
                go_roundw
                case rel => exact ⟨k + 1, by omega, by go_num, c + 1, by rw [unhide HGS], HK, bl2⟩
                case measure => simp [intOf]; omega
              · have q : decide (most < ((somes p).length : Int)) = false := decide_eq_false (by have := (unhide HM).2; omega)
                have HK := hide (show RmE l x most.toNat wa bm (l.length + 1) (k + 1) c from ⟨D, p, hown1, unhide HTL, (unhide HEV).skip hkp (.inr hC)⟩)
                clear hC
                generalize (somes p).length = NS at *
                go_wp2
                clear hown1 x0 hlen
                go_roundw
                case rel => exact ⟨k + 1, by omega, by go_num, c, by rw [unhide HG2], HK, unhide HB1⟩
                case measure => simp [intOf]; omega
          · have hki : ¬ (k : Int) < (l.length : Int) := by omega
            obtain rfl : k = l.length := by omega
            have hfin : c = (remA l x).length - most.toNat := by
              have hev2 : Ev (l.map (offB x) ++ [some x]) most.toNat (l.map (offB x)).length p c := by rw [List.length_map]; exact hev
              have := hev2.fin (unhide HM).1
              rwa [unhide hG] at this
            have hsm : somes p = remL l x most := by rw [hev.some, unhide hG, (unhide HR).1, hfin]
            have HGN : Hid (goneAt (remA l x) c = remG l x most) := hide (by rw [(unhide HR).2, hfin])
            have HC6 := hide (implMemList bm (l.length + 1) p D wr hown htl (by omega))
            rw [hsm, hpl, Int.natCast_add] at HC6
            have HB := hide hbl
            clear hev hsm hfin hown htl hrm hbl hpl
            generalize goneAt (remA l x) c = GN at *
            go_wp2_with fail
            refine (unhide HC6).mono ?_
            rintro e w7 ⟨v7, rfl, hv7, hb7⟩
            have HB7 := hide (bthen (bthen B01 ((unhide HB).mono (Nat.le_refl _))) hb7)
            have HV := hide (hv7.widens (fun k hk => (⟨by have := hk.1; have := (bthen B01 (unhide HB)).size; omega, hk.2⟩ : Within w.heap.size w7.heap.size k)))
            clear hv7 hb7 HC6
            go_wp2
            refine bodyPost_ret (v := .tuple #[v7, .int .i64 GN]) (by simp [results, Try.results35, go_sem]) rfl ⟨v7, ?_, unhide HV, unhide HB7⟩
            rw [unhide HGN]
end Go.Proofs.Ytjhlammjnggghaa
