/-
  DueBy of the specification.
-/
import Derived.Test.YtanpmbjjppfkeaaIns1
import Derived.Test.YtanpmbjjppfkeaaTim1
import Derived.Test.YtanpmbjjppfkeaaTInt
import Derived.Deep.CutRange
namespace Go.Proofs.Ytanpmbjjppfkeaa
open Go.ChangeShapes Go.WideShapes Go.ChangeAt Go.RowKit Go.Sort
set_option linter.unusedVariables false
set_option maxRecDepth 100000

def dueB (a : Int) (t : TimerD) : Bool := decide (t.due ≤ a)
def dueI (l : List TimerD) (a : Int) : List Int := (l.filter (dueB a)).map TimerD.id
def dueZ (l : List TimerD) (a : Int) : List Int := sortZ (dueI l a)
theorem dueI_yes {l : List TimerD} {a : Int} {k : Nat} (h : k < l.length) (e : l[k].due ≤ a) : dueI (l.take (k + 1)) a = dueI (l.take k) a ++ [l[k].id] := by
  unfold dueI
  rw [List.take_succ_eq_append_getElem h, List.filter_append, List.map_append]
  simp [dueB, e]
theorem dueI_no {l : List TimerD} {a : Int} {k : Nat} (h : k < l.length) (e : ¬ l[k].due ≤ a) : dueI (l.take (k + 1)) a = dueI (l.take k) a := by
  unfold dueI
  rw [List.take_succ_eq_append_getElem h, List.filter_append, List.map_append]
  simp [dueB, e]
theorem dueI_len (l : List TimerD) (a : Int) (k : Nat) : (dueI (l.take k) a).length ≤ k := by
  unfold dueI
  rw [List.length_map]
  have := List.length_filter_le (dueB a) (l.take k)
  rw [List.length_take] at this
  omega
theorem dueZ_len (l : List TimerD) (a : Int) : (dueZ l a).length ≤ l.length := by
  have := dueI_len l a l.length
  rw [List.take_length] at this
  unfold dueZ
  rw [(sortZ_srt _).len]
  exact this
def SpDue (L : List TimerD) (a : Int) (w wk : World) (k : Nat) (o : Value) (zs : List Int) : Prop := Srt (dueI (L.take k) a) zs ∧ wk.ownsRow w.heap.size 3 1 o zs.length (cellsI2 zs) ∧ Below w.heap.size w wk
theorem SpDue.grown {L : List TimerD} {a : Int} {w wk : World} {k : Nat} {o : Value} {zs : List Int} (h : SpDue L a w wk k o zs) (n : Nat) (os : Array Obj) : SpDue L a w (grow (wk.drewN n) os) k o zs := ⟨h.1, zowns h.2.1 n os, zgrown h.2.2 h.2.2.size n os⟩
theorem SpDue.keep {L : List TimerD} {a : Int} {w wk w2 : World} {k : Nat} {o : Value} {zs : List Int} (h : SpDue L a w wk k o zs) (hb : Below wk.heap.size wk w2) : SpDue L a w w2 k o zs := ⟨h.1, owns_below h.2.1 hb, bthen h.2.2 hb⟩
def At0 (w wk : World) (L : List TimerD) (v : Value) : Prop := LAt 3 timerR wk All1 v L
theorem timer_cells {wk : World} {L : List TimerD} {a : Option Addr} {n c k : Nat} (h : LAt 3 timerR wk All1 (.slice a n c) L) (hk : k < L.length) : ∃ b o, a = some ⟨b, o, none⟩ ∧ b < wk.heap.size ∧ wk.cell? ⟨b, o + k * 3, none⟩ = some (.int .i64 L[k].id) ∧ wk.cell? ⟨b, o + k * 3 + 2, none⟩ = some (.int .i64 L[k].due) := by
  obtain ⟨b, o, cs, h1, hbk, hSb, hcs, hin⟩ := h.at k hk
  obtain rfl : cs = _ := hcs
  exact ⟨b, o, h1, hbk, hin 0 _ rfl, hin 2 _ rfl⟩
set_option maxHeartbeats 4000000 in
theorem specDueBy (x : WheelD) (at_ : Int) (S : Nat → Prop) (cs : List Value) (w : World) (h0 : wheelR w S cs x) (b0 : wheelBulk x ≤ 1048576) :
    Calls Try.prog 11 #[.agg cs.toArray, .int .i64 at_] w fun e w' => ∃ v', e = .returned v' ∧ LOw 1 intO w' (Within w.heap.size w'.heap.size) v' (dueZ (allT x) at_) ∧ Below w.heap.size w w' := by
  have hall := allT_len x b0
  have B0 := bnew w (.cells cs.toArray 32)
  have P0 := Held.new w cs 32
  have hrw : RowT Try.prog 32 cs.length := by rw [wheelR_len h0]; exact rowIWheel
  have h1 := wheelR_keeps _ _ _ None1 _ _ (Below.turn B0) none_off h0
  clear h0
  go_enter Try.func11, Try.ntmps11
  go_upto_region 1 with fail
  generalize World.alloc w _ = w0 at *
  have hb1 := bnew w0 (.cells #[] 3)
  have how0 := World.ownsRow_made (base := w0.heap.size) (e := 3) (size := 1) w0 #[] 0 (Nat.le_refl _) (by unfold maxLen; omega) rfl
  have H0 := hide (And.intro how0 hb1)
  have h2 := wheelR_keeps _ _ _ None1 _ _ (Below.turn hb1) none_off h1
  have P1 := (P0.keep hb1).inB
  clear how0 P0 h1 hb1
  go_wp2_with (first | (refine wpl_load rfl 32 _ rfl _ 0 rfl cs P1 hrw ?_))
  refine (specTimers x S cs _ h2 b0).mono ?_
  rintro e w1 ⟨v1, rfl, y1, hbT⟩
  obtain ⟨a1, k1, rfl⟩ := y1.form
  have HA0 := hide ((y1.read timerR_widens timerO_read).widens timerR_widens (T := All1) (fun _ _ => trivial))
  have hst : Hid (SpDue (allT x) at_ w0 w1 0 (.slice (some ⟨w0.heap.size, 0, none⟩) 0 0) []) := by
    obtain ⟨how0, hb1⟩ := unhide H0
    exact hide ⟨by simpa [dueI] using Srt.start, by simpa [cellsI2] using owns_below how0 hbT, bthen hb1 hbT⟩
  have hbw : w.heap.size ≤ w0.heap.size := B0.size
  clear y1 hbT P1 h2 H0 hrw
  have hcn := dueZ_len (allT x) at_
  have HCN := hide hcn
  clear hcn
  generalize hL : allT x = L at *
  have HL := hide hL
  clear hL
  go_wp2
  go_loopw [5, 7] (fun o i wk => ∃ (k g cap : Nat) (zs : List Int), k ≤ L.length ∧ i = .int .i64 k ∧ o = .slice (some ⟨g, 0, none⟩) zs.length cap ∧ Hid (SpDue L at_ w0 wk k (.slice (some ⟨g, 0, none⟩) zs.length cap) zs) ∧ Hid (LAt 3 timerR wk All1 (.slice a1 L.length k1) L)) (fun _ i _ => L.length - (intOf i).toNat)
  case atStart => exact ⟨0, w0.heap.size, 0, [], Nat.zero_le _, rfl, rfl, hst, HA0⟩
  case round =>
    obtain ⟨k, g, cap, zs, hk, rfl, rfl, hsp, hla⟩ := hrel
    clear hst HA0
    by_cases hlt : k < L.length
    · have hki : (k : Int) < (L.length : Int) := by omega
      obtain ⟨b, o, rfl, hbk, p0, p2⟩ := timer_cells (unhide hla) hlt
      by_cases e1 : L[k].due ≤ at_
      case neg =>
        have HD := hide (dueI_no hlt e1)
        have q1 : at_ < L[k].due := by omega
        generalize L[k] = X at *
        have HS := hide (show SpDue L at_ w0 wr (k + 1) (.slice (some ⟨g, 0, none⟩) zs.length cap) zs from ⟨by rw [unhide HD]; exact (unhide hsp).1, (unhide hsp).2⟩)
        clear e1 hsp
        go_wp2
        go_roundw
        case rel => exact ⟨k + 1, g, cap, zs, by omega, by go_num, rfl, HS, hla⟩
        case measure => simp [intOf]; omega
      have HD := hide (dueI_yes hlt e1)
      have q1 : ¬ at_ < L[k].due := by omega
      have hzl : zs.length ≤ k := by rw [(unhide hsp).1.len]; exact dueI_len L at_ k
      generalize hXX : L[k] = X at *
      have HXX := hide hXX
      have hgr0 : Hid (GreaterZ zs X.id zs.length) := hide (fun i hi h => by omega)
      clear e1 hXX p0
      go_wp2
      go_loopw [8] (fun s wx => ∃ j : Nat, j ≤ zs.length ∧ s = .int .i64 j ∧ Hid (GreaterZ zs X.id j) ∧ Hid (SpDue L at_ w0 wx k (.slice (some ⟨g, 0, none⟩) zs.length cap) zs) ∧ Hid (LAt 3 timerR wx All1 (.slice (some ⟨b, o, none⟩) L.length k1) L)) (fun s _ => (intOf s).toNat)
      case atStart => exact ⟨zs.length, Nat.le_refl _, rfl, hgr0, hsp, hla⟩
      case round =>
        obtain ⟨j, hj, rfl, hgr, hsx, hlx⟩ := hrel
        clear hsp hgr0 p2 hla hbk
        have hrx := (unhide hsx).2.1
        obtain ⟨hnc, hcm, hgl⟩ := zcap hrx
        obtain ⟨b', o', hbe, hbk', p0, p2⟩ := timer_cells (unhide hlx) hlt
        rw [Option.some.injEq, Addr.mk.injEq] at hbe
        obtain ⟨rfl, rfl, _⟩ := hbe
        rw [unhide HXX] at p0
        have p0' := cell_grown (a := ⟨b, o + k * 3, none⟩) hbk' p0
        have hx1 : (0 : Int) ≤ (k : Int) := by omega
        have hx2 : ((k : Int)).toNat = k := by omega
        clear p0 p2
        have exitH : Hid ((∀ (hi : j - 1 < zs.length), j = 0 ∨ zs[j - 1] ≤ X.id) → Srt (dueI (L.take (k + 1)) at_) (zs.take j ++ X.id :: zs.drop j)) := hide (fun hi => by rw [unhide HD]; exact (unhide hsx).1.put hj (unhide hgr) hi)
        by_cases hj0 : 0 < j
        · obtain ⟨jp, rfl⟩ : ∃ q, j = q + 1 := ⟨j - 1, by omega⟩
          have hjp : jp < zs.length := by omega
          have zj : decide (((jp + 1 : Nat) : Int) > 0) = true := decide_eq_true (by omega)
          have zj' : decide ((jp : Int) + 1 > 0) = true := decide_eq_true (by omega)
          have zj2 : (0 : Int) < (jp : Int) + 1 := by omega
          have cz := cell_grown (a := ⟨g, jp, none⟩) hgl (zcellZ hrx jp hjp)
          have HGJ : Hid (X.id < zs[jp] → GreaterZ zs X.id jp) := hide (fun h i hi hle => by
            by_cases e : i = jp
            · subst e; exact h
            · exact unhide hgr i hi (by omega))
          have HLJ : Hid (¬ X.id < zs[jp] → ∀ (hi : jp + 1 - 1 < zs.length), jp + 1 = 0 ∨ zs[jp + 1 - 1] ≤ X.id) := hide (fun h hi => Or.inr (by simpa using h))
          generalize zs[jp] = Z at *
          have f1 : (0 : Int) ≤ (jp : Int) := by omega
          have f0 : IntKind.i64.wrap (jp : Int) = (jp : Int) := by rw [IntKind.wrap_i64]; omega
          have f2 : (jp : Int) < (zs.length : Int) := by omega
          have f3 : ((jp : Int)).toNat = jp := by omega
          have mixed : Try.prog.follows .mixedOrders = true := by kernel_rfl
          have HJ := hide hj
          clear hgr hjp hj0 hj
          go_wp2_with fail
          by_cases hYZ : X.id < Z
          · have zz : decide (Z > X.id) = true := decide_eq_true hYZ
            have zz' : decide (X.id < Z) = true := decide_eq_true hYZ
            go_quiet_grown (fail)
            have HS := hide ((unhide hsx).grown nq osq)
            have HL2 := hide ((unhide hlx).keep timerR_keeps (zgrown (Below.refl _ _) (Nat.le_refl _) nq osq))
            generalize grow (wr.drewN nq) osq = w2 at *
            have HG := hide (unhide HGJ hYZ)
            clear hsx exitH HGJ HLJ hrx cz p0' hYZ zz zz' hlx
            go_wp2
            go_roundw
            case rel => exact ⟨jp, by omega, rfl, HG, HS, HL2⟩
            case measure => simp [intOf]
          · have zz : decide (Z > X.id) = false := decide_eq_false hYZ
            have zz' : decide (X.id < Z) = false := decide_eq_false hYZ
            go_quiet_grown (fail)
            have HS := hide ((unhide hsx).grown nq osq)
            have HL2 := hide ((unhide hlx).keep timerR_keeps (zgrown (Below.refl _ _) (Nat.le_refl _) nq osq))
            have p9 := p0' nq osq
            have hbk2 : b < (grow (wr.drewN nq) osq).heap.size := by have := (zgrown (Below.refl wr.heap.size wr) (Nat.le_refl _) nq osq).size; omega
            generalize grow (wr.drewN nq) osq = w2 at *
            have HP := hide (unhide exitH (unhide HLJ (by omega)))
            clear hsx exitH HGJ HLJ hrx cz p0' hYZ zz zz' hlx
            have hj : jp + 1 ≤ zs.length := unhide HJ
            have hrow := (unhide HS).2.1
            obtain ⟨hnc2, hcm2, hgl2'⟩ := zcap hrow
            have hgl := hgl2'
            obtain ⟨HP1, _, HP3, HP4⟩ := row_parts (k := (jp + 1)) hrow hj
            obtain ⟨ad0, nd0, cd0, had0, hnd0, hcd0⟩ : ∃ (ad : Addr) (n0 c0 : Nat), ad = (if cap = (jp + 1) then (⟨g, 0, none⟩ : Addr) else ⟨g, (jp + 1) * 1, none⟩) ∧ n0 = zs.length - (jp + 1) ∧ c0 = cap - (jp + 1) := ⟨_, _, _, rfl, rfl, rfl⟩
            have HP2 := row_parts2 (k := (jp + 1)) hrow hj (by omega)
            rw [← had0] at HP2
            rw [← hnd0] at HP4
            have hgl2 : ad0.block < w2.heap.size := by rw [had0]; split <;> exact hgl
            have HA0D := hide had0
            have HN0D := hide hnd0
            have HC0D := hide hcd0
            have hnd1 : (jp + 1) + nd0 = zs.length := by omega
            have HND := hide hnd1
            have hnd2 : nd0 ≤ zs.length := by omega
            clear had0 hnd0 hcd0 hnd1
            have hle2 : w0.heap.size ≤ w2.heap.size := (unhide HS).2.2.size
            go_wp2_with fail
            refine wp_region_held_drew (S := fun w' => Below w2.heap.size w2 w') (by kernel_rfl) (Below.drew (Below.refl _ _)) (fun hHeld => ?_)
            refine wpAnyH_take (i := 1) (oi := ?oo42) (v := ?vv42) ?hi42 (by kernel_rfl) (by kernel_rfl) (by kernel_rfl) ?hQ42 ?hy42 (by assumption) ?rest42
            case hi42 => (simp only [List.getElem?_toArray, List.getElem?_cons_zero, List.getElem?_cons_succ]; rfl)
            case hQ42 => exact fun _ _ _ h => h
            case hy42 => exact Or.inl ⟨by rfl, by intro wS hSw; (try dsimp only at hSw); go_simp; try first | (with_reducible rfl) | (simp only [*]; done) | omega⟩
            try simp only [Act.put, List.setIfInBounds_toArray, List.set_cons_zero, List.set_cons_succ]
            refine wpAnyH_take (i := 2) (oi := ?oo43) (v := ?vv43) ?hi43 (by kernel_rfl) (by kernel_rfl) (by kernel_rfl) ?hQ43 ?hy43 (by assumption) ?rest43
            case hi43 => (simp only [List.getElem?_toArray, List.getElem?_cons_zero, List.getElem?_cons_succ]; rfl)
            case hQ43 => exact fun _ _ _ h => h
            case hy43 => exact Or.inl ⟨by rfl, by intro wS hSw; (try dsimp only at hSw); go_simp; try first | (with_reducible rfl) | (simp only [*]; done) | omega⟩
            try simp only [Act.put, List.setIfInBounds_toArray, List.set_cons_zero, List.set_cons_succ]
            refine wpAnyH_take (i := 3) (oi := ?oo44) (v := ?vv44) ?hi44 (by kernel_rfl) (by kernel_rfl) (by kernel_rfl) ?hQ44 ?hy44 (by assumption) ?rest44
            case hi44 => (simp only [List.getElem?_toArray, List.getElem?_cons_zero, List.getElem?_cons_succ]; rfl)
            case hQ44 => exact fun _ _ _ h => h
            case hy44 => exact Or.inl ⟨by rfl, by intro wS hSw; (try dsimp only at hSw); go_simp; (try rw [if_pos (by omega)]); (try rw [if_pos (by omega)]); (try rfl)⟩
            try simp only [Act.put, List.setIfInBounds_toArray, List.set_cons_zero, List.set_cons_succ]
            refine wpAnyH_take (i := 5) (oi := ?oo45) (v := ?vv45) ?hi45 (by kernel_rfl) (by kernel_rfl) (by kernel_rfl) ?hQ45 ?hy45 (by assumption) ?rest45
            case hi45 => (simp only [List.getElem?_toArray, List.getElem?_cons_zero, List.getElem?_cons_succ]; rfl)
            case hQ45 => exact fun _ _ _ h => h
            case hy45 => exact Or.inl ⟨by rfl, by intro wS hSw; (try dsimp only at hSw); go_simp; try first | (with_reducible rfl) | (simp only [*]; done) | omega⟩
            try simp only [Act.put, List.setIfInBounds_toArray, List.set_cons_zero, List.set_cons_succ]
            refine wpAnyH_take (i := 6) (oi := ?oo46) (v := ?vv46) ?hi46 (by kernel_rfl) (by kernel_rfl) (by kernel_rfl) ?hQ46 ?hy46 (by assumption) ?rest46
            case hi46 => (simp only [List.getElem?_toArray, List.getElem?_cons_zero, List.getElem?_cons_succ]; rfl)
            case hQ46 => exact fun _ _ _ h => h
            case hy46 => exact Or.inl ⟨by rfl, by intro wS hSw; (try dsimp only at hSw); go_simp; try first | (with_reducible rfl) | (simp only [*]; done) | omega⟩
            try simp only [Act.put, List.setIfInBounds_toArray, List.set_cons_zero, List.set_cons_succ]
            refine wpAnyH_take (i := 7) (oi := ?oo47) (v := ?vv47) ?hi47 (by kernel_rfl) (by kernel_rfl) (by kernel_rfl) ?hQ47 ?hy47 (by assumption) ?rest47
            case hi47 => (simp only [List.getElem?_toArray, List.getElem?_cons_zero, List.getElem?_cons_succ]; rfl)
            case hQ47 => exact fun _ _ _ h => h
            case hy47 => exact Or.inl ⟨by rfl, by intro wS hSw; (try dsimp only at hSw); go_simp; try first | (with_reducible rfl) | (simp only [*]; done) | omega⟩
            try simp only [Act.put, List.setIfInBounds_toArray, List.set_cons_zero, List.set_cons_succ]
            refine wpAnyH_take (i := 8) (oi := ?oo48) (v := ?vv48) ?hi48 (by kernel_rfl) (by kernel_rfl) (by kernel_rfl) ?hQ48 ?hy48 (by assumption) ?rest48
            case hi48 => (simp only [List.getElem?_toArray, List.getElem?_cons_zero, List.getElem?_cons_succ]; rfl)
            case hQ48 => exact fun _ _ _ h => h
            case hy48 => exact Or.inl ⟨by rfl, by intro wS hSw; (try dsimp only at hSw); go_simp; try first | (with_reducible rfl) | (simp only [*]; done) | omega⟩
            try simp only [Act.put, List.setIfInBounds_toArray, List.set_cons_zero, List.set_cons_succ]
            refine wpAnyH_take (i := 9) (oi := ?oo49) (v := .int .i64 X.id) ?hi49 (by kernel_rfl) (by kernel_rfl) (by kernel_rfl) ?hQ49 ?hy49 (by assumption) ?rest49
            case hi49 => (simp only [List.getElem?_toArray, List.getElem?_cons_zero, List.getElem?_cons_succ]; rfl)
            case hQ49 => exact fun _ _ _ h => h
            case hy49 => exact yld_cell (by rfl) _ _ rfl _ _ rfl _ (fun w' hS => by rw [hS.cell (p := ⟨b, o + k * 3, none⟩) hbk2]; exact p9) plainInt
            try simp only [Act.put, List.setIfInBounds_toArray, List.set_cons_zero, List.set_cons_succ]
            refine wpAnyH_take (i := 12) (oi := ?oo50) (v := ?vv50) ?hi50 (by kernel_rfl) (by kernel_rfl) (by kernel_rfl) ?hQ50 ?hy50 (by assumption) ?rest50
            case hi50 => (simp only [List.getElem?_toArray, List.getElem?_cons_zero, List.getElem?_cons_succ]; rfl)
            case hQ50 => exact fun _ _ _ h => h
            case hy50 => exact Or.inl ⟨by rfl, by intro wS hSw; (try dsimp only at hSw); go_simp; try first | (with_reducible rfl) | (simp only [*]; done) | omega⟩
            try simp only [Act.put, List.setIfInBounds_toArray, List.set_cons_zero, List.set_cons_succ]
            refine wpAnyH_take (i := 13) (oi := ?oo51) (v := ?vv51) ?hi51 (by kernel_rfl) (by kernel_rfl) (by kernel_rfl) ?hQ51 ?hy51 (by assumption) ?rest51
            case hi51 => (simp only [List.getElem?_toArray, List.getElem?_cons_zero, List.getElem?_cons_succ]; rfl)
            case hQ51 => exact fun _ _ _ h => h
            case hy51 => exact Or.inl ⟨by rfl, by intro wS hSw; (try dsimp only at hSw); go_simp; try first | (with_reducible rfl) | (simp only [*]; done) | omega⟩
            try simp only [Act.put, List.setIfInBounds_toArray, List.set_cons_zero, List.set_cons_succ]
            refine wpAnyH_take (i := 14) (oi := ?oo52) (v := .slice (some ad0) nd0 cd0) ?hi52 (by kernel_rfl) (by kernel_rfl) (by kernel_rfl) ?hQ52 ?hy52 (by assumption) ?rest52
            case hi52 => (simp only [List.getElem?_toArray, List.getElem?_cons_zero, List.getElem?_cons_succ]; rfl)
            case hQ52 => exact fun _ _ _ h => h
            case hy52 => exact Or.inl ⟨by rfl, by intro wS hSw; (try dsimp only at hSw); go_simp; (try rw [if_pos (by omega)]); (try rw [if_pos (by omega)]); (rw [unhide HA0D, unhide HN0D, unhide HC0D]); (split <;> simp_all)⟩
            try simp only [Act.put, List.setIfInBounds_toArray, List.set_cons_zero, List.set_cons_succ]
            refine wpAnyH_ready (rs := [0, 10]) (by kernel_rfl) (by simp) ?_
            refine (AllReadyH.cons (o := ?bo53n0) ?bh53n0 (fun K hK => ?br53n0) (AllReadyH.cons (o := ?bo53n10) ?bh53n10 (fun K hK => ?br53n10) AllReadyH.nil))
            case bh53n0 => (simp only [List.getElem?_toArray, List.getElem?_cons_zero]; rfl)
            case bh53n10 => (simp only [List.getElem?_toArray, List.getElem?_cons_zero, List.getElem?_cons_succ]; rfl)
            case br53n0 =>
              go_simp
              have HA := InA.start (t := 3) (N := 1) hHeld
              refine hK.out _ _ (HA.bel) (fun hHeld => ?_)
              clear hK
              refine wpAnyH_ready (rs := [4, 10]) (by kernel_rfl) (by simp) ?_
              refine (AllReadyH.cons (o := ?bo54n4) ?bh54n4 (fun K hK => ?br54n4) (AllReadyH.cons (o := ?bo54n10) ?bh54n10 (fun K hK => ?br54n10) AllReadyH.nil))
              case bh54n4 => (simp only [List.getElem?_toArray, List.getElem?_cons_zero, List.getElem?_cons_succ]; rfl)
              case bh54n10 => (simp only [List.getElem?_toArray, List.getElem?_cons_zero, List.getElem?_cons_succ]; rfl)
              case br54n4 =>
                refine step_append2 (by rfl) (.tmp 44) (.tmp 47) 27 (by rfl) w2.heap.size 3 _ 1 8 Try.underlying27 infoI2 rfl (by decide) _ 0 _ (by rfl) HA.row ⟨g, 0, none⟩ ((jp + 1)) _ ((cellsI2 zs).take ((jp + 1) * 1)) (by rfl) HP3 (news_old HA.bel hgl HP1) (fun u hu => zone _ u (List.mem_of_mem_take hu)) (by unfold maxLen; omega) (by omega) HA.le ?_
                intro v' w' how hg hv
                have HA := HA.app how hg
                clear how hg hv
                refine hK.out _ _ (HA.bel) (fun hHeld => ?_)
                clear hK
                refine wpAnyH_ready (rs := [10]) (by kernel_rfl) (by simp) ?_
                refine (AllReadyH.cons (o := ?bo55n10) ?bh55n10 (fun K hK => ?br55n10) AllReadyH.nil)
                case bh55n10 => (simp only [List.getElem?_toArray, List.getElem?_cons_zero, List.getElem?_cons_succ]; rfl)
                case br55n10 =>
                  go_simp
                  have HN := HA.apart
                  have HA := HA.alloc (.cells #[.int .i64 X.id] 3)
                  have HX := InX.start hHeld #[.int .i64 X.id] 3
                  refine hK.out _ _ (HX.bel) (fun hHeld => ?_)
                  clear hK
                  refine wpAnyH_ready (rs := [11]) (by kernel_rfl) (by simp) ?_
                  refine (AllReadyH.cons (o := ?bo56n11) ?bh56n11 (fun K hK => ?br56n11) AllReadyH.nil)
                  case bh56n11 => (simp only [List.getElem?_toArray, List.getElem?_cons_zero, List.getElem?_cons_succ]; rfl)
                  case br56n11 =>
                    refine step_append2 (by rfl) (.tmp 48) (.tmp 54) 27 (by rfl) w2.heap.size 3 _ 1 8 Try.underlying27 infoI2 rfl (by decide) _ (0 + (jp + 1)) _ (by rfl) HA.row ⟨_, 0, none⟩ 1 1 [.int .i64 X.id] (by rfl) rfl HX.cell (by intro u hu; simp at hu; subst hu; rfl) (by unfold maxLen; omega) (by omega) HA.le ?_
                    intro v' w' how hg hv
                    have HA := HA.app how hg
                    clear how hg hv
                    refine hK.out _ _ (HA.bel) (fun hHeld => ?_)
                    clear hK
                    refine wpAnyH_ready (rs := [15]) (by kernel_rfl) (by simp) ?_
                    refine (AllReadyH.cons (o := ?bo57n15) ?bh57n15 (fun K hK => ?br57n15) AllReadyH.nil)
                    case bh57n15 => (simp only [List.getElem?_toArray, List.getElem?_cons_zero, List.getElem?_cons_succ]; rfl)
                    case br57n15 =>
                      refine step_append2 (by rfl) (.tmp 55) (.tmp 58) 27 (by rfl) w2.heap.size 3 _ 1 8 Try.underlying27 infoI2 rfl (by decide) _ (0 + (jp + 1) + 1) _ (by rfl) HA.row ad0 nd0 cd0 ((cellsI2 zs).drop ((jp + 1) * 1)) (by rfl) HP4 (news_old HA.bel hgl2 HP2) (fun u hu => zone _ u (List.mem_of_mem_drop hu)) (by unfold maxLen; omega) (by omega) HA.le ?_
                      intro v' w' how hg hv
                      have HA := HA.app how hg
                      clear how hg hv
                      refine hK.out _ _ (HA.bel) (fun hHeld => ?_)
                      clear hK
                      refine wpAnyH_take (i := 16) (oi := ?oo58) (v := ?vv58) ?hi58 (by kernel_rfl) (by kernel_rfl) (by kernel_rfl) ?hQ58 ?hy58 (by assumption) ?rest58
                      case hi58 => (simp only [List.getElem?_toArray, List.getElem?_cons_zero, List.getElem?_cons_succ]; rfl)
                      case hQ58 => exact fun _ _ _ h => h
                      case hy58 => exact Or.inl ⟨by rfl, by intro wS hSw; (try dsimp only at hSw); go_simp; try first | (with_reducible rfl) | (simp only [*]; done) | omega⟩
                      try simp only [Act.put, List.setIfInBounds_toArray, List.set_cons_zero, List.set_cons_succ]
                      refine wpAnyH_done (by kernel_rfl) ?_ _
                      obtain ⟨gN, cN, rfl⟩ := zform HA.row (by omega)
                      obtain ⟨hnn, hrw2, hbl2⟩ := zstep (w0 := w0) hle2 HA
                      have HNN := hide hnn
                      have HSP := hide (show SpDue L at_ w0 _ (k + 1) (.slice (some ⟨gN, 0, none⟩) (zs.take (jp + 1) ++ X.id :: zs.drop (jp + 1)).length cN) (zs.take (jp + 1) ++ X.id :: zs.drop (jp + 1)) from ⟨unhide HP, hrw2, bthen (unhide HS).2.2 hbl2⟩)
                      have HL3 := hide ((unhide HL2).keep timerR_keeps hbl2)
                      clear HA hnn hrw2 hbl2
                      go_wp2
                      go_roundw
                      case rel => exact ⟨k + 1, gN, cN, zs.take (jp + 1) ++ X.id :: zs.drop (jp + 1), by omega, by go_num, by rw [unhide HNN], HSP, HL3⟩
                      case measure => simp [intOf]; omega
              case br54n10 =>
                go_simp
                have hsz1 := size_of_held (B := w2.heap.size + 1) hHeld (by first | (simp; done) | rfl)
                have HN := HA.apart2 (unhide hsz1)
                have HA := HA.alloc (.cells #[.int .i64 X.id] 3)
                have HX := InX.start2 hHeld (unhide hsz1) #[.int .i64 X.id] 3
                refine hK.out _ _ (HX.bel) (fun hHeld => ?_)
                clear hK
                refine wpAnyH_ready (rs := [4]) (by kernel_rfl) (by simp) ?_
                refine (AllReadyH.cons (o := ?bo59n4) ?bh59n4 (fun K hK => ?br59n4) AllReadyH.nil)
                case bh59n4 => (simp only [List.getElem?_toArray, List.getElem?_cons_zero, List.getElem?_cons_succ]; rfl)
                case br59n4 =>
                  refine step_append2 (by rfl) (.tmp 44) (.tmp 47) 27 (by rfl) w2.heap.size 3 _ 1 8 Try.underlying27 infoI2 rfl (by decide) _ 0 _ (by rfl) HA.row ⟨g, 0, none⟩ ((jp + 1)) _ ((cellsI2 zs).take ((jp + 1) * 1)) (by rfl) HP3 (news_old HA.bel hgl HP1) (fun u hu => zone _ u (List.mem_of_mem_take hu)) (by unfold maxLen; omega) (by omega) HA.le ?_
                  intro v' w' how hg hv
                  have HN2 := ne_app HX HN hv
                  have HX := HX.app HA HN hg
                  have HN := HN2
                  have HA := HA.app how hg
                  clear how hg hv
                  refine hK.out _ _ (HA.bel) (fun hHeld => ?_)
                  clear hK
                  refine wpAnyH_ready (rs := [11]) (by kernel_rfl) (by simp) ?_
                  refine (AllReadyH.cons (o := ?bo60n11) ?bh60n11 (fun K hK => ?br60n11) AllReadyH.nil)
                  case bh60n11 => (simp only [List.getElem?_toArray, List.getElem?_cons_zero, List.getElem?_cons_succ]; rfl)
                  case br60n11 =>
                    refine step_append2 (by rfl) (.tmp 48) (.tmp 54) 27 (by rfl) w2.heap.size 3 _ 1 8 Try.underlying27 infoI2 rfl (by decide) _ (0 + (jp + 1)) _ (by rfl) HA.row ⟨_, 0, none⟩ 1 1 [.int .i64 X.id] (by rfl) rfl HX.cell (by intro u hu; simp at hu; subst hu; rfl) (by unfold maxLen; omega) (by omega) HA.le ?_
                    intro v' w' how hg hv
                    have HA := HA.app how hg
                    clear how hg hv
                    refine hK.out _ _ (HA.bel) (fun hHeld => ?_)
                    clear hK
                    refine wpAnyH_ready (rs := [15]) (by kernel_rfl) (by simp) ?_
                    refine (AllReadyH.cons (o := ?bo61n15) ?bh61n15 (fun K hK => ?br61n15) AllReadyH.nil)
                    case bh61n15 => (simp only [List.getElem?_toArray, List.getElem?_cons_zero, List.getElem?_cons_succ]; rfl)
                    case br61n15 =>
                      refine step_append2 (by rfl) (.tmp 55) (.tmp 58) 27 (by rfl) w2.heap.size 3 _ 1 8 Try.underlying27 infoI2 rfl (by decide) _ (0 + (jp + 1) + 1) _ (by rfl) HA.row ad0 nd0 cd0 ((cellsI2 zs).drop ((jp + 1) * 1)) (by rfl) HP4 (news_old HA.bel hgl2 HP2) (fun u hu => zone _ u (List.mem_of_mem_drop hu)) (by unfold maxLen; omega) (by omega) HA.le ?_
                      intro v' w' how hg hv
                      have HA := HA.app how hg
                      clear how hg hv
                      refine hK.out _ _ (HA.bel) (fun hHeld => ?_)
                      clear hK
                      refine wpAnyH_take (i := 16) (oi := ?oo62) (v := ?vv62) ?hi62 (by kernel_rfl) (by kernel_rfl) (by kernel_rfl) ?hQ62 ?hy62 (by assumption) ?rest62
                      case hi62 => (simp only [List.getElem?_toArray, List.getElem?_cons_zero, List.getElem?_cons_succ]; rfl)
                      case hQ62 => exact fun _ _ _ h => h
                      case hy62 => exact Or.inl ⟨by rfl, by intro wS hSw; (try dsimp only at hSw); go_simp; try first | (with_reducible rfl) | (simp only [*]; done) | omega⟩
                      try simp only [Act.put, List.setIfInBounds_toArray, List.set_cons_zero, List.set_cons_succ]
                      refine wpAnyH_done (by kernel_rfl) ?_ _
                      obtain ⟨gN, cN, rfl⟩ := zform HA.row (by omega)
                      obtain ⟨hnn, hrw2, hbl2⟩ := zstep (w0 := w0) hle2 HA
                      have HNN := hide hnn
                      have HSP := hide (show SpDue L at_ w0 _ (k + 1) (.slice (some ⟨gN, 0, none⟩) (zs.take (jp + 1) ++ X.id :: zs.drop (jp + 1)).length cN) (zs.take (jp + 1) ++ X.id :: zs.drop (jp + 1)) from ⟨unhide HP, hrw2, bthen (unhide HS).2.2 hbl2⟩)
                      have HL3 := hide ((unhide HL2).keep timerR_keeps hbl2)
                      clear HA hnn hrw2 hbl2
                      go_wp2
                      go_roundw
                      case rel => exact ⟨k + 1, gN, cN, zs.take (jp + 1) ++ X.id :: zs.drop (jp + 1), by omega, by go_num, by rw [unhide HNN], HSP, HL3⟩
                      case measure => simp [intOf]; omega
            case br53n10 =>
              go_simp
              have HX := InX.start hHeld #[.int .i64 X.id] 3
              refine hK.out _ _ (HX.bel) (fun hHeld => ?_)
              clear hK
              refine wpAnyH_ready (rs := [0]) (by kernel_rfl) (by simp) ?_
              refine (AllReadyH.cons (o := ?bo63n0) ?bh63n0 (fun K hK => ?br63n0) AllReadyH.nil)
              case bh63n0 => (simp only [List.getElem?_toArray, List.getElem?_cons_zero]; rfl)
              case br63n0 =>
                go_simp
                have hsz1 := size_of_held (B := w2.heap.size + 1) hHeld (by first | (simp; done) | rfl)
                have HA := InA.start2 (t := 3) (N := 1) hHeld (unhide hsz1)
                have HN := HX.apart2 (unhide hsz1)
                have HX := HX.alloc (.cells #[] 3)
                refine hK.out _ _ (HA.bel) (fun hHeld => ?_)
                clear hK
                refine wpAnyH_ready (rs := [4]) (by kernel_rfl) (by simp) ?_
                refine (AllReadyH.cons (o := ?bo64n4) ?bh64n4 (fun K hK => ?br64n4) AllReadyH.nil)
                case bh64n4 => (simp only [List.getElem?_toArray, List.getElem?_cons_zero, List.getElem?_cons_succ]; rfl)
                case br64n4 =>
                  refine step_append2 (by rfl) (.tmp 44) (.tmp 47) 27 (by rfl) w2.heap.size 3 _ 1 8 Try.underlying27 infoI2 rfl (by decide) _ 0 _ (by rfl) HA.row ⟨g, 0, none⟩ ((jp + 1)) _ ((cellsI2 zs).take ((jp + 1) * 1)) (by rfl) HP3 (news_old HA.bel hgl HP1) (fun u hu => zone _ u (List.mem_of_mem_take hu)) (by unfold maxLen; omega) (by omega) HA.le ?_
                  intro v' w' how hg hv
                  have HN2 := ne_app HX HN hv
                  have HX := HX.app HA HN hg
                  have HN := HN2
                  have HA := HA.app how hg
                  clear how hg hv
                  refine hK.out _ _ (HA.bel) (fun hHeld => ?_)
                  clear hK
                  refine wpAnyH_ready (rs := [11]) (by kernel_rfl) (by simp) ?_
                  refine (AllReadyH.cons (o := ?bo65n11) ?bh65n11 (fun K hK => ?br65n11) AllReadyH.nil)
                  case bh65n11 => (simp only [List.getElem?_toArray, List.getElem?_cons_zero, List.getElem?_cons_succ]; rfl)
                  case br65n11 =>
                    refine step_append2 (by rfl) (.tmp 48) (.tmp 54) 27 (by rfl) w2.heap.size 3 _ 1 8 Try.underlying27 infoI2 rfl (by decide) _ (0 + (jp + 1)) _ (by rfl) HA.row ⟨_, 0, none⟩ 1 1 [.int .i64 X.id] (by rfl) rfl HX.cell (by intro u hu; simp at hu; subst hu; rfl) (by unfold maxLen; omega) (by omega) HA.le ?_
                    intro v' w' how hg hv
                    have HA := HA.app how hg
                    clear how hg hv
                    refine hK.out _ _ (HA.bel) (fun hHeld => ?_)
                    clear hK
                    refine wpAnyH_ready (rs := [15]) (by kernel_rfl) (by simp) ?_
                    refine (AllReadyH.cons (o := ?bo66n15) ?bh66n15 (fun K hK => ?br66n15) AllReadyH.nil)
                    case bh66n15 => (simp only [List.getElem?_toArray, List.getElem?_cons_zero, List.getElem?_cons_succ]; rfl)
                    case br66n15 =>
                      refine step_append2 (by rfl) (.tmp 55) (.tmp 58) 27 (by rfl) w2.heap.size 3 _ 1 8 Try.underlying27 infoI2 rfl (by decide) _ (0 + (jp + 1) + 1) _ (by rfl) HA.row ad0 nd0 cd0 ((cellsI2 zs).drop ((jp + 1) * 1)) (by rfl) HP4 (news_old HA.bel hgl2 HP2) (fun u hu => zone _ u (List.mem_of_mem_drop hu)) (by unfold maxLen; omega) (by omega) HA.le ?_
                      intro v' w' how hg hv
                      have HA := HA.app how hg
                      clear how hg hv
                      refine hK.out _ _ (HA.bel) (fun hHeld => ?_)
                      clear hK
                      refine wpAnyH_take (i := 16) (oi := ?oo67) (v := ?vv67) ?hi67 (by kernel_rfl) (by kernel_rfl) (by kernel_rfl) ?hQ67 ?hy67 (by assumption) ?rest67
                      case hi67 => (simp only [List.getElem?_toArray, List.getElem?_cons_zero, List.getElem?_cons_succ]; rfl)
                      case hQ67 => exact fun _ _ _ h => h
                      case hy67 => exact Or.inl ⟨by rfl, by intro wS hSw; (try dsimp only at hSw); go_simp; try first | (with_reducible rfl) | (simp only [*]; done) | omega⟩
                      try simp only [Act.put, List.setIfInBounds_toArray, List.set_cons_zero, List.set_cons_succ]
                      refine wpAnyH_done (by kernel_rfl) ?_ _
                      obtain ⟨gN, cN, rfl⟩ := zform HA.row (by omega)
                      obtain ⟨hnn, hrw2, hbl2⟩ := zstep (w0 := w0) hle2 HA
                      have HNN := hide hnn
                      have HSP := hide (show SpDue L at_ w0 _ (k + 1) (.slice (some ⟨gN, 0, none⟩) (zs.take (jp + 1) ++ X.id :: zs.drop (jp + 1)).length cN) (zs.take (jp + 1) ++ X.id :: zs.drop (jp + 1)) from ⟨unhide HP, hrw2, bthen (unhide HS).2.2 hbl2⟩)
                      have HL3 := hide ((unhide HL2).keep timerR_keeps hbl2)
                      clear HA hnn hrw2 hbl2
                      go_wp2
                      go_roundw
                      case rel => exact ⟨k + 1, gN, cN, zs.take (jp + 1) ++ X.id :: zs.drop (jp + 1), by omega, by go_num, by rw [unhide HNN], HSP, HL3⟩
                      case measure => simp [intOf]; omega
        · have hj1 : j = 0 := by omega
          subst hj1
          have HP := hide (unhide exitH (fun _ => Or.inl rfl))
          clear exitH hrx
          go_wp2_with fail
          refine wp_region_held_drew (S := fun w' => Below wr.heap.size wr w') (by kernel_rfl) (Below.drew (Below.refl _ _)) (fun hHeld => ?_)
          refine wpAnyH_take (i := 0) (oi := ?oo1) (v := ?vv1) ?hi1 (by kernel_rfl) (by kernel_rfl) (by kernel_rfl) ?hQ1 ?hy1 (by assumption) ?rest1
          case hi1 => (simp only [List.getElem?_toArray, List.getElem?_cons_zero]; rfl)
          case hQ1 => exact fun _ _ _ h => h
          case hy1 => exact Or.inl ⟨by rfl, by intro wS hSw; (try dsimp only at hSw); go_simp; try first | (with_reducible rfl) | (simp only [*]; done) | omega⟩
          try simp only [Act.put, List.setIfInBounds_toArray, List.set_cons_zero, List.set_cons_succ]
          refine wpAnyH_take (i := 1) (oi := ?oo2) (v := ?vv2) ?hi2 (by kernel_rfl) (by kernel_rfl) (by kernel_rfl) ?hQ2 ?hy2 (by assumption) ?rest2
          case hi2 => (simp only [List.getElem?_toArray, List.getElem?_cons_zero, List.getElem?_cons_succ]; rfl)
          case hQ2 => exact fun _ _ _ h => h
          case hy2 => exact Or.inl ⟨by rfl, by intro wS hSw; (try dsimp only at hSw); go_simp; try first | (with_reducible rfl) | (simp only [*]; done) | omega⟩
          try simp only [Act.put, List.setIfInBounds_toArray, List.set_cons_zero, List.set_cons_succ]
          refine wpAnyH_take (i := 2) (oi := ?oo3) (v := ?vv3) ?hi3 (by kernel_rfl) (by kernel_rfl) (by kernel_rfl) ?hQ3 ?hy3 (by assumption) ?rest3
          case hi3 => (simp only [List.getElem?_toArray, List.getElem?_cons_zero, List.getElem?_cons_succ]; rfl)
          case hQ3 => exact fun _ _ _ h => h
          case hy3 => exact Or.inl ⟨by rfl, by intro wS hSw; (try dsimp only at hSw); go_simp; try first | (with_reducible rfl) | (simp only [*]; done) | omega⟩
          try simp only [Act.put, List.setIfInBounds_toArray, List.set_cons_zero, List.set_cons_succ]
          refine wpAnyH_take (i := 3) (oi := ?oo4) (v := undef) ?hi4 (by kernel_rfl) (by kernel_rfl) (by kernel_rfl) ?hQ4 ?hy4 (by assumption) ?rest4
          case hi4 => (simp only [List.getElem?_toArray, List.getElem?_cons_zero, List.getElem?_cons_succ]; rfl)
          case hQ4 => exact fun _ _ _ h => h
          case hy4 => exact Or.inr ⟨by rfl, rfl⟩
          try simp only [Act.put, List.setIfInBounds_toArray, List.set_cons_zero, List.set_cons_succ]
          refine wpAnyH_take (i := 4) (oi := ?oo5) (v := undef) ?hi5 (by kernel_rfl) (by kernel_rfl) (by kernel_rfl) ?hQ5 ?hy5 (by assumption) ?rest5
          case hi5 => (simp only [List.getElem?_toArray, List.getElem?_cons_zero, List.getElem?_cons_succ]; rfl)
          case hQ5 => exact fun _ _ _ h => h
          case hy5 => exact Or.inr ⟨by rfl, rfl⟩
          try simp only [Act.put, List.setIfInBounds_toArray, List.set_cons_zero, List.set_cons_succ]
          refine wpAnyH_take (i := 5) (oi := ?oo6) (v := undef) ?hi6 (by kernel_rfl) (by kernel_rfl) (by kernel_rfl) ?hQ6 ?hy6 (by assumption) ?rest6
          case hi6 => (simp only [List.getElem?_toArray, List.getElem?_cons_zero, List.getElem?_cons_succ]; rfl)
          case hQ6 => exact fun _ _ _ h => h
          case hy6 => exact Or.inr ⟨by rfl, rfl⟩
          try simp only [Act.put, List.setIfInBounds_toArray, List.set_cons_zero, List.set_cons_succ]
          refine wpAnyH_take (i := 6) (oi := ?oo7) (v := undef) ?hi7 (by kernel_rfl) (by kernel_rfl) (by kernel_rfl) ?hQ7 ?hy7 (by assumption) ?rest7
          case hi7 => (simp only [List.getElem?_toArray, List.getElem?_cons_zero, List.getElem?_cons_succ]; rfl)
          case hQ7 => exact fun _ _ _ h => h
          case hy7 => exact Or.inr ⟨by rfl, rfl⟩
          try simp only [Act.put, List.setIfInBounds_toArray, List.set_cons_zero, List.set_cons_succ]
          refine wpAnyH_take (i := 7) (oi := ?oo8) (v := undef) ?hi8 (by kernel_rfl) (by kernel_rfl) (by kernel_rfl) ?hQ8 ?hy8 (by assumption) ?rest8
          case hi8 => (simp only [List.getElem?_toArray, List.getElem?_cons_zero, List.getElem?_cons_succ]; rfl)
          case hQ8 => exact fun _ _ _ h => h
          case hy8 => exact Or.inr ⟨by rfl, rfl⟩
          try simp only [Act.put, List.setIfInBounds_toArray, List.set_cons_zero, List.set_cons_succ]
          refine wpAnyH_take (i := 8) (oi := ?oo9) (v := undef) ?hi9 (by kernel_rfl) (by kernel_rfl) (by kernel_rfl) ?hQ9 ?hy9 (by assumption) ?rest9
          case hi9 => (simp only [List.getElem?_toArray, List.getElem?_cons_zero, List.getElem?_cons_succ]; rfl)
          case hQ9 => exact fun _ _ _ h => h
          case hy9 => exact Or.inr ⟨by rfl, rfl⟩
          try simp only [Act.put, List.setIfInBounds_toArray, List.set_cons_zero, List.set_cons_succ]
          refine wpAnyH_take (i := 9) (oi := ?oo10) (v := undef) ?hi10 (by kernel_rfl) (by kernel_rfl) (by kernel_rfl) ?hQ10 ?hy10 (by assumption) ?rest10
          case hi10 => (simp only [List.getElem?_toArray, List.getElem?_cons_zero, List.getElem?_cons_succ]; rfl)
          case hQ10 => exact fun _ _ _ h => h
          case hy10 => exact Or.inr ⟨by rfl, rfl⟩
          try simp only [Act.put, List.setIfInBounds_toArray, List.set_cons_zero, List.set_cons_succ]
          refine wpAnyH_take (i := 10) (oi := ?oo11) (v := undef) ?hi11 (by kernel_rfl) (by kernel_rfl) (by kernel_rfl) ?hQ11 ?hy11 (by assumption) ?rest11
          case hi11 => (simp only [List.getElem?_toArray, List.getElem?_cons_zero, List.getElem?_cons_succ]; rfl)
          case hQ11 => exact fun _ _ _ h => h
          case hy11 => exact Or.inr ⟨by rfl, rfl⟩
          try simp only [Act.put, List.setIfInBounds_toArray, List.set_cons_zero, List.set_cons_succ]
          refine wpAnyH_take (i := 11) (oi := ?oo12) (v := undef) ?hi12 (by kernel_rfl) (by kernel_rfl) (by kernel_rfl) ?hQ12 ?hy12 (by assumption) ?rest12
          case hi12 => (simp only [List.getElem?_toArray, List.getElem?_cons_zero, List.getElem?_cons_succ]; rfl)
          case hQ12 => exact fun _ _ _ h => h
          case hy12 => exact Or.inr ⟨by rfl, rfl⟩
          try simp only [Act.put, List.setIfInBounds_toArray, List.set_cons_zero, List.set_cons_succ]
          refine wpAnyH_take (i := 12) (oi := ?oo13) (v := undef) ?hi13 (by kernel_rfl) (by kernel_rfl) (by kernel_rfl) ?hQ13 ?hy13 (by assumption) ?rest13
          case hi13 => (simp only [List.getElem?_toArray, List.getElem?_cons_zero, List.getElem?_cons_succ]; rfl)
          case hQ13 => exact fun _ _ _ h => h
          case hy13 => exact Or.inr ⟨by rfl, rfl⟩
          try simp only [Act.put, List.setIfInBounds_toArray, List.set_cons_zero, List.set_cons_succ]
          refine wpAnyH_take (i := 13) (oi := ?oo14) (v := undef) ?hi14 (by kernel_rfl) (by kernel_rfl) (by kernel_rfl) ?hQ14 ?hy14 (by assumption) ?rest14
          case hi14 => (simp only [List.getElem?_toArray, List.getElem?_cons_zero, List.getElem?_cons_succ]; rfl)
          case hQ14 => exact fun _ _ _ h => h
          case hy14 => exact Or.inr ⟨by rfl, rfl⟩
          try simp only [Act.put, List.setIfInBounds_toArray, List.set_cons_zero, List.set_cons_succ]
          refine wpAnyH_take (i := 14) (oi := ?oo15) (v := ?vv15) ?hi15 (by kernel_rfl) (by kernel_rfl) (by kernel_rfl) ?hQ15 ?hy15 (by assumption) ?rest15
          case hi15 => (simp only [List.getElem?_toArray, List.getElem?_cons_zero, List.getElem?_cons_succ]; rfl)
          case hQ15 => exact fun _ _ _ h => h
          case hy15 => exact Or.inl ⟨by rfl, by intro wS hSw; (try dsimp only at hSw); go_simp; try first | (with_reducible rfl) | (simp only [*]; done) | omega⟩
          try simp only [Act.put, List.setIfInBounds_toArray, List.set_cons_zero, List.set_cons_succ]
          refine wpAnyH_done (by kernel_rfl) ?_ _
          have HS := hide ((unhide hsx).keep hHeld)
          have HL2 := hide ((unhide hlx).keep timerR_keeps hHeld)
          have p9 := p0' 1 #[]
          rw [grow_empty] at p9
          have hbk2 : b < (World.drew wr).heap.size := hbk'
          change (World.drew wr).cell? _ = _ at p9
          clear hsx hHeld hlx
          generalize World.drew wr = w2 at *
          have hj : 0 ≤ zs.length := Nat.zero_le _
          have hrow := (unhide HS).2.1
          obtain ⟨hnc2, hcm2, hgl2'⟩ := zcap hrow
          have hgl := hgl2'
          obtain ⟨HP1, _, HP3, HP4⟩ := row_parts (k := 0) hrow hj
          obtain ⟨ad0, nd0, cd0, had0, hnd0, hcd0⟩ : ∃ (ad : Addr) (n0 c0 : Nat), ad = (if cap = 0 then (⟨g, 0, none⟩ : Addr) else ⟨g, 0 * 1, none⟩) ∧ n0 = zs.length - 0 ∧ c0 = cap - 0 := ⟨_, _, _, rfl, rfl, rfl⟩
          have HP2 := row_parts2 (k := 0) hrow hj (by omega)
          rw [← had0] at HP2
          rw [← hnd0] at HP4
          have hgl2 : ad0.block < w2.heap.size := by rw [had0]; split <;> exact hgl
          have HA0D := hide had0
          have HN0D := hide hnd0
          have HC0D := hide hcd0
          have hnd1 : 0 + nd0 = zs.length := by omega
          have HND := hide hnd1
          have hnd2 : nd0 ≤ zs.length := by omega
          clear had0 hnd0 hcd0 hnd1
          have hle2 : w0.heap.size ≤ w2.heap.size := (unhide HS).2.2.size
          go_wp2_with fail
          refine wp_region_held_drew (S := fun w' => Below w2.heap.size w2 w') (by kernel_rfl) (Below.drew (Below.refl _ _)) (fun hHeld => ?_)
          refine wpAnyH_take (i := 1) (oi := ?oo16) (v := ?vv16) ?hi16 (by kernel_rfl) (by kernel_rfl) (by kernel_rfl) ?hQ16 ?hy16 (by assumption) ?rest16
          case hi16 => (simp only [List.getElem?_toArray, List.getElem?_cons_zero, List.getElem?_cons_succ]; rfl)
          case hQ16 => exact fun _ _ _ h => h
          case hy16 => exact Or.inl ⟨by rfl, by intro wS hSw; (try dsimp only at hSw); go_simp; try first | (with_reducible rfl) | (simp only [*]; done) | omega⟩
          try simp only [Act.put, List.setIfInBounds_toArray, List.set_cons_zero, List.set_cons_succ]
          refine wpAnyH_take (i := 2) (oi := ?oo17) (v := ?vv17) ?hi17 (by kernel_rfl) (by kernel_rfl) (by kernel_rfl) ?hQ17 ?hy17 (by assumption) ?rest17
          case hi17 => (simp only [List.getElem?_toArray, List.getElem?_cons_zero, List.getElem?_cons_succ]; rfl)
          case hQ17 => exact fun _ _ _ h => h
          case hy17 => exact Or.inl ⟨by rfl, by intro wS hSw; (try dsimp only at hSw); go_simp; try first | (with_reducible rfl) | (simp only [*]; done) | omega⟩
          try simp only [Act.put, List.setIfInBounds_toArray, List.set_cons_zero, List.set_cons_succ]
          refine wpAnyH_take (i := 3) (oi := ?oo18) (v := ?vv18) ?hi18 (by kernel_rfl) (by kernel_rfl) (by kernel_rfl) ?hQ18 ?hy18 (by assumption) ?rest18
          case hi18 => (simp only [List.getElem?_toArray, List.getElem?_cons_zero, List.getElem?_cons_succ]; rfl)
          case hQ18 => exact fun _ _ _ h => h
          case hy18 => exact Or.inl ⟨by rfl, by intro wS hSw; (try dsimp only at hSw); go_simp; (try rw [if_pos (by omega)]); (try rw [if_pos (by omega)]); (try rfl)⟩
          try simp only [Act.put, List.setIfInBounds_toArray, List.set_cons_zero, List.set_cons_succ]
          refine wpAnyH_take (i := 5) (oi := ?oo19) (v := ?vv19) ?hi19 (by kernel_rfl) (by kernel_rfl) (by kernel_rfl) ?hQ19 ?hy19 (by assumption) ?rest19
          case hi19 => (simp only [List.getElem?_toArray, List.getElem?_cons_zero, List.getElem?_cons_succ]; rfl)
          case hQ19 => exact fun _ _ _ h => h
          case hy19 => exact Or.inl ⟨by rfl, by intro wS hSw; (try dsimp only at hSw); go_simp; try first | (with_reducible rfl) | (simp only [*]; done) | omega⟩
          try simp only [Act.put, List.setIfInBounds_toArray, List.set_cons_zero, List.set_cons_succ]
          refine wpAnyH_take (i := 6) (oi := ?oo20) (v := ?vv20) ?hi20 (by kernel_rfl) (by kernel_rfl) (by kernel_rfl) ?hQ20 ?hy20 (by assumption) ?rest20
          case hi20 => (simp only [List.getElem?_toArray, List.getElem?_cons_zero, List.getElem?_cons_succ]; rfl)
          case hQ20 => exact fun _ _ _ h => h
          case hy20 => exact Or.inl ⟨by rfl, by intro wS hSw; (try dsimp only at hSw); go_simp; try first | (with_reducible rfl) | (simp only [*]; done) | omega⟩
          try simp only [Act.put, List.setIfInBounds_toArray, List.set_cons_zero, List.set_cons_succ]
          refine wpAnyH_take (i := 7) (oi := ?oo21) (v := ?vv21) ?hi21 (by kernel_rfl) (by kernel_rfl) (by kernel_rfl) ?hQ21 ?hy21 (by assumption) ?rest21
          case hi21 => (simp only [List.getElem?_toArray, List.getElem?_cons_zero, List.getElem?_cons_succ]; rfl)
          case hQ21 => exact fun _ _ _ h => h
          case hy21 => exact Or.inl ⟨by rfl, by intro wS hSw; (try dsimp only at hSw); go_simp; try first | (with_reducible rfl) | (simp only [*]; done) | omega⟩
          try simp only [Act.put, List.setIfInBounds_toArray, List.set_cons_zero, List.set_cons_succ]
          refine wpAnyH_take (i := 8) (oi := ?oo22) (v := ?vv22) ?hi22 (by kernel_rfl) (by kernel_rfl) (by kernel_rfl) ?hQ22 ?hy22 (by assumption) ?rest22
          case hi22 => (simp only [List.getElem?_toArray, List.getElem?_cons_zero, List.getElem?_cons_succ]; rfl)
          case hQ22 => exact fun _ _ _ h => h
          case hy22 => exact Or.inl ⟨by rfl, by intro wS hSw; (try dsimp only at hSw); go_simp; try first | (with_reducible rfl) | (simp only [*]; done) | omega⟩
          try simp only [Act.put, List.setIfInBounds_toArray, List.set_cons_zero, List.set_cons_succ]
          refine wpAnyH_take (i := 9) (oi := ?oo23) (v := .int .i64 X.id) ?hi23 (by kernel_rfl) (by kernel_rfl) (by kernel_rfl) ?hQ23 ?hy23 (by assumption) ?rest23
          case hi23 => (simp only [List.getElem?_toArray, List.getElem?_cons_zero, List.getElem?_cons_succ]; rfl)
          case hQ23 => exact fun _ _ _ h => h
          case hy23 => exact yld_cell (by rfl) _ _ rfl _ _ rfl _ (fun w' hS => by rw [hS.cell (p := ⟨b, o + k * 3, none⟩) hbk2]; exact p9) plainInt
          try simp only [Act.put, List.setIfInBounds_toArray, List.set_cons_zero, List.set_cons_succ]
          refine wpAnyH_take (i := 12) (oi := ?oo24) (v := ?vv24) ?hi24 (by kernel_rfl) (by kernel_rfl) (by kernel_rfl) ?hQ24 ?hy24 (by assumption) ?rest24
          case hi24 => (simp only [List.getElem?_toArray, List.getElem?_cons_zero, List.getElem?_cons_succ]; rfl)
          case hQ24 => exact fun _ _ _ h => h
          case hy24 => exact Or.inl ⟨by rfl, by intro wS hSw; (try dsimp only at hSw); go_simp; try first | (with_reducible rfl) | (simp only [*]; done) | omega⟩
          try simp only [Act.put, List.setIfInBounds_toArray, List.set_cons_zero, List.set_cons_succ]
          refine wpAnyH_take (i := 13) (oi := ?oo25) (v := ?vv25) ?hi25 (by kernel_rfl) (by kernel_rfl) (by kernel_rfl) ?hQ25 ?hy25 (by assumption) ?rest25
          case hi25 => (simp only [List.getElem?_toArray, List.getElem?_cons_zero, List.getElem?_cons_succ]; rfl)
          case hQ25 => exact fun _ _ _ h => h
          case hy25 => exact Or.inl ⟨by rfl, by intro wS hSw; (try dsimp only at hSw); go_simp; try first | (with_reducible rfl) | (simp only [*]; done) | omega⟩
          try simp only [Act.put, List.setIfInBounds_toArray, List.set_cons_zero, List.set_cons_succ]
          refine wpAnyH_take (i := 14) (oi := ?oo26) (v := .slice (some ad0) nd0 cd0) ?hi26 (by kernel_rfl) (by kernel_rfl) (by kernel_rfl) ?hQ26 ?hy26 (by assumption) ?rest26
          case hi26 => (simp only [List.getElem?_toArray, List.getElem?_cons_zero, List.getElem?_cons_succ]; rfl)
          case hQ26 => exact fun _ _ _ h => h
          case hy26 => exact Or.inl ⟨by rfl, by intro wS hSw; (try dsimp only at hSw); go_simp; (try rw [if_pos (by omega)]); (try rw [if_pos (by omega)]); (rw [unhide HA0D, unhide HN0D, unhide HC0D]); (split <;> simp_all)⟩
          try simp only [Act.put, List.setIfInBounds_toArray, List.set_cons_zero, List.set_cons_succ]
          refine wpAnyH_ready (rs := [0, 10]) (by kernel_rfl) (by simp) ?_
          refine (AllReadyH.cons (o := ?bo27n0) ?bh27n0 (fun K hK => ?br27n0) (AllReadyH.cons (o := ?bo27n10) ?bh27n10 (fun K hK => ?br27n10) AllReadyH.nil))
          case bh27n0 => (simp only [List.getElem?_toArray, List.getElem?_cons_zero]; rfl)
          case bh27n10 => (simp only [List.getElem?_toArray, List.getElem?_cons_zero, List.getElem?_cons_succ]; rfl)
          case br27n0 =>
            go_simp
            have HA := InA.start (t := 3) (N := 1) hHeld
            refine hK.out _ _ (HA.bel) (fun hHeld => ?_)
            clear hK
            refine wpAnyH_ready (rs := [4, 10]) (by kernel_rfl) (by simp) ?_
            refine (AllReadyH.cons (o := ?bo28n4) ?bh28n4 (fun K hK => ?br28n4) (AllReadyH.cons (o := ?bo28n10) ?bh28n10 (fun K hK => ?br28n10) AllReadyH.nil))
            case bh28n4 => (simp only [List.getElem?_toArray, List.getElem?_cons_zero, List.getElem?_cons_succ]; rfl)
            case bh28n10 => (simp only [List.getElem?_toArray, List.getElem?_cons_zero, List.getElem?_cons_succ]; rfl)
            case br28n4 =>
              refine step_append2 (by rfl) (.tmp 44) (.tmp 47) 27 (by rfl) w2.heap.size 3 _ 1 8 Try.underlying27 infoI2 rfl (by decide) _ 0 _ (by rfl) HA.row ⟨g, 0, none⟩ (0) _ ((cellsI2 zs).take (0 * 1)) (by rfl) HP3 (news_old HA.bel hgl HP1) (fun u hu => zone _ u (List.mem_of_mem_take hu)) (by unfold maxLen; omega) (by omega) HA.le ?_
              intro v' w' how hg hv
              have HA := HA.app how hg
              clear how hg hv
              refine hK.out _ _ (HA.bel) (fun hHeld => ?_)
              clear hK
              refine wpAnyH_ready (rs := [10]) (by kernel_rfl) (by simp) ?_
              refine (AllReadyH.cons (o := ?bo29n10) ?bh29n10 (fun K hK => ?br29n10) AllReadyH.nil)
              case bh29n10 => (simp only [List.getElem?_toArray, List.getElem?_cons_zero, List.getElem?_cons_succ]; rfl)
              case br29n10 =>
                go_simp
                have HN := HA.apart
                have HA := HA.alloc (.cells #[.int .i64 X.id] 3)
                have HX := InX.start hHeld #[.int .i64 X.id] 3
                refine hK.out _ _ (HX.bel) (fun hHeld => ?_)
                clear hK
                refine wpAnyH_ready (rs := [11]) (by kernel_rfl) (by simp) ?_
                refine (AllReadyH.cons (o := ?bo30n11) ?bh30n11 (fun K hK => ?br30n11) AllReadyH.nil)
                case bh30n11 => (simp only [List.getElem?_toArray, List.getElem?_cons_zero, List.getElem?_cons_succ]; rfl)
                case br30n11 =>
                  refine step_append2 (by rfl) (.tmp 48) (.tmp 54) 27 (by rfl) w2.heap.size 3 _ 1 8 Try.underlying27 infoI2 rfl (by decide) _ (0 + 0) _ (by rfl) HA.row ⟨_, 0, none⟩ 1 1 [.int .i64 X.id] (by rfl) rfl HX.cell (by intro u hu; simp at hu; subst hu; rfl) (by unfold maxLen; omega) (by omega) HA.le ?_
                  intro v' w' how hg hv
                  have HA := HA.app how hg
                  clear how hg hv
                  refine hK.out _ _ (HA.bel) (fun hHeld => ?_)
                  clear hK
                  refine wpAnyH_ready (rs := [15]) (by kernel_rfl) (by simp) ?_
                  refine (AllReadyH.cons (o := ?bo31n15) ?bh31n15 (fun K hK => ?br31n15) AllReadyH.nil)
                  case bh31n15 => (simp only [List.getElem?_toArray, List.getElem?_cons_zero, List.getElem?_cons_succ]; rfl)
                  case br31n15 =>
                    refine step_append2 (by rfl) (.tmp 55) (.tmp 58) 27 (by rfl) w2.heap.size 3 _ 1 8 Try.underlying27 infoI2 rfl (by decide) _ (0 + 0 + 1) _ (by rfl) HA.row ad0 nd0 cd0 ((cellsI2 zs).drop (0 * 1)) (by rfl) HP4 (news_old HA.bel hgl2 HP2) (fun u hu => zone _ u (List.mem_of_mem_drop hu)) (by unfold maxLen; omega) (by omega) HA.le ?_
                    intro v' w' how hg hv
                    have HA := HA.app how hg
                    clear how hg hv
                    refine hK.out _ _ (HA.bel) (fun hHeld => ?_)
                    clear hK
                    refine wpAnyH_take (i := 16) (oi := ?oo32) (v := ?vv32) ?hi32 (by kernel_rfl) (by kernel_rfl) (by kernel_rfl) ?hQ32 ?hy32 (by assumption) ?rest32
                    case hi32 => (simp only [List.getElem?_toArray, List.getElem?_cons_zero, List.getElem?_cons_succ]; rfl)
                    case hQ32 => exact fun _ _ _ h => h
                    case hy32 => exact Or.inl ⟨by rfl, by intro wS hSw; (try dsimp only at hSw); go_simp; try first | (with_reducible rfl) | (simp only [*]; done) | omega⟩
                    try simp only [Act.put, List.setIfInBounds_toArray, List.set_cons_zero, List.set_cons_succ]
                    refine wpAnyH_done (by kernel_rfl) ?_ _
                    obtain ⟨gN, cN, rfl⟩ := zform HA.row (by omega)
                    obtain ⟨hnn, hrw2, hbl2⟩ := zstep (w0 := w0) hle2 HA
                    have HNN := hide hnn
                    have HSP := hide (show SpDue L at_ w0 _ (k + 1) (.slice (some ⟨gN, 0, none⟩) (zs.take 0 ++ X.id :: zs.drop 0).length cN) (zs.take 0 ++ X.id :: zs.drop 0) from ⟨unhide HP, hrw2, bthen (unhide HS).2.2 hbl2⟩)
                    have HL3 := hide ((unhide HL2).keep timerR_keeps hbl2)
                    clear HA hnn hrw2 hbl2
                    go_wp2
                    go_roundw
                    case rel => exact ⟨k + 1, gN, cN, zs.take 0 ++ X.id :: zs.drop 0, by omega, by go_num, by rw [unhide HNN], HSP, HL3⟩
                    case measure => simp [intOf]; omega
            case br28n10 =>
              go_simp
              have hsz1 := size_of_held (B := w2.heap.size + 1) hHeld (by first | (simp; done) | rfl)
              have HN := HA.apart2 (unhide hsz1)
              have HA := HA.alloc (.cells #[.int .i64 X.id] 3)
              have HX := InX.start2 hHeld (unhide hsz1) #[.int .i64 X.id] 3
              refine hK.out _ _ (HX.bel) (fun hHeld => ?_)
              clear hK
              refine wpAnyH_ready (rs := [4]) (by kernel_rfl) (by simp) ?_
              refine (AllReadyH.cons (o := ?bo33n4) ?bh33n4 (fun K hK => ?br33n4) AllReadyH.nil)
              case bh33n4 => (simp only [List.getElem?_toArray, List.getElem?_cons_zero, List.getElem?_cons_succ]; rfl)
              case br33n4 =>
                refine step_append2 (by rfl) (.tmp 44) (.tmp 47) 27 (by rfl) w2.heap.size 3 _ 1 8 Try.underlying27 infoI2 rfl (by decide) _ 0 _ (by rfl) HA.row ⟨g, 0, none⟩ (0) _ ((cellsI2 zs).take (0 * 1)) (by rfl) HP3 (news_old HA.bel hgl HP1) (fun u hu => zone _ u (List.mem_of_mem_take hu)) (by unfold maxLen; omega) (by omega) HA.le ?_
                intro v' w' how hg hv
                have HN2 := ne_app HX HN hv
                have HX := HX.app HA HN hg
                have HN := HN2
                have HA := HA.app how hg
                clear how hg hv
                refine hK.out _ _ (HA.bel) (fun hHeld => ?_)
                clear hK
                refine wpAnyH_ready (rs := [11]) (by kernel_rfl) (by simp) ?_
                refine (AllReadyH.cons (o := ?bo34n11) ?bh34n11 (fun K hK => ?br34n11) AllReadyH.nil)
                case bh34n11 => (simp only [List.getElem?_toArray, List.getElem?_cons_zero, List.getElem?_cons_succ]; rfl)
                case br34n11 =>
                  refine step_append2 (by rfl) (.tmp 48) (.tmp 54) 27 (by rfl) w2.heap.size 3 _ 1 8 Try.underlying27 infoI2 rfl (by decide) _ (0 + 0) _ (by rfl) HA.row ⟨_, 0, none⟩ 1 1 [.int .i64 X.id] (by rfl) rfl HX.cell (by intro u hu; simp at hu; subst hu; rfl) (by unfold maxLen; omega) (by omega) HA.le ?_
                  intro v' w' how hg hv
                  have HA := HA.app how hg
                  clear how hg hv
                  refine hK.out _ _ (HA.bel) (fun hHeld => ?_)
                  clear hK
                  refine wpAnyH_ready (rs := [15]) (by kernel_rfl) (by simp) ?_
                  refine (AllReadyH.cons (o := ?bo35n15) ?bh35n15 (fun K hK => ?br35n15) AllReadyH.nil)
                  case bh35n15 => (simp only [List.getElem?_toArray, List.getElem?_cons_zero, List.getElem?_cons_succ]; rfl)
                  case br35n15 =>
                    refine step_append2 (by rfl) (.tmp 55) (.tmp 58) 27 (by rfl) w2.heap.size 3 _ 1 8 Try.underlying27 infoI2 rfl (by decide) _ (0 + 0 + 1) _ (by rfl) HA.row ad0 nd0 cd0 ((cellsI2 zs).drop (0 * 1)) (by rfl) HP4 (news_old HA.bel hgl2 HP2) (fun u hu => zone _ u (List.mem_of_mem_drop hu)) (by unfold maxLen; omega) (by omega) HA.le ?_
                    intro v' w' how hg hv
                    have HA := HA.app how hg
                    clear how hg hv
                    refine hK.out _ _ (HA.bel) (fun hHeld => ?_)
                    clear hK
                    refine wpAnyH_take (i := 16) (oi := ?oo36) (v := ?vv36) ?hi36 (by kernel_rfl) (by kernel_rfl) (by kernel_rfl) ?hQ36 ?hy36 (by assumption) ?rest36
                    case hi36 => (simp only [List.getElem?_toArray, List.getElem?_cons_zero, List.getElem?_cons_succ]; rfl)
                    case hQ36 => exact fun _ _ _ h => h
                    case hy36 => exact Or.inl ⟨by rfl, by intro wS hSw; (try dsimp only at hSw); go_simp; try first | (with_reducible rfl) | (simp only [*]; done) | omega⟩
                    try simp only [Act.put, List.setIfInBounds_toArray, List.set_cons_zero, List.set_cons_succ]
                    refine wpAnyH_done (by kernel_rfl) ?_ _
                    obtain ⟨gN, cN, rfl⟩ := zform HA.row (by omega)
                    obtain ⟨hnn, hrw2, hbl2⟩ := zstep (w0 := w0) hle2 HA
                    have HNN := hide hnn
                    have HSP := hide (show SpDue L at_ w0 _ (k + 1) (.slice (some ⟨gN, 0, none⟩) (zs.take 0 ++ X.id :: zs.drop 0).length cN) (zs.take 0 ++ X.id :: zs.drop 0) from ⟨unhide HP, hrw2, bthen (unhide HS).2.2 hbl2⟩)
                    have HL3 := hide ((unhide HL2).keep timerR_keeps hbl2)
                    clear HA hnn hrw2 hbl2
                    go_wp2
                    go_roundw
                    case rel => exact ⟨k + 1, gN, cN, zs.take 0 ++ X.id :: zs.drop 0, by omega, by go_num, by rw [unhide HNN], HSP, HL3⟩
                    case measure => simp [intOf]; omega
          case br27n10 =>
            go_simp
            have HX := InX.start hHeld #[.int .i64 X.id] 3
            refine hK.out _ _ (HX.bel) (fun hHeld => ?_)
            clear hK
            refine wpAnyH_ready (rs := [0]) (by kernel_rfl) (by simp) ?_
            refine (AllReadyH.cons (o := ?bo37n0) ?bh37n0 (fun K hK => ?br37n0) AllReadyH.nil)
            case bh37n0 => (simp only [List.getElem?_toArray, List.getElem?_cons_zero]; rfl)
            case br37n0 =>
              go_simp
              have hsz1 := size_of_held (B := w2.heap.size + 1) hHeld (by first | (simp; done) | rfl)
              have HA := InA.start2 (t := 3) (N := 1) hHeld (unhide hsz1)
              have HN := HX.apart2 (unhide hsz1)
              have HX := HX.alloc (.cells #[] 3)
              refine hK.out _ _ (HA.bel) (fun hHeld => ?_)
              clear hK
              refine wpAnyH_ready (rs := [4]) (by kernel_rfl) (by simp) ?_
              refine (AllReadyH.cons (o := ?bo38n4) ?bh38n4 (fun K hK => ?br38n4) AllReadyH.nil)
              case bh38n4 => (simp only [List.getElem?_toArray, List.getElem?_cons_zero, List.getElem?_cons_succ]; rfl)
              case br38n4 =>
                refine step_append2 (by rfl) (.tmp 44) (.tmp 47) 27 (by rfl) w2.heap.size 3 _ 1 8 Try.underlying27 infoI2 rfl (by decide) _ 0 _ (by rfl) HA.row ⟨g, 0, none⟩ (0) _ ((cellsI2 zs).take (0 * 1)) (by rfl) HP3 (news_old HA.bel hgl HP1) (fun u hu => zone _ u (List.mem_of_mem_take hu)) (by unfold maxLen; omega) (by omega) HA.le ?_
                intro v' w' how hg hv
                have HN2 := ne_app HX HN hv
                have HX := HX.app HA HN hg
                have HN := HN2
                have HA := HA.app how hg
                clear how hg hv
                refine hK.out _ _ (HA.bel) (fun hHeld => ?_)
                clear hK
                refine wpAnyH_ready (rs := [11]) (by kernel_rfl) (by simp) ?_
                refine (AllReadyH.cons (o := ?bo39n11) ?bh39n11 (fun K hK => ?br39n11) AllReadyH.nil)
                case bh39n11 => (simp only [List.getElem?_toArray, List.getElem?_cons_zero, List.getElem?_cons_succ]; rfl)
                case br39n11 =>
                  refine step_append2 (by rfl) (.tmp 48) (.tmp 54) 27 (by rfl) w2.heap.size 3 _ 1 8 Try.underlying27 infoI2 rfl (by decide) _ (0 + 0) _ (by rfl) HA.row ⟨_, 0, none⟩ 1 1 [.int .i64 X.id] (by rfl) rfl HX.cell (by intro u hu; simp at hu; subst hu; rfl) (by unfold maxLen; omega) (by omega) HA.le ?_
                  intro v' w' how hg hv
                  have HA := HA.app how hg
                  clear how hg hv
                  refine hK.out _ _ (HA.bel) (fun hHeld => ?_)
                  clear hK
                  refine wpAnyH_ready (rs := [15]) (by kernel_rfl) (by simp) ?_
                  refine (AllReadyH.cons (o := ?bo40n15) ?bh40n15 (fun K hK => ?br40n15) AllReadyH.nil)
                  case bh40n15 => (simp only [List.getElem?_toArray, List.getElem?_cons_zero, List.getElem?_cons_succ]; rfl)
                  case br40n15 =>
                    refine step_append2 (by rfl) (.tmp 55) (.tmp 58) 27 (by rfl) w2.heap.size 3 _ 1 8 Try.underlying27 infoI2 rfl (by decide) _ (0 + 0 + 1) _ (by rfl) HA.row ad0 nd0 cd0 ((cellsI2 zs).drop (0 * 1)) (by rfl) HP4 (news_old HA.bel hgl2 HP2) (fun u hu => zone _ u (List.mem_of_mem_drop hu)) (by unfold maxLen; omega) (by omega) HA.le ?_
                    intro v' w' how hg hv
                    have HA := HA.app how hg
                    clear how hg hv
                    refine hK.out _ _ (HA.bel) (fun hHeld => ?_)
                    clear hK
                    refine wpAnyH_take (i := 16) (oi := ?oo41) (v := ?vv41) ?hi41 (by kernel_rfl) (by kernel_rfl) (by kernel_rfl) ?hQ41 ?hy41 (by assumption) ?rest41
                    case hi41 => (simp only [List.getElem?_toArray, List.getElem?_cons_zero, List.getElem?_cons_succ]; rfl)
                    case hQ41 => exact fun _ _ _ h => h
                    case hy41 => exact Or.inl ⟨by rfl, by intro wS hSw; (try dsimp only at hSw); go_simp; try first | (with_reducible rfl) | (simp only [*]; done) | omega⟩
                    try simp only [Act.put, List.setIfInBounds_toArray, List.set_cons_zero, List.set_cons_succ]
                    refine wpAnyH_done (by kernel_rfl) ?_ _
                    obtain ⟨gN, cN, rfl⟩ := zform HA.row (by omega)
                    obtain ⟨hnn, hrw2, hbl2⟩ := zstep (w0 := w0) hle2 HA
                    have HNN := hide hnn
                    have HSP := hide (show SpDue L at_ w0 _ (k + 1) (.slice (some ⟨gN, 0, none⟩) (zs.take 0 ++ X.id :: zs.drop 0).length cN) (zs.take 0 ++ X.id :: zs.drop 0) from ⟨unhide HP, hrw2, bthen (unhide HS).2.2 hbl2⟩)
                    have HL3 := hide ((unhide HL2).keep timerR_keeps hbl2)
                    clear HA hnn hrw2 hbl2
                    go_wp2
                    go_roundw
                    case rel => exact ⟨k + 1, gN, cN, zs.take 0 ++ X.id :: zs.drop 0, by omega, by go_num, by rw [unhide HNN], HSP, HL3⟩
                    case measure => simp [intOf]; omega
    · have hki : ¬ (k : Int) < (L.length : Int) := by omega
      obtain rfl : k = L.length := by omega
      have HE := (unhide hsp).1.is
      rw [List.take_length] at HE
      have h3 := zbase (base' := w.heap.size) (unhide hsp).2.1 hbw
      have h4 := (unhide hsp).2.2
      subst HE
      have hc1 := unhide HCN
      have HR := hide (And.intro (ints_done h3 (by unfold dueZ at hc1; omega)) (bthen B0 h4))
      clear hsp h3 h4
      go_wp2
      go_ret
      exact ⟨_, rfl, by unfold dueZ; rw [unhide HL]; exact (unhide HR).1, (unhide HR).2⟩
end Go.Proofs.Ytanpmbjjppfkeaa
