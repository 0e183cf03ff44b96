/-
  StampsOf of the specification.
-/
import Derived.Test.YtopngelgpfjdeaaStm0
import Derived.Test.YtopngelgpfjdeaaTInt
import Derived.Deep.CutRange
namespace Go.Proofs.Ytopngelgpfjdeaa
open Go.ChangeShapes Go.WideShapes Go.ChangeAt Go.RowKit Go.Sort
set_option linter.unusedVariables false
set_option maxRecDepth 100000

def stB (x : DeedD) : Bool := offB 1 x && decide (0 < x.stamp)
def stI (l : List DeedD) : List Int := (l.filter stB).map DeedD.stamp
def stZ (l : List DeedD) : List Int := onceZ (stI l)
theorem stI_yes {l : List DeedD} {k : Nat} (h : k < l.length) (e : stB l[k] = true) : stI (l.take (k + 1)) = stI (l.take k) ++ [l[k].stamp] := by
  unfold stI
  rw [List.take_succ_eq_append_getElem h, List.filter_append, List.map_append]
  simp [e]
theorem stI_no {l : List DeedD} {k : Nat} (h : k < l.length) (e : stB l[k] = false) : stI (l.take (k + 1)) = stI (l.take k) := by
  unfold stI
  rw [List.take_succ_eq_append_getElem h, List.filter_append, List.map_append]
  simp [e]
theorem stI_len (l : List DeedD) (k : Nat) : (stI (l.take k)).length ≤ k := by
  unfold stI
  rw [List.length_map]
  have := List.length_filter_le stB (l.take k)
  rw [List.length_take] at this
  omega
theorem stZ_len (l : List DeedD) : (stZ l).length ≤ l.length := by
  have := stI_len l l.length
  rw [List.take_length] at this
  have := onceZ_len (stI l)
  unfold stZ
  omega
theorem st_cnt (l : List DeedD) (h : bulkL deedBulk l ≤ 1048576) : (stZ l).length ≤ 16777216 := by
  have := stZ_len l
  have := bulkL_len deedBulk l
  omega
def SpSt (l : List DeedD) (w wk : World) (k : Nat) (o : Value) (zs : List Int) : Prop := Once (stI (l.take k)) zs ∧ wk.ownsRow w.heap.size 3 1 o zs.length (cellsI2 zs) ∧ Below w.heap.size w wk
theorem SpSt.grown {l : List DeedD} {w wk : World} {k : Nat} {o : Value} {zs : List Int} (h : SpSt l w wk k o zs) (n : Nat) (os : Array Obj) : SpSt l w (grow (wk.drewN n) os) k o zs := ⟨h.1, zowns h.2.1 n os, zgrown h.2.2 h.2.2.size n os⟩
theorem SpSt.keep {l : List DeedD} {w wk w2 : World} {k : Nat} {o : Value} {zs : List Int} (h : SpSt l w wk k o zs) (hb : Below wk.heap.size wk w2) : SpSt l w w2 k o zs := ⟨h.1, owns_below h.2.1 hb, bthen h.2.2 hb⟩
def Has9 (w : World) (B : Nat) (x : Int) : Prop := w.cell? ⟨B, 9, none⟩ = some (.int .i64 x) ∧ B < w.heap.size
theorem Has9.keep {w w2 : World} {B : Nat} {x : Int} (h : Has9 w B x) (hb : Below w.heap.size w w2) : Has9 w2 B x := ⟨by rw [hb.cell (p := ⟨B, 9, none⟩) h.2]; exact h.1, Nat.lt_of_lt_of_le h.2 hb.size⟩
set_option maxHeartbeats 4000000 in
theorem specStampsOf (l : List DeedD) (S0 : Nat → Prop) (v0 : Value) (w : World) (h0 : LAt 20 deedR w S0 v0 l) (b0 : bulkL deedBulk l ≤ 1048576) :
    Calls Try.prog 39 #[v0] w fun e w' => ∃ v', e = .returned v' ∧ LOw 1 intO w' (Within w.heap.size w'.heap.size) v' (stZ l) ∧ Below w.heap.size w w' := by
  obtain ⟨a, cap0, rfl⟩ := h0.form
  have hlen := bulkL_len deedBulk l
  have HA := hide h0
  clear h0
  have how0 := hide (show SpSt l w (w.alloc (.cells #[] 3)) 0 (.slice (some ⟨w.heap.size, 0, none⟩) 0 0) [] from ⟨by simpa [stI] using Once.start, World.ownsRow_made (base := w.heap.size) (e := 3) (size := 1) w #[] 0 (Nat.le_refl _) (by unfold maxLen; omega) rfl, bnew w (.cells #[] 3)⟩)
  go_enter Try.func39, Try.ntmps39
  go_wp2
  go_loopw [3, 4] (fun o i wk => ∃ (k g cap : Nat) (zs : List Int), k ≤ l.length ∧ i = .int .i64 k ∧ o = .slice (some ⟨g, 0, none⟩) zs.length cap ∧ Hid (SpSt l w wk k (.slice (some ⟨g, 0, none⟩) zs.length cap) zs)) (fun _ i _ => l.length - (intOf i).toNat)
  case atStart => exact ⟨0, w.heap.size, 0, [], Nat.zero_le _, rfl, rfl, how0⟩
  case round =>
    obtain ⟨k, g, cap, zs, hk, rfl, rfl, hsp⟩ := hrel
    clear how0
    by_cases hlt : k < l.length
    · have hki : (k : Int) < (l.length : Int) := by omega
      have hbl := (unhide hsp).2.2
      obtain ⟨b, o, cs, rfl, hbk, hSb, hcs, hin⟩ := (unhide HA).at k hlt
      have hcs := deedR_keeps _ _ S0 None1 cs _ (Below.turn hbl) none_off hcs
      have hin := hin.turn hbk (Below.turn hbl) (fun e => e)
      have hrw : RowT Try.prog 130 cs.length := by rw [deedR_len hcs]; exact rowIDeed
      have hzl : zs.length ≤ k := Nat.le_trans (unhide hsp).1.len (stI_len l k)
      have HY : Hid (stB l[k] = true → stI (l.take (k + 1)) = stI (l.take k) ++ [l[k].stamp]) := hide (fun e => stI_yes hlt e)
      have HN : Hid (stB l[k] = false → stI (l.take (k + 1)) = stI (l.take k)) := hide (fun e => stI_no hlt e)
      generalize l[k] = X at *
      have HL1 := hide (deedR_len hcs)
      have on1 := deedR_one hcs
      have hA1 := Held.new wr cs 130
      have hbA := bnew wr (.cells cs.toArray 130)
      have p0 : (wr.alloc (.cells cs.toArray 130)).cell? ⟨wr.heap.size, 0, none⟩ = some (.int .i64 X.op) := hA1.2 0 _ (deedR_c0 hcs)
      have p9 : (wr.alloc (.cells cs.toArray 130)).cell? ⟨wr.heap.size, 9, none⟩ = some (.int .i64 X.stamp) := hA1.2 9 _ (deedR_c9 hcs)
      have p10 : (wr.alloc (.cells cs.toArray 130)).cell? ⟨wr.heap.size, 10, none⟩ = some (.int .i64 X.code) := hA1.2 10 _ (deedR_c10 hcs)
      have p18 : (wr.alloc (.cells cs.toArray 130)).cell? ⟨wr.heap.size, 18, none⟩ = some (.int .i64 X.lin) := hA1.2 18 _ (deedR_c18 hcs)
      have H9 : Hid (Has9 (wr.alloc (.cells cs.toArray 130)) wr.heap.size X.stamp) := hide ⟨p9, hA1.1⟩
      have hsp := hide ((unhide hsp).keep hbA)
      clear hcs hA1 hbA hbl
      go_upto_region 6 with (first | (refine wpl_load rfl 130 _ rfl _ _ rfl cs hin hrw ?_) | (refine wpl_store_new rfl _ _ _ rfl _ cs rfl rfl ?_ on1 hrw ?_; (rw [unhide HL1]; rfl)))
      generalize hWa : World.alloc wr _ = wa at *
      clear hWa hin on1 hrw
      generalize hBB : wr.heap.size = B at *
      clear hBB
      by_cases e1 : X.op = 1
      case neg =>
        have q1 : (X.op != 1) = true := by simpa using e1
        have HD := hide (unhide HN (by simp [stB, offB, e1]))
        clear e1
        have HS := hide (show SpSt l w wa (k + 1) (.slice (some ⟨g, 0, none⟩) zs.length cap) zs from ⟨by rw [unhide HD]; exact (unhide hsp).1, (unhide hsp).2⟩)
        clear hsp
        go_wp2
        go_roundw
        case rel => exact ⟨k + 1, g, cap, zs, by omega, by go_num, rfl, HS⟩
        case measure => simp [intOf]; omega
      have q1 : (X.op != 1) = false := by simpa using e1
      by_cases e2 : X.lin = -1
      case pos =>
        have q2 : (X.lin == -1) = true := by simpa using e2
        have HD := hide (unhide HN (by simp [stB, offB, tookB, e2]))
        clear e1 e2
        have HS := hide (show SpSt l w wa (k + 1) (.slice (some ⟨g, 0, none⟩) zs.length cap) zs from ⟨by rw [unhide HD]; exact (unhide hsp).1, (unhide hsp).2⟩)
        clear hsp
        go_wp2
        go_roundw
        case rel => exact ⟨k + 1, g, cap, zs, by omega, by go_num, rfl, HS⟩
        case measure => simp [intOf]; omega
      have q2 : (X.lin == -1) = false := by simpa using e2
      by_cases e3 : X.code = 1
      case neg =>
        have q3 : (X.code != 1) = true := by simpa using e3
        have HD := hide (unhide HN (by simp [stB, offB, e3]))
        clear e1 e2 e3
        have HS := hide (show SpSt l w wa (k + 1) (.slice (some ⟨g, 0, none⟩) zs.length cap) zs from ⟨by rw [unhide HD]; exact (unhide hsp).1, (unhide hsp).2⟩)
        clear hsp
        go_wp2
        go_roundw
        case rel => exact ⟨k + 1, g, cap, zs, by omega, by go_num, rfl, HS⟩
        case measure => simp [intOf]; omega
      have q3 : (X.code != 1) = false := by simpa using e3
      by_cases e4 : X.stamp < 1
      case pos =>
        have HD := hide (unhide HN (by simp [stB]; intro _; omega))
        clear e1 e2 e3
        have HS := hide (show SpSt l w wa (k + 1) (.slice (some ⟨g, 0, none⟩) zs.length cap) zs from ⟨by rw [unhide HD]; exact (unhide hsp).1, (unhide hsp).2⟩)
        clear hsp
        go_wp2
        go_roundw
        case rel => exact ⟨k + 1, g, cap, zs, by omega, by go_num, rfl, HS⟩
        case measure => simp [intOf]; omega
      have HD := hide (unhide HY (by simp [stB, offB, tookB, e1, e2, e3]; omega))
      clear e1 e2 e3
      have hh := specHas g cap zs X.stamp wa (unhide hsp).2.1 (by omega)
      by_cases e5 : X.stamp ∈ zs
      case pos =>
        have q5 : decide (X.stamp ∈ zs) = true := decide_eq_true e5
        rw [q5] at hh
        have HS := hide (show SpSt l w wa (k + 1) (.slice (some ⟨g, 0, none⟩) zs.length cap) zs from ⟨by rw [unhide HD]; exact (unhide hsp).1.skip e5, (unhide hsp).2⟩)
        clear e5 q5 hsp
        go_wp2_with fail
        refine hh.mono ?_
        rintro e w5 ⟨rfl, hw⟩
        obtain rfl := hw.symm
        clear hh
        go_wp2
        go_roundw
        case rel => exact ⟨k + 1, g, cap, zs, by omega, by go_num, rfl, HS⟩
        case measure => simp [intOf]; omega
      have q5 : decide (X.stamp ∈ zs) = false := decide_eq_false e5
      rw [q5] at hh
      have HNX := hide e5
      clear e5 q5
      go_wp2_with fail
      refine hh.mono ?_
      rintro e w5 ⟨rfl, hw⟩
      obtain rfl := hw.symm
      clear hh p0 p9 p10 p18
      have hgr0 : Hid (GreaterZ zs X.stamp zs.length) := hide (fun i hi h => by omega)
      go_wp2
      go_loopw [6] (fun s wx => ∃ j : Nat, j ≤ zs.length ∧ s = .int .i64 j ∧ Hid (GreaterZ zs X.stamp j) ∧ Hid (SpSt l w wx k (.slice (some ⟨g, 0, none⟩) zs.length cap) zs) ∧ Hid (Has9 wx B X.stamp)) (fun s _ => (intOf s).toNat)
      case atStart => exact ⟨zs.length, Nat.le_refl _, rfl, hgr0, hsp, H9⟩
      case round =>
        obtain ⟨j, hj, rfl, hgr, hsx, hlx⟩ := hrel
        clear hsp hgr0 H9
        have hrx := (unhide hsx).2.1
        obtain ⟨hnc, hcm, hgl⟩ := zcap hrx
        obtain ⟨p9, hB9⟩ := unhide hlx
        have p9' := cell_grown (a := ⟨B, 9, none⟩) hB9 p9
        clear p9
        have exitH : Hid ((∀ (hi : j - 1 < zs.length), j = 0 ∨ zs[j - 1] ≤ X.stamp) → Once (stI (l.take (k + 1))) (zs.take j ++ X.stamp :: zs.drop j)) := hide (fun hi => by rw [unhide HD]; exact (unhide hsx).1.put (unhide HNX) hj (unhide hgr) hi)
        by_cases hj0 : 0 < j
        · obtain ⟨jp, rfl⟩ : ∃ q, j = q + 1 := ⟨j - 1, by omega⟩
          have hjp : jp < zs.length := by omega
          have zj : decide (((jp + 1 : Nat) : Int) > 0) = true := decide_eq_true (by omega)
          have zj' : decide ((jp : Int) + 1 > 0) = true := decide_eq_true (by omega)
          have zj2 : (0 : Int) < (jp : Int) + 1 := by omega
          have cz := cell_grown (a := ⟨g, jp, none⟩) hgl (zcellZ hrx jp hjp)
          have HGJ : Hid (X.stamp < zs[jp] → GreaterZ zs X.stamp jp) := hide (fun h i hi hle => by
            by_cases e : i = jp
            · subst e; exact h
            · exact unhide hgr i hi (by omega))
          have HLJ : Hid (¬ X.stamp < zs[jp] → ∀ (hi : jp + 1 - 1 < zs.length), jp + 1 = 0 ∨ zs[jp + 1 - 1] ≤ X.stamp) := hide (fun h hi => Or.inr (by simpa using h))
          generalize zs[jp] = Z at *
          have f1 : (0 : Int) ≤ (jp : Int) := by omega
          have f0 : IntKind.i64.wrap (jp : Int) = (jp : Int) := by rw [IntKind.wrap_i64]; omega
          have f2 : (jp : Int) < (zs.length : Int) := by omega
          have f3 : ((jp : Int)).toNat = jp := by omega
          have mixed : Try.prog.follows .mixedOrders = true := by kernel_rfl
          have HJ := hide hj
          clear hgr hjp hj0 hj
          go_wp2_with fail
          by_cases hYZ : X.stamp < Z
          · have zz : decide (Z > X.stamp) = true := decide_eq_true hYZ
            have zz' : decide (X.stamp < Z) = true := decide_eq_true hYZ
            go_quiet_grown (fail)
            have HS := hide ((unhide hsx).grown nq osq)
            have HL2 := hide ((unhide hlx).keep (zgrown (Below.refl _ _) (Nat.le_refl _) nq osq))
            generalize grow (wr.drewN nq) osq = w2 at *
            have HG := hide (unhide HGJ hYZ)
            clear hsx exitH HGJ HLJ hrx cz p9' hYZ zz zz' hlx
            go_wp2
            go_roundw
            case rel => exact ⟨jp, by omega, rfl, HG, HS, HL2⟩
            case measure => simp [intOf]
          · have zz : decide (Z > X.stamp) = false := decide_eq_false hYZ
            have zz' : decide (X.stamp < Z) = false := decide_eq_false hYZ
            go_quiet_grown (fail)
            have HS := hide ((unhide hsx).grown nq osq)
            have HL2 := hide ((unhide hlx).keep (zgrown (Below.refl _ _) (Nat.le_refl _) nq osq))
            generalize grow (wr.drewN nq) osq = w2 at *
            have HP := hide (unhide exitH (unhide HLJ (by omega)))
            clear hsx exitH HGJ HLJ hrx cz p9' hYZ zz zz' hlx
            have hj : jp + 1 ≤ zs.length := unhide HJ
            have hrow := (unhide HS).2.1
            obtain ⟨hnc2, hcm2, hgl2'⟩ := zcap hrow
            have hgl := hgl2'
            obtain ⟨HP1, _, HP3, HP4⟩ := row_parts (k := (jp + 1)) hrow hj
            obtain ⟨ad0, nd0, cd0, had0, hnd0, hcd0⟩ : ∃ (ad : Addr) (n0 c0 : Nat), ad = (if cap = (jp + 1) then (⟨g, 0, none⟩ : Addr) else ⟨g, (jp + 1) * 1, none⟩) ∧ n0 = zs.length - (jp + 1) ∧ c0 = cap - (jp + 1) := ⟨_, _, _, rfl, rfl, rfl⟩
            have HP2 := row_parts2 (k := (jp + 1)) hrow hj (by omega)
            rw [← had0] at HP2
            rw [← hnd0] at HP4
            have hgl2 : ad0.block < w2.heap.size := by rw [had0]; split <;> exact hgl
            have HA0D := hide had0
            have HN0D := hide hnd0
            have HC0D := hide hcd0
            have hnd1 : (jp + 1) + nd0 = zs.length := by omega
            have HND := hide hnd1
            have hnd2 : nd0 ≤ zs.length := by omega
            clear had0 hnd0 hcd0 hnd1
            have hle2 : w.heap.size ≤ w2.heap.size := (unhide HS).2.2.size
            go_wp2_with fail
            refine wp_region_held_drew (S := fun w' => Below w2.heap.size w2 w') (by kernel_rfl) (Below.drew (Below.refl _ _)) (fun hHeld => ?_)
            refine wpAnyH_take (i := 1) (oi := ?oo36) (v := ?vv36) ?hi36 (by kernel_rfl) (by kernel_rfl) (by kernel_rfl) ?hQ36 ?hy36 (by assumption) ?rest36
            case hi36 => (simp only [List.getElem?_toArray, List.getElem?_cons_zero, List.getElem?_cons_succ]; rfl)
            case hQ36 => exact fun _ _ _ h => h
            case hy36 => exact Or.inl ⟨by rfl, by intro wS hSw; (try dsimp only at hSw); go_simp; try first | (with_reducible rfl) | (simp only [*]; done) | omega⟩
            try simp only [Act.put, List.setIfInBounds_toArray, List.set_cons_zero, List.set_cons_succ]
            refine wpAnyH_take (i := 2) (oi := ?oo37) (v := ?vv37) ?hi37 (by kernel_rfl) (by kernel_rfl) (by kernel_rfl) ?hQ37 ?hy37 (by assumption) ?rest37
            case hi37 => (simp only [List.getElem?_toArray, List.getElem?_cons_zero, List.getElem?_cons_succ]; rfl)
            case hQ37 => exact fun _ _ _ h => h
            case hy37 => exact Or.inl ⟨by rfl, by intro wS hSw; (try dsimp only at hSw); go_simp; try first | (with_reducible rfl) | (simp only [*]; done) | omega⟩
            try simp only [Act.put, List.setIfInBounds_toArray, List.set_cons_zero, List.set_cons_succ]
            refine wpAnyH_take (i := 3) (oi := ?oo38) (v := ?vv38) ?hi38 (by kernel_rfl) (by kernel_rfl) (by kernel_rfl) ?hQ38 ?hy38 (by assumption) ?rest38
            case hi38 => (simp only [List.getElem?_toArray, List.getElem?_cons_zero, List.getElem?_cons_succ]; rfl)
            case hQ38 => exact fun _ _ _ h => h
            case hy38 => exact Or.inl ⟨by rfl, by intro wS hSw; (try dsimp only at hSw); go_simp; (try rw [if_pos (by omega)]); (try rw [if_pos (by omega)]); (try rfl)⟩
            try simp only [Act.put, List.setIfInBounds_toArray, List.set_cons_zero, List.set_cons_succ]
            refine wpAnyH_take (i := 5) (oi := ?oo39) (v := ?vv39) ?hi39 (by kernel_rfl) (by kernel_rfl) (by kernel_rfl) ?hQ39 ?hy39 (by assumption) ?rest39
            case hi39 => (simp only [List.getElem?_toArray, List.getElem?_cons_zero, List.getElem?_cons_succ]; rfl)
            case hQ39 => exact fun _ _ _ h => h
            case hy39 => exact Or.inl ⟨by rfl, by intro wS hSw; (try dsimp only at hSw); go_simp; try first | (with_reducible rfl) | (simp only [*]; done) | omega⟩
            try simp only [Act.put, List.setIfInBounds_toArray, List.set_cons_zero, List.set_cons_succ]
            refine wpAnyH_take (i := 6) (oi := ?oo40) (v := .int .i64 X.stamp) ?hi40 (by kernel_rfl) (by kernel_rfl) (by kernel_rfl) ?hQ40 ?hy40 (by assumption) ?rest40
            case hi40 => (simp only [List.getElem?_toArray, List.getElem?_cons_zero, List.getElem?_cons_succ]; rfl)
            case hQ40 => exact fun _ _ _ h => h
            case hy40 => exact yld_cell (by rfl) _ _ rfl _ _ rfl _ (fun w' hS => ((unhide HL2).keep hS).1) plainInt
            try simp only [Act.put, List.setIfInBounds_toArray, List.set_cons_zero, List.set_cons_succ]
            refine wpAnyH_take (i := 9) (oi := ?oo41) (v := ?vv41) ?hi41 (by kernel_rfl) (by kernel_rfl) (by kernel_rfl) ?hQ41 ?hy41 (by assumption) ?rest41
            case hi41 => (simp only [List.getElem?_toArray, List.getElem?_cons_zero, List.getElem?_cons_succ]; rfl)
            case hQ41 => exact fun _ _ _ h => h
            case hy41 => exact Or.inl ⟨by rfl, by intro wS hSw; (try dsimp only at hSw); go_simp; try first | (with_reducible rfl) | (simp only [*]; done) | omega⟩
            try simp only [Act.put, List.setIfInBounds_toArray, List.set_cons_zero, List.set_cons_succ]
            refine wpAnyH_take (i := 10) (oi := ?oo42) (v := ?vv42) ?hi42 (by kernel_rfl) (by kernel_rfl) (by kernel_rfl) ?hQ42 ?hy42 (by assumption) ?rest42
            case hi42 => (simp only [List.getElem?_toArray, List.getElem?_cons_zero, List.getElem?_cons_succ]; rfl)
            case hQ42 => exact fun _ _ _ h => h
            case hy42 => exact Or.inl ⟨by rfl, by intro wS hSw; (try dsimp only at hSw); go_simp; try first | (with_reducible rfl) | (simp only [*]; done) | omega⟩
            try simp only [Act.put, List.setIfInBounds_toArray, List.set_cons_zero, List.set_cons_succ]
            refine wpAnyH_take (i := 11) (oi := ?oo43) (v := .slice (some ad0) nd0 cd0) ?hi43 (by kernel_rfl) (by kernel_rfl) (by kernel_rfl) ?hQ43 ?hy43 (by assumption) ?rest43
            case hi43 => (simp only [List.getElem?_toArray, List.getElem?_cons_zero, List.getElem?_cons_succ]; rfl)
            case hQ43 => exact fun _ _ _ h => h
            case hy43 => exact Or.inl ⟨by rfl, by intro wS hSw; (try dsimp only at hSw); go_simp; (try rw [if_pos (by omega)]); (try rw [if_pos (by omega)]); (rw [unhide HA0D, unhide HN0D, unhide HC0D]); (split <;> simp_all)⟩
            try simp only [Act.put, List.setIfInBounds_toArray, List.set_cons_zero, List.set_cons_succ]
            refine wpAnyH_ready (rs := [0, 7]) (by kernel_rfl) (by simp) ?_
            refine (AllReadyH.cons (o := ?bo44n0) ?bh44n0 (fun K hK => ?br44n0) (AllReadyH.cons (o := ?bo44n7) ?bh44n7 (fun K hK => ?br44n7) AllReadyH.nil))
            case bh44n0 => (simp only [List.getElem?_toArray, List.getElem?_cons_zero]; rfl)
            case bh44n7 => (simp only [List.getElem?_toArray, List.getElem?_cons_zero, List.getElem?_cons_succ]; rfl)
            case br44n0 =>
              go_simp
              have HA := InA.start (t := 3) (N := 1) hHeld
              refine hK.out _ _ (HA.bel) (fun hHeld => ?_)
              clear hK
              refine wpAnyH_ready (rs := [4, 7]) (by kernel_rfl) (by simp) ?_
              refine (AllReadyH.cons (o := ?bo45n4) ?bh45n4 (fun K hK => ?br45n4) (AllReadyH.cons (o := ?bo45n7) ?bh45n7 (fun K hK => ?br45n7) AllReadyH.nil))
              case bh45n4 => (simp only [List.getElem?_toArray, List.getElem?_cons_zero, List.getElem?_cons_succ]; rfl)
              case bh45n7 => (simp only [List.getElem?_toArray, List.getElem?_cons_zero, List.getElem?_cons_succ]; rfl)
              case br45n4 =>
                refine step_append2 (by rfl) (.tmp 58) (.tmp 61) 69 (by rfl) w2.heap.size 3 _ 1 8 Try.underlying69 infoI2 rfl (by decide) _ 0 _ (by rfl) HA.row ⟨g, 0, none⟩ ((jp + 1)) _ ((cellsI2 zs).take ((jp + 1) * 1)) (by rfl) HP3 (news_old HA.bel hgl HP1) (fun u hu => zone _ u (List.mem_of_mem_take hu)) (by unfold maxLen; omega) (by omega) HA.le ?_
                intro v' w' how hg hv
                have HA := HA.app how hg
                clear how hg hv
                refine hK.out _ _ (HA.bel) (fun hHeld => ?_)
                clear hK
                refine wpAnyH_ready (rs := [7]) (by kernel_rfl) (by simp) ?_
                refine (AllReadyH.cons (o := ?bo46n7) ?bh46n7 (fun K hK => ?br46n7) AllReadyH.nil)
                case bh46n7 => (simp only [List.getElem?_toArray, List.getElem?_cons_zero, List.getElem?_cons_succ]; rfl)
                case br46n7 =>
                  go_simp
                  have HN := HA.apart
                  have HA := HA.alloc (.cells #[.int .i64 X.stamp] 3)
                  have HX := InX.start hHeld #[.int .i64 X.stamp] 3
                  refine hK.out _ _ (HX.bel) (fun hHeld => ?_)
                  clear hK
                  refine wpAnyH_ready (rs := [8]) (by kernel_rfl) (by simp) ?_
                  refine (AllReadyH.cons (o := ?bo47n8) ?bh47n8 (fun K hK => ?br47n8) AllReadyH.nil)
                  case bh47n8 => (simp only [List.getElem?_toArray, List.getElem?_cons_zero, List.getElem?_cons_succ]; rfl)
                  case br47n8 =>
                    refine step_append2 (by rfl) (.tmp 62) (.tmp 65) 69 (by rfl) w2.heap.size 3 _ 1 8 Try.underlying69 infoI2 rfl (by decide) _ (0 + (jp + 1)) _ (by rfl) HA.row ⟨_, 0, none⟩ 1 1 [.int .i64 X.stamp] (by rfl) rfl HX.cell (by intro u hu; simp at hu; subst hu; rfl) (by unfold maxLen; omega) (by omega) HA.le ?_
                    intro v' w' how hg hv
                    have HA := HA.app how hg
                    clear how hg hv
                    refine hK.out _ _ (HA.bel) (fun hHeld => ?_)
                    clear hK
                    refine wpAnyH_ready (rs := [12]) (by kernel_rfl) (by simp) ?_
                    refine (AllReadyH.cons (o := ?bo48n12) ?bh48n12 (fun K hK => ?br48n12) AllReadyH.nil)
                    case bh48n12 => (simp only [List.getElem?_toArray, List.getElem?_cons_zero, List.getElem?_cons_succ]; rfl)
                    case br48n12 =>
                      refine step_append2 (by rfl) (.tmp 66) (.tmp 69) 69 (by rfl) w2.heap.size 3 _ 1 8 Try.underlying69 infoI2 rfl (by decide) _ (0 + (jp + 1) + 1) _ (by rfl) HA.row ad0 nd0 cd0 ((cellsI2 zs).drop ((jp + 1) * 1)) (by rfl) HP4 (news_old HA.bel hgl2 HP2) (fun u hu => zone _ u (List.mem_of_mem_drop hu)) (by unfold maxLen; omega) (by omega) HA.le ?_
                      intro v' w' how hg hv
                      have HA := HA.app how hg
                      clear how hg hv
                      refine hK.out _ _ (HA.bel) (fun hHeld => ?_)
                      clear hK
                      refine wpAnyH_take (i := 13) (oi := ?oo49) (v := ?vv49) ?hi49 (by kernel_rfl) (by kernel_rfl) (by kernel_rfl) ?hQ49 ?hy49 (by assumption) ?rest49
                      case hi49 => (simp only [List.getElem?_toArray, List.getElem?_cons_zero, List.getElem?_cons_succ]; rfl)
                      case hQ49 => exact fun _ _ _ h => h
                      case hy49 => exact Or.inl ⟨by rfl, by intro wS hSw; (try dsimp only at hSw); go_simp; try first | (with_reducible rfl) | (simp only [*]; done) | omega⟩
                      try simp only [Act.put, List.setIfInBounds_toArray, List.set_cons_zero, List.set_cons_succ]
                      refine wpAnyH_done (by kernel_rfl) ?_ _
                      obtain ⟨gN, cN, rfl⟩ := zform HA.row (by omega)
                      obtain ⟨hnn, hrw2, hbl2⟩ := zstep (w0 := w) hle2 HA
                      have HNN := hide hnn
                      have HSP := hide (show SpSt l w _ (k + 1) (.slice (some ⟨gN, 0, none⟩) (zs.take (jp + 1) ++ X.stamp :: zs.drop (jp + 1)).length cN) (zs.take (jp + 1) ++ X.stamp :: zs.drop (jp + 1)) from ⟨unhide HP, hrw2, bthen (unhide HS).2.2 hbl2⟩)
                      clear HA hnn hrw2 hbl2
                      go_wp2
                      go_roundw
                      case rel => exact ⟨k + 1, gN, cN, zs.take (jp + 1) ++ X.stamp :: zs.drop (jp + 1), by omega, by go_num, by rw [unhide HNN], HSP⟩
                      case measure => simp [intOf]; omega
              case br45n7 =>
                go_simp
                have hsz1 := size_of_held (B := w2.heap.size + 1) hHeld (by first | (simp; done) | rfl)
                have HN := HA.apart2 (unhide hsz1)
                have HA := HA.alloc (.cells #[.int .i64 X.stamp] 3)
                have HX := InX.start2 hHeld (unhide hsz1) #[.int .i64 X.stamp] 3
                refine hK.out _ _ (HX.bel) (fun hHeld => ?_)
                clear hK
                refine wpAnyH_ready (rs := [4]) (by kernel_rfl) (by simp) ?_
                refine (AllReadyH.cons (o := ?bo50n4) ?bh50n4 (fun K hK => ?br50n4) AllReadyH.nil)
                case bh50n4 => (simp only [List.getElem?_toArray, List.getElem?_cons_zero, List.getElem?_cons_succ]; rfl)
                case br50n4 =>
                  refine step_append2 (by rfl) (.tmp 58) (.tmp 61) 69 (by rfl) w2.heap.size 3 _ 1 8 Try.underlying69 infoI2 rfl (by decide) _ 0 _ (by rfl) HA.row ⟨g, 0, none⟩ ((jp + 1)) _ ((cellsI2 zs).take ((jp + 1) * 1)) (by rfl) HP3 (news_old HA.bel hgl HP1) (fun u hu => zone _ u (List.mem_of_mem_take hu)) (by unfold maxLen; omega) (by omega) HA.le ?_
                  intro v' w' how hg hv
                  have HN2 := ne_app HX HN hv
                  have HX := HX.app HA HN hg
                  have HN := HN2
                  have HA := HA.app how hg
                  clear how hg hv
                  refine hK.out _ _ (HA.bel) (fun hHeld => ?_)
                  clear hK
                  refine wpAnyH_ready (rs := [8]) (by kernel_rfl) (by simp) ?_
                  refine (AllReadyH.cons (o := ?bo51n8) ?bh51n8 (fun K hK => ?br51n8) AllReadyH.nil)
                  case bh51n8 => (simp only [List.getElem?_toArray, List.getElem?_cons_zero, List.getElem?_cons_succ]; rfl)
                  case br51n8 =>
                    refine step_append2 (by rfl) (.tmp 62) (.tmp 65) 69 (by rfl) w2.heap.size 3 _ 1 8 Try.underlying69 infoI2 rfl (by decide) _ (0 + (jp + 1)) _ (by rfl) HA.row ⟨_, 0, none⟩ 1 1 [.int .i64 X.stamp] (by rfl) rfl HX.cell (by intro u hu; simp at hu; subst hu; rfl) (by unfold maxLen; omega) (by omega) HA.le ?_
                    intro v' w' how hg hv
                    have HA := HA.app how hg
                    clear how hg hv
                    refine hK.out _ _ (HA.bel) (fun hHeld => ?_)
                    clear hK
                    refine wpAnyH_ready (rs := [12]) (by kernel_rfl) (by simp) ?_
                    refine (AllReadyH.cons (o := ?bo52n12) ?bh52n12 (fun K hK => ?br52n12) AllReadyH.nil)
                    case bh52n12 => (simp only [List.getElem?_toArray, List.getElem?_cons_zero, List.getElem?_cons_succ]; rfl)
                    case br52n12 =>
                      refine step_append2 (by rfl) (.tmp 66) (.tmp 69) 69 (by rfl) w2.heap.size 3 _ 1 8 Try.underlying69 infoI2 rfl (by decide) _ (0 + (jp + 1) + 1) _ (by rfl) HA.row ad0 nd0 cd0 ((cellsI2 zs).drop ((jp + 1) * 1)) (by rfl) HP4 (news_old HA.bel hgl2 HP2) (fun u hu => zone _ u (List.mem_of_mem_drop hu)) (by unfold maxLen; omega) (by omega) HA.le ?_
                      intro v' w' how hg hv
                      have HA := HA.app how hg
                      clear how hg hv
                      refine hK.out _ _ (HA.bel) (fun hHeld => ?_)
                      clear hK
                      refine wpAnyH_take (i := 13) (oi := ?oo53) (v := ?vv53) ?hi53 (by kernel_rfl) (by kernel_rfl) (by kernel_rfl) ?hQ53 ?hy53 (by assumption) ?rest53
                      case hi53 => (simp only [List.getElem?_toArray, List.getElem?_cons_zero, List.getElem?_cons_succ]; rfl)
                      case hQ53 => exact fun _ _ _ h => h
                      case hy53 => exact Or.inl ⟨by rfl, by intro wS hSw; (try dsimp only at hSw); go_simp; try first | (with_reducible rfl) | (simp only [*]; done) | omega⟩
                      try simp only [Act.put, List.setIfInBounds_toArray, List.set_cons_zero, List.set_cons_succ]
                      refine wpAnyH_done (by kernel_rfl) ?_ _
                      obtain ⟨gN, cN, rfl⟩ := zform HA.row (by omega)
                      obtain ⟨hnn, hrw2, hbl2⟩ := zstep (w0 := w) hle2 HA
                      have HNN := hide hnn
                      have HSP := hide (show SpSt l w _ (k + 1) (.slice (some ⟨gN, 0, none⟩) (zs.take (jp + 1) ++ X.stamp :: zs.drop (jp + 1)).length cN) (zs.take (jp + 1) ++ X.stamp :: zs.drop (jp + 1)) from ⟨unhide HP, hrw2, bthen (unhide HS).2.2 hbl2⟩)
                      clear HA hnn hrw2 hbl2
                      go_wp2
                      go_roundw
                      case rel => exact ⟨k + 1, gN, cN, zs.take (jp + 1) ++ X.stamp :: zs.drop (jp + 1), by omega, by go_num, by rw [unhide HNN], HSP⟩
                      case measure => simp [intOf]; omega
            case br44n7 =>
              go_simp
              have HX := InX.start hHeld #[.int .i64 X.stamp] 3
              refine hK.out _ _ (HX.bel) (fun hHeld => ?_)
              clear hK
              refine wpAnyH_ready (rs := [0]) (by kernel_rfl) (by simp) ?_
              refine (AllReadyH.cons (o := ?bo54n0) ?bh54n0 (fun K hK => ?br54n0) AllReadyH.nil)
              case bh54n0 => (simp only [List.getElem?_toArray, List.getElem?_cons_zero]; rfl)
              case br54n0 =>
                go_simp
                have hsz1 := size_of_held (B := w2.heap.size + 1) hHeld (by first | (simp; done) | rfl)
                have HA := InA.start2 (t := 3) (N := 1) hHeld (unhide hsz1)
                have HN := HX.apart2 (unhide hsz1)
                have HX := HX.alloc (.cells #[] 3)
                refine hK.out _ _ (HA.bel) (fun hHeld => ?_)
                clear hK
                refine wpAnyH_ready (rs := [4]) (by kernel_rfl) (by simp) ?_
                refine (AllReadyH.cons (o := ?bo55n4) ?bh55n4 (fun K hK => ?br55n4) AllReadyH.nil)
                case bh55n4 => (simp only [List.getElem?_toArray, List.getElem?_cons_zero, List.getElem?_cons_succ]; rfl)
                case br55n4 =>
                  refine step_append2 (by rfl) (.tmp 58) (.tmp 61) 69 (by rfl) w2.heap.size 3 _ 1 8 Try.underlying69 infoI2 rfl (by decide) _ 0 _ (by rfl) HA.row ⟨g, 0, none⟩ ((jp + 1)) _ ((cellsI2 zs).take ((jp + 1) * 1)) (by rfl) HP3 (news_old HA.bel hgl HP1) (fun u hu => zone _ u (List.mem_of_mem_take hu)) (by unfold maxLen; omega) (by omega) HA.le ?_
                  intro v' w' how hg hv
                  have HN2 := ne_app HX HN hv
                  have HX := HX.app HA HN hg
                  have HN := HN2
                  have HA := HA.app how hg
                  clear how hg hv
                  refine hK.out _ _ (HA.bel) (fun hHeld => ?_)
                  clear hK
                  refine wpAnyH_ready (rs := [8]) (by kernel_rfl) (by simp) ?_
                  refine (AllReadyH.cons (o := ?bo56n8) ?bh56n8 (fun K hK => ?br56n8) AllReadyH.nil)
                  case bh56n8 => (simp only [List.getElem?_toArray, List.getElem?_cons_zero, List.getElem?_cons_succ]; rfl)
                  case br56n8 =>
                    refine step_append2 (by rfl) (.tmp 62) (.tmp 65) 69 (by rfl) w2.heap.size 3 _ 1 8 Try.underlying69 infoI2 rfl (by decide) _ (0 + (jp + 1)) _ (by rfl) HA.row ⟨_, 0, none⟩ 1 1 [.int .i64 X.stamp] (by rfl) rfl HX.cell (by intro u hu; simp at hu; subst hu; rfl) (by unfold maxLen; omega) (by omega) HA.le ?_
                    intro v' w' how hg hv
                    have HA := HA.app how hg
                    clear how hg hv
                    refine hK.out _ _ (HA.bel) (fun hHeld => ?_)
                    clear hK
                    refine wpAnyH_ready (rs := [12]) (by kernel_rfl) (by simp) ?_
                    refine (AllReadyH.cons (o := ?bo57n12) ?bh57n12 (fun K hK => ?br57n12) AllReadyH.nil)
                    case bh57n12 => (simp only [List.getElem?_toArray, List.getElem?_cons_zero, List.getElem?_cons_succ]; rfl)
                    case br57n12 =>
                      refine step_append2 (by rfl) (.tmp 66) (.tmp 69) 69 (by rfl) w2.heap.size 3 _ 1 8 Try.underlying69 infoI2 rfl (by decide) _ (0 + (jp + 1) + 1) _ (by rfl) HA.row ad0 nd0 cd0 ((cellsI2 zs).drop ((jp + 1) * 1)) (by rfl) HP4 (news_old HA.bel hgl2 HP2) (fun u hu => zone _ u (List.mem_of_mem_drop hu)) (by unfold maxLen; omega) (by omega) HA.le ?_
                      intro v' w' how hg hv
                      have HA := HA.app how hg
                      clear how hg hv
                      refine hK.out _ _ (HA.bel) (fun hHeld => ?_)
                      clear hK
                      refine wpAnyH_take (i := 13) (oi := ?oo58) (v := ?vv58) ?hi58 (by kernel_rfl) (by kernel_rfl) (by kernel_rfl) ?hQ58 ?hy58 (by assumption) ?rest58
                      case hi58 => (simp only [List.getElem?_toArray, List.getElem?_cons_zero, List.getElem?_cons_succ]; rfl)
                      case hQ58 => exact fun _ _ _ h => h
                      case hy58 => exact Or.inl ⟨by rfl, by intro wS hSw; (try dsimp only at hSw); go_simp; try first | (with_reducible rfl) | (simp only [*]; done) | omega⟩
                      try simp only [Act.put, List.setIfInBounds_toArray, List.set_cons_zero, List.set_cons_succ]
                      refine wpAnyH_done (by kernel_rfl) ?_ _
                      obtain ⟨gN, cN, rfl⟩ := zform HA.row (by omega)
                      obtain ⟨hnn, hrw2, hbl2⟩ := zstep (w0 := w) hle2 HA
                      have HNN := hide hnn
                      have HSP := hide (show SpSt l w _ (k + 1) (.slice (some ⟨gN, 0, none⟩) (zs.take (jp + 1) ++ X.stamp :: zs.drop (jp + 1)).length cN) (zs.take (jp + 1) ++ X.stamp :: zs.drop (jp + 1)) from ⟨unhide HP, hrw2, bthen (unhide HS).2.2 hbl2⟩)
                      clear HA hnn hrw2 hbl2
                      go_wp2
                      go_roundw
                      case rel => exact ⟨k + 1, gN, cN, zs.take (jp + 1) ++ X.stamp :: zs.drop (jp + 1), by omega, by go_num, by rw [unhide HNN], HSP⟩
                      case measure => simp [intOf]; omega
        · have hj1 : j = 0 := by omega
          subst hj1
          have HP := hide (unhide exitH (fun _ => Or.inl rfl))
          clear exitH hrx p9'
          go_wp2_with fail
          refine wp_region_held_drew (S := fun w' => Below wr.heap.size wr w') (by kernel_rfl) (Below.drew (Below.refl _ _)) (fun hHeld => ?_)
          refine wpAnyH_take (i := 0) (oi := ?oo1) (v := ?vv1) ?hi1 (by kernel_rfl) (by kernel_rfl) (by kernel_rfl) ?hQ1 ?hy1 (by assumption) ?rest1
          case hi1 => (simp only [List.getElem?_toArray, List.getElem?_cons_zero]; rfl)
          case hQ1 => exact fun _ _ _ h => h
          case hy1 => exact Or.inl ⟨by rfl, by intro wS hSw; (try dsimp only at hSw); go_simp; try first | (with_reducible rfl) | (simp only [*]; done) | omega⟩
          try simp only [Act.put, List.setIfInBounds_toArray, List.set_cons_zero, List.set_cons_succ]
          refine wpAnyH_take (i := 1) (oi := ?oo2) (v := ?vv2) ?hi2 (by kernel_rfl) (by kernel_rfl) (by kernel_rfl) ?hQ2 ?hy2 (by assumption) ?rest2
          case hi2 => (simp only [List.getElem?_toArray, List.getElem?_cons_zero, List.getElem?_cons_succ]; rfl)
          case hQ2 => exact fun _ _ _ h => h
          case hy2 => exact Or.inl ⟨by rfl, by intro wS hSw; (try dsimp only at hSw); go_simp; try first | (with_reducible rfl) | (simp only [*]; done) | omega⟩
          try simp only [Act.put, List.setIfInBounds_toArray, List.set_cons_zero, List.set_cons_succ]
          refine wpAnyH_take (i := 2) (oi := ?oo3) (v := ?vv3) ?hi3 (by kernel_rfl) (by kernel_rfl) (by kernel_rfl) ?hQ3 ?hy3 (by assumption) ?rest3
          case hi3 => (simp only [List.getElem?_toArray, List.getElem?_cons_zero, List.getElem?_cons_succ]; rfl)
          case hQ3 => exact fun _ _ _ h => h
          case hy3 => exact Or.inl ⟨by rfl, by intro wS hSw; (try dsimp only at hSw); go_simp; try first | (with_reducible rfl) | (simp only [*]; done) | omega⟩
          try simp only [Act.put, List.setIfInBounds_toArray, List.set_cons_zero, List.set_cons_succ]
          refine wpAnyH_take (i := 3) (oi := ?oo4) (v := undef) ?hi4 (by kernel_rfl) (by kernel_rfl) (by kernel_rfl) ?hQ4 ?hy4 (by assumption) ?rest4
          case hi4 => (simp only [List.getElem?_toArray, List.getElem?_cons_zero, List.getElem?_cons_succ]; rfl)
          case hQ4 => exact fun _ _ _ h => h
          case hy4 => exact Or.inr ⟨by rfl, rfl⟩
          try simp only [Act.put, List.setIfInBounds_toArray, List.set_cons_zero, List.set_cons_succ]
          refine wpAnyH_take (i := 4) (oi := ?oo5) (v := undef) ?hi5 (by kernel_rfl) (by kernel_rfl) (by kernel_rfl) ?hQ5 ?hy5 (by assumption) ?rest5
          case hi5 => (simp only [List.getElem?_toArray, List.getElem?_cons_zero, List.getElem?_cons_succ]; rfl)
          case hQ5 => exact fun _ _ _ h => h
          case hy5 => exact Or.inr ⟨by rfl, rfl⟩
          try simp only [Act.put, List.setIfInBounds_toArray, List.set_cons_zero, List.set_cons_succ]
          refine wpAnyH_take (i := 5) (oi := ?oo6) (v := undef) ?hi6 (by kernel_rfl) (by kernel_rfl) (by kernel_rfl) ?hQ6 ?hy6 (by assumption) ?rest6
          case hi6 => (simp only [List.getElem?_toArray, List.getElem?_cons_zero, List.getElem?_cons_succ]; rfl)
          case hQ6 => exact fun _ _ _ h => h
          case hy6 => exact Or.inr ⟨by rfl, rfl⟩
          try simp only [Act.put, List.setIfInBounds_toArray, List.set_cons_zero, List.set_cons_succ]
          refine wpAnyH_take (i := 6) (oi := ?oo7) (v := undef) ?hi7 (by kernel_rfl) (by kernel_rfl) (by kernel_rfl) ?hQ7 ?hy7 (by assumption) ?rest7
          case hi7 => (simp only [List.getElem?_toArray, List.getElem?_cons_zero, List.getElem?_cons_succ]; rfl)
          case hQ7 => exact fun _ _ _ h => h
          case hy7 => exact Or.inr ⟨by rfl, rfl⟩
          try simp only [Act.put, List.setIfInBounds_toArray, List.set_cons_zero, List.set_cons_succ]
          refine wpAnyH_take (i := 7) (oi := ?oo8) (v := undef) ?hi8 (by kernel_rfl) (by kernel_rfl) (by kernel_rfl) ?hQ8 ?hy8 (by assumption) ?rest8
          case hi8 => (simp only [List.getElem?_toArray, List.getElem?_cons_zero, List.getElem?_cons_succ]; rfl)
          case hQ8 => exact fun _ _ _ h => h
          case hy8 => exact Or.inr ⟨by rfl, rfl⟩
          try simp only [Act.put, List.setIfInBounds_toArray, List.set_cons_zero, List.set_cons_succ]
          refine wpAnyH_take (i := 8) (oi := ?oo9) (v := undef) ?hi9 (by kernel_rfl) (by kernel_rfl) (by kernel_rfl) ?hQ9 ?hy9 (by assumption) ?rest9
          case hi9 => (simp only [List.getElem?_toArray, List.getElem?_cons_zero, List.getElem?_cons_succ]; rfl)
          case hQ9 => exact fun _ _ _ h => h
          case hy9 => exact Or.inr ⟨by rfl, rfl⟩
          try simp only [Act.put, List.setIfInBounds_toArray, List.set_cons_zero, List.set_cons_succ]
          refine wpAnyH_take (i := 9) (oi := ?oo10) (v := undef) ?hi10 (by kernel_rfl) (by kernel_rfl) (by kernel_rfl) ?hQ10 ?hy10 (by assumption) ?rest10
          case hi10 => (simp only [List.getElem?_toArray, List.getElem?_cons_zero, List.getElem?_cons_succ]; rfl)
          case hQ10 => exact fun _ _ _ h => h
          case hy10 => exact Or.inr ⟨by rfl, rfl⟩
          try simp only [Act.put, List.setIfInBounds_toArray, List.set_cons_zero, List.set_cons_succ]
          refine wpAnyH_take (i := 10) (oi := ?oo11) (v := undef) ?hi11 (by kernel_rfl) (by kernel_rfl) (by kernel_rfl) ?hQ11 ?hy11 (by assumption) ?rest11
          case hi11 => (simp only [List.getElem?_toArray, List.getElem?_cons_zero, List.getElem?_cons_succ]; rfl)
          case hQ11 => exact fun _ _ _ h => h
          case hy11 => exact Or.inr ⟨by rfl, rfl⟩
          try simp only [Act.put, List.setIfInBounds_toArray, List.set_cons_zero, List.set_cons_succ]
          refine wpAnyH_take (i := 11) (oi := ?oo12) (v := ?vv12) ?hi12 (by kernel_rfl) (by kernel_rfl) (by kernel_rfl) ?hQ12 ?hy12 (by assumption) ?rest12
          case hi12 => (simp only [List.getElem?_toArray, List.getElem?_cons_zero, List.getElem?_cons_succ]; rfl)
          case hQ12 => exact fun _ _ _ h => h
          case hy12 => exact Or.inl ⟨by rfl, by intro wS hSw; (try dsimp only at hSw); go_simp; try first | (with_reducible rfl) | (simp only [*]; done) | omega⟩
          try simp only [Act.put, List.setIfInBounds_toArray, List.set_cons_zero, List.set_cons_succ]
          refine wpAnyH_done (by kernel_rfl) ?_ _
          have HS := hide ((unhide hsx).keep hHeld)
          have HL2 := hide ((unhide hlx).keep hHeld)
          clear hsx hHeld hlx
          generalize World.drew wr = w2 at *
          have hj : 0 ≤ zs.length := Nat.zero_le _
          have hrow := (unhide HS).2.1
          obtain ⟨hnc2, hcm2, hgl2'⟩ := zcap hrow
          have hgl := hgl2'
          obtain ⟨HP1, _, HP3, HP4⟩ := row_parts (k := 0) hrow hj
          obtain ⟨ad0, nd0, cd0, had0, hnd0, hcd0⟩ : ∃ (ad : Addr) (n0 c0 : Nat), ad = (if cap = 0 then (⟨g, 0, none⟩ : Addr) else ⟨g, 0 * 1, none⟩) ∧ n0 = zs.length - 0 ∧ c0 = cap - 0 := ⟨_, _, _, rfl, rfl, rfl⟩
          have HP2 := row_parts2 (k := 0) hrow hj (by omega)
          rw [← had0] at HP2
          rw [← hnd0] at HP4
          have hgl2 : ad0.block < w2.heap.size := by rw [had0]; split <;> exact hgl
          have HA0D := hide had0
          have HN0D := hide hnd0
          have HC0D := hide hcd0
          have hnd1 : 0 + nd0 = zs.length := by omega
          have HND := hide hnd1
          have hnd2 : nd0 ≤ zs.length := by omega
          clear had0 hnd0 hcd0 hnd1
          have hle2 : w.heap.size ≤ w2.heap.size := (unhide HS).2.2.size
          go_wp2_with fail
          refine wp_region_held_drew (S := fun w' => Below w2.heap.size w2 w') (by kernel_rfl) (Below.drew (Below.refl _ _)) (fun hHeld => ?_)
          refine wpAnyH_take (i := 1) (oi := ?oo13) (v := ?vv13) ?hi13 (by kernel_rfl) (by kernel_rfl) (by kernel_rfl) ?hQ13 ?hy13 (by assumption) ?rest13
          case hi13 => (simp only [List.getElem?_toArray, List.getElem?_cons_zero, List.getElem?_cons_succ]; rfl)
          case hQ13 => exact fun _ _ _ h => h
          case hy13 => exact Or.inl ⟨by rfl, by intro wS hSw; (try dsimp only at hSw); go_simp; try first | (with_reducible rfl) | (simp only [*]; done) | omega⟩
          try simp only [Act.put, List.setIfInBounds_toArray, List.set_cons_zero, List.set_cons_succ]
          refine wpAnyH_take (i := 2) (oi := ?oo14) (v := ?vv14) ?hi14 (by kernel_rfl) (by kernel_rfl) (by kernel_rfl) ?hQ14 ?hy14 (by assumption) ?rest14
          case hi14 => (simp only [List.getElem?_toArray, List.getElem?_cons_zero, List.getElem?_cons_succ]; rfl)
          case hQ14 => exact fun _ _ _ h => h
          case hy14 => exact Or.inl ⟨by rfl, by intro wS hSw; (try dsimp only at hSw); go_simp; try first | (with_reducible rfl) | (simp only [*]; done) | omega⟩
          try simp only [Act.put, List.setIfInBounds_toArray, List.set_cons_zero, List.set_cons_succ]
          refine wpAnyH_take (i := 3) (oi := ?oo15) (v := ?vv15) ?hi15 (by kernel_rfl) (by kernel_rfl) (by kernel_rfl) ?hQ15 ?hy15 (by assumption) ?rest15
          case hi15 => (simp only [List.getElem?_toArray, List.getElem?_cons_zero, List.getElem?_cons_succ]; rfl)
          case hQ15 => exact fun _ _ _ h => h
          case hy15 => exact Or.inl ⟨by rfl, by intro wS hSw; (try dsimp only at hSw); go_simp; (try rw [if_pos (by omega)]); (try rw [if_pos (by omega)]); (try rfl)⟩
          try simp only [Act.put, List.setIfInBounds_toArray, List.set_cons_zero, List.set_cons_succ]
          refine wpAnyH_take (i := 5) (oi := ?oo16) (v := ?vv16) ?hi16 (by kernel_rfl) (by kernel_rfl) (by kernel_rfl) ?hQ16 ?hy16 (by assumption) ?rest16
          case hi16 => (simp only [List.getElem?_toArray, List.getElem?_cons_zero, List.getElem?_cons_succ]; rfl)
          case hQ16 => exact fun _ _ _ h => h
          case hy16 => exact Or.inl ⟨by rfl, by intro wS hSw; (try dsimp only at hSw); go_simp; try first | (with_reducible rfl) | (simp only [*]; done) | omega⟩
          try simp only [Act.put, List.setIfInBounds_toArray, List.set_cons_zero, List.set_cons_succ]
          refine wpAnyH_take (i := 6) (oi := ?oo17) (v := .int .i64 X.stamp) ?hi17 (by kernel_rfl) (by kernel_rfl) (by kernel_rfl) ?hQ17 ?hy17 (by assumption) ?rest17
          case hi17 => (simp only [List.getElem?_toArray, List.getElem?_cons_zero, List.getElem?_cons_succ]; rfl)
          case hQ17 => exact fun _ _ _ h => h
          case hy17 => exact yld_cell (by rfl) _ _ rfl _ _ rfl _ (fun w' hS => ((unhide HL2).keep hS).1) plainInt
          try simp only [Act.put, List.setIfInBounds_toArray, List.set_cons_zero, List.set_cons_succ]
          refine wpAnyH_take (i := 9) (oi := ?oo18) (v := ?vv18) ?hi18 (by kernel_rfl) (by kernel_rfl) (by kernel_rfl) ?hQ18 ?hy18 (by assumption) ?rest18
          case hi18 => (simp only [List.getElem?_toArray, List.getElem?_cons_zero, List.getElem?_cons_succ]; rfl)
          case hQ18 => exact fun _ _ _ h => h
          case hy18 => exact Or.inl ⟨by rfl, by intro wS hSw; (try dsimp only at hSw); go_simp; try first | (with_reducible rfl) | (simp only [*]; done) | omega⟩
          try simp only [Act.put, List.setIfInBounds_toArray, List.set_cons_zero, List.set_cons_succ]
          refine wpAnyH_take (i := 10) (oi := ?oo19) (v := ?vv19) ?hi19 (by kernel_rfl) (by kernel_rfl) (by kernel_rfl) ?hQ19 ?hy19 (by assumption) ?rest19
          case hi19 => (simp only [List.getElem?_toArray, List.getElem?_cons_zero, List.getElem?_cons_succ]; rfl)
          case hQ19 => exact fun _ _ _ h => h
          case hy19 => exact Or.inl ⟨by rfl, by intro wS hSw; (try dsimp only at hSw); go_simp; try first | (with_reducible rfl) | (simp only [*]; done) | omega⟩
          try simp only [Act.put, List.setIfInBounds_toArray, List.set_cons_zero, List.set_cons_succ]
          refine wpAnyH_take (i := 11) (oi := ?oo20) (v := .slice (some ad0) nd0 cd0) ?hi20 (by kernel_rfl) (by kernel_rfl) (by kernel_rfl) ?hQ20 ?hy20 (by assumption) ?rest20
          case hi20 => (simp only [List.getElem?_toArray, List.getElem?_cons_zero, List.getElem?_cons_succ]; rfl)
          case hQ20 => exact fun _ _ _ h => h
          case hy20 => exact Or.inl ⟨by rfl, by intro wS hSw; (try dsimp only at hSw); go_simp; (try rw [if_pos (by omega)]); (try rw [if_pos (by omega)]); (rw [unhide HA0D, unhide HN0D, unhide HC0D]); (split <;> simp_all)⟩
          try simp only [Act.put, List.setIfInBounds_toArray, List.set_cons_zero, List.set_cons_succ]
          refine wpAnyH_ready (rs := [0, 7]) (by kernel_rfl) (by simp) ?_
          refine (AllReadyH.cons (o := ?bo21n0) ?bh21n0 (fun K hK => ?br21n0) (AllReadyH.cons (o := ?bo21n7) ?bh21n7 (fun K hK => ?br21n7) AllReadyH.nil))
          case bh21n0 => (simp only [List.getElem?_toArray, List.getElem?_cons_zero]; rfl)
          case bh21n7 => (simp only [List.getElem?_toArray, List.getElem?_cons_zero, List.getElem?_cons_succ]; rfl)
          case br21n0 =>
            go_simp
            have HA := InA.start (t := 3) (N := 1) hHeld
            refine hK.out _ _ (HA.bel) (fun hHeld => ?_)
            clear hK
            refine wpAnyH_ready (rs := [4, 7]) (by kernel_rfl) (by simp) ?_
            refine (AllReadyH.cons (o := ?bo22n4) ?bh22n4 (fun K hK => ?br22n4) (AllReadyH.cons (o := ?bo22n7) ?bh22n7 (fun K hK => ?br22n7) AllReadyH.nil))
            case bh22n4 => (simp only [List.getElem?_toArray, List.getElem?_cons_zero, List.getElem?_cons_succ]; rfl)
            case bh22n7 => (simp only [List.getElem?_toArray, List.getElem?_cons_zero, List.getElem?_cons_succ]; rfl)
            case br22n4 =>
              refine step_append2 (by rfl) (.tmp 58) (.tmp 61) 69 (by rfl) w2.heap.size 3 _ 1 8 Try.underlying69 infoI2 rfl (by decide) _ 0 _ (by rfl) HA.row ⟨g, 0, none⟩ (0) _ ((cellsI2 zs).take (0 * 1)) (by rfl) HP3 (news_old HA.bel hgl HP1) (fun u hu => zone _ u (List.mem_of_mem_take hu)) (by unfold maxLen; omega) (by omega) HA.le ?_
              intro v' w' how hg hv
              have HA := HA.app how hg
              clear how hg hv
              refine hK.out _ _ (HA.bel) (fun hHeld => ?_)
              clear hK
              refine wpAnyH_ready (rs := [7]) (by kernel_rfl) (by simp) ?_
              refine (AllReadyH.cons (o := ?bo23n7) ?bh23n7 (fun K hK => ?br23n7) AllReadyH.nil)
              case bh23n7 => (simp only [List.getElem?_toArray, List.getElem?_cons_zero, List.getElem?_cons_succ]; rfl)
              case br23n7 =>
                go_simp
                have HN := HA.apart
                have HA := HA.alloc (.cells #[.int .i64 X.stamp] 3)
                have HX := InX.start hHeld #[.int .i64 X.stamp] 3
                refine hK.out _ _ (HX.bel) (fun hHeld => ?_)
                clear hK
                refine wpAnyH_ready (rs := [8]) (by kernel_rfl) (by simp) ?_
                refine (AllReadyH.cons (o := ?bo24n8) ?bh24n8 (fun K hK => ?br24n8) AllReadyH.nil)
                case bh24n8 => (simp only [List.getElem?_toArray, List.getElem?_cons_zero, List.getElem?_cons_succ]; rfl)
                case br24n8 =>
                  refine step_append2 (by rfl) (.tmp 62) (.tmp 65) 69 (by rfl) w2.heap.size 3 _ 1 8 Try.underlying69 infoI2 rfl (by decide) _ (0 + 0) _ (by rfl) HA.row ⟨_, 0, none⟩ 1 1 [.int .i64 X.stamp] (by rfl) rfl HX.cell (by intro u hu; simp at hu; subst hu; rfl) (by unfold maxLen; omega) (by omega) HA.le ?_
                  intro v' w' how hg hv
                  have HA := HA.app how hg
                  clear how hg hv
                  refine hK.out _ _ (HA.bel) (fun hHeld => ?_)
                  clear hK
                  refine wpAnyH_ready (rs := [12]) (by kernel_rfl) (by simp) ?_
                  refine (AllReadyH.cons (o := ?bo25n12) ?bh25n12 (fun K hK => ?br25n12) AllReadyH.nil)
                  case bh25n12 => (simp only [List.getElem?_toArray, List.getElem?_cons_zero, List.getElem?_cons_succ]; rfl)
                  case br25n12 =>
                    refine step_append2 (by rfl) (.tmp 66) (.tmp 69) 69 (by rfl) w2.heap.size 3 _ 1 8 Try.underlying69 infoI2 rfl (by decide) _ (0 + 0 + 1) _ (by rfl) HA.row ad0 nd0 cd0 ((cellsI2 zs).drop (0 * 1)) (by rfl) HP4 (news_old HA.bel hgl2 HP2) (fun u hu => zone _ u (List.mem_of_mem_drop hu)) (by unfold maxLen; omega) (by omega) HA.le ?_
                    intro v' w' how hg hv
                    have HA := HA.app how hg
                    clear how hg hv
                    refine hK.out _ _ (HA.bel) (fun hHeld => ?_)
                    clear hK
                    refine wpAnyH_take (i := 13) (oi := ?oo26) (v := ?vv26) ?hi26 (by kernel_rfl) (by kernel_rfl) (by kernel_rfl) ?hQ26 ?hy26 (by assumption) ?rest26
                    case hi26 => (simp only [List.getElem?_toArray, List.getElem?_cons_zero, List.getElem?_cons_succ]; rfl)
                    case hQ26 => exact fun _ _ _ h => h
                    case hy26 => exact Or.inl ⟨by rfl, by intro wS hSw; (try dsimp only at hSw); go_simp; try first | (with_reducible rfl) | (simp only [*]; done) | omega⟩
                    try simp only [Act.put, List.setIfInBounds_toArray, List.set_cons_zero, List.set_cons_succ]
                    refine wpAnyH_done (by kernel_rfl) ?_ _
                    obtain ⟨gN, cN, rfl⟩ := zform HA.row (by omega)
                    obtain ⟨hnn, hrw2, hbl2⟩ := zstep (w0 := w) hle2 HA
                    have HNN := hide hnn
                    have HSP := hide (show SpSt l w _ (k + 1) (.slice (some ⟨gN, 0, none⟩) (zs.take 0 ++ X.stamp :: zs.drop 0).length cN) (zs.take 0 ++ X.stamp :: zs.drop 0) from ⟨unhide HP, hrw2, bthen (unhide HS).2.2 hbl2⟩)
                    clear HA hnn hrw2 hbl2
                    go_wp2
                    go_roundw
                    case rel => exact ⟨k + 1, gN, cN, zs.take 0 ++ X.stamp :: zs.drop 0, by omega, by go_num, by rw [unhide HNN], HSP⟩
                    case measure => simp [intOf]; omega
            case br22n7 =>
              go_simp
              have hsz1 := size_of_held (B := w2.heap.size + 1) hHeld (by first | (simp; done) | rfl)
              have HN := HA.apart2 (unhide hsz1)
              have HA := HA.alloc (.cells #[.int .i64 X.stamp] 3)
              have HX := InX.start2 hHeld (unhide hsz1) #[.int .i64 X.stamp] 3
              refine hK.out _ _ (HX.bel) (fun hHeld => ?_)
              clear hK
              refine wpAnyH_ready (rs := [4]) (by kernel_rfl) (by simp) ?_
              refine (AllReadyH.cons (o := ?bo27n4) ?bh27n4 (fun K hK => ?br27n4) AllReadyH.nil)
              case bh27n4 => (simp only [List.getElem?_toArray, List.getElem?_cons_zero, List.getElem?_cons_succ]; rfl)
              case br27n4 =>
                refine step_append2 (by rfl) (.tmp 58) (.tmp 61) 69 (by rfl) w2.heap.size 3 _ 1 8 Try.underlying69 infoI2 rfl (by decide) _ 0 _ (by rfl) HA.row ⟨g, 0, none⟩ (0) _ ((cellsI2 zs).take (0 * 1)) (by rfl) HP3 (news_old HA.bel hgl HP1) (fun u hu => zone _ u (List.mem_of_mem_take hu)) (by unfold maxLen; omega) (by omega) HA.le ?_
                intro v' w' how hg hv
                have HN2 := ne_app HX HN hv
                have HX := HX.app HA HN hg
                have HN := HN2
                have HA := HA.app how hg
                clear how hg hv
                refine hK.out _ _ (HA.bel) (fun hHeld => ?_)
                clear hK
                refine wpAnyH_ready (rs := [8]) (by kernel_rfl) (by simp) ?_
                refine (AllReadyH.cons (o := ?bo28n8) ?bh28n8 (fun K hK => ?br28n8) AllReadyH.nil)
                case bh28n8 => (simp only [List.getElem?_toArray, List.getElem?_cons_zero, List.getElem?_cons_succ]; rfl)
                case br28n8 =>
                  refine step_append2 (by rfl) (.tmp 62) (.tmp 65) 69 (by rfl) w2.heap.size 3 _ 1 8 Try.underlying69 infoI2 rfl (by decide) _ (0 + 0) _ (by rfl) HA.row ⟨_, 0, none⟩ 1 1 [.int .i64 X.stamp] (by rfl) rfl HX.cell (by intro u hu; simp at hu; subst hu; rfl) (by unfold maxLen; omega) (by omega) HA.le ?_
                  intro v' w' how hg hv
                  have HA := HA.app how hg
                  clear how hg hv
                  refine hK.out _ _ (HA.bel) (fun hHeld => ?_)
                  clear hK
                  refine wpAnyH_ready (rs := [12]) (by kernel_rfl) (by simp) ?_
                  refine (AllReadyH.cons (o := ?bo29n12) ?bh29n12 (fun K hK => ?br29n12) AllReadyH.nil)
                  case bh29n12 => (simp only [List.getElem?_toArray, List.getElem?_cons_zero, List.getElem?_cons_succ]; rfl)
                  case br29n12 =>
                    refine step_append2 (by rfl) (.tmp 66) (.tmp 69) 69 (by rfl) w2.heap.size 3 _ 1 8 Try.underlying69 infoI2 rfl (by decide) _ (0 + 0 + 1) _ (by rfl) HA.row ad0 nd0 cd0 ((cellsI2 zs).drop (0 * 1)) (by rfl) HP4 (news_old HA.bel hgl2 HP2) (fun u hu => zone _ u (List.mem_of_mem_drop hu)) (by unfold maxLen; omega) (by omega) HA.le ?_
                    intro v' w' how hg hv
                    have HA := HA.app how hg
                    clear how hg hv
                    refine hK.out _ _ (HA.bel) (fun hHeld => ?_)
                    clear hK
                    refine wpAnyH_take (i := 13) (oi := ?oo30) (v := ?vv30) ?hi30 (by kernel_rfl) (by kernel_rfl) (by kernel_rfl) ?hQ30 ?hy30 (by assumption) ?rest30
                    case hi30 => (simp only [List.getElem?_toArray, List.getElem?_cons_zero, List.getElem?_cons_succ]; rfl)
                    case hQ30 => exact fun _ _ _ h => h
                    case hy30 => exact Or.inl ⟨by rfl, by intro wS hSw; (try dsimp only at hSw); go_simp; try first | (with_reducible rfl) | (simp only [*]; done) | omega⟩
                    try simp only [Act.put, List.setIfInBounds_toArray, List.set_cons_zero, List.set_cons_succ]
                    refine wpAnyH_done (by kernel_rfl) ?_ _
                    obtain ⟨gN, cN, rfl⟩ := zform HA.row (by omega)
                    obtain ⟨hnn, hrw2, hbl2⟩ := zstep (w0 := w) hle2 HA
                    have HNN := hide hnn
                    have HSP := hide (show SpSt l w _ (k + 1) (.slice (some ⟨gN, 0, none⟩) (zs.take 0 ++ X.stamp :: zs.drop 0).length cN) (zs.take 0 ++ X.stamp :: zs.drop 0) from ⟨unhide HP, hrw2, bthen (unhide HS).2.2 hbl2⟩)
                    clear HA hnn hrw2 hbl2
                    go_wp2
                    go_roundw
                    case rel => exact ⟨k + 1, gN, cN, zs.take 0 ++ X.stamp :: zs.drop 0, by omega, by go_num, by rw [unhide HNN], HSP⟩
                    case measure => simp [intOf]; omega
          case br21n7 =>
            go_simp
            have HX := InX.start hHeld #[.int .i64 X.stamp] 3
            refine hK.out _ _ (HX.bel) (fun hHeld => ?_)
            clear hK
            refine wpAnyH_ready (rs := [0]) (by kernel_rfl) (by simp) ?_
            refine (AllReadyH.cons (o := ?bo31n0) ?bh31n0 (fun K hK => ?br31n0) AllReadyH.nil)
            case bh31n0 => (simp only [List.getElem?_toArray, List.getElem?_cons_zero]; rfl)
            case br31n0 =>
              go_simp
              have hsz1 := size_of_held (B := w2.heap.size + 1) hHeld (by first | (simp; done) | rfl)
              have HA := InA.start2 (t := 3) (N := 1) hHeld (unhide hsz1)
              have HN := HX.apart2 (unhide hsz1)
              have HX := HX.alloc (.cells #[] 3)
              refine hK.out _ _ (HA.bel) (fun hHeld => ?_)
              clear hK
              refine wpAnyH_ready (rs := [4]) (by kernel_rfl) (by simp) ?_
              refine (AllReadyH.cons (o := ?bo32n4) ?bh32n4 (fun K hK => ?br32n4) AllReadyH.nil)
              case bh32n4 => (simp only [List.getElem?_toArray, List.getElem?_cons_zero, List.getElem?_cons_succ]; rfl)
              case br32n4 =>
                refine step_append2 (by rfl) (.tmp 58) (.tmp 61) 69 (by rfl) w2.heap.size 3 _ 1 8 Try.underlying69 infoI2 rfl (by decide) _ 0 _ (by rfl) HA.row ⟨g, 0, none⟩ (0) _ ((cellsI2 zs).take (0 * 1)) (by rfl) HP3 (news_old HA.bel hgl HP1) (fun u hu => zone _ u (List.mem_of_mem_take hu)) (by unfold maxLen; omega) (by omega) HA.le ?_
                intro v' w' how hg hv
                have HN2 := ne_app HX HN hv
                have HX := HX.app HA HN hg
                have HN := HN2
                have HA := HA.app how hg
                clear how hg hv
                refine hK.out _ _ (HA.bel) (fun hHeld => ?_)
                clear hK
                refine wpAnyH_ready (rs := [8]) (by kernel_rfl) (by simp) ?_
                refine (AllReadyH.cons (o := ?bo33n8) ?bh33n8 (fun K hK => ?br33n8) AllReadyH.nil)
                case bh33n8 => (simp only [List.getElem?_toArray, List.getElem?_cons_zero, List.getElem?_cons_succ]; rfl)
                case br33n8 =>
                  refine step_append2 (by rfl) (.tmp 62) (.tmp 65) 69 (by rfl) w2.heap.size 3 _ 1 8 Try.underlying69 infoI2 rfl (by decide) _ (0 + 0) _ (by rfl) HA.row ⟨_, 0, none⟩ 1 1 [.int .i64 X.stamp] (by rfl) rfl HX.cell (by intro u hu; simp at hu; subst hu; rfl) (by unfold maxLen; omega) (by omega) HA.le ?_
                  intro v' w' how hg hv
                  have HA := HA.app how hg
                  clear how hg hv
                  refine hK.out _ _ (HA.bel) (fun hHeld => ?_)
                  clear hK
                  refine wpAnyH_ready (rs := [12]) (by kernel_rfl) (by simp) ?_
                  refine (AllReadyH.cons (o := ?bo34n12) ?bh34n12 (fun K hK => ?br34n12) AllReadyH.nil)
                  case bh34n12 => (simp only [List.getElem?_toArray, List.getElem?_cons_zero, List.getElem?_cons_succ]; rfl)
                  case br34n12 =>
                    refine step_append2 (by rfl) (.tmp 66) (.tmp 69) 69 (by rfl) w2.heap.size 3 _ 1 8 Try.underlying69 infoI2 rfl (by decide) _ (0 + 0 + 1) _ (by rfl) HA.row ad0 nd0 cd0 ((cellsI2 zs).drop (0 * 1)) (by rfl) HP4 (news_old HA.bel hgl2 HP2) (fun u hu => zone _ u (List.mem_of_mem_drop hu)) (by unfold maxLen; omega) (by omega) HA.le ?_
                    intro v' w' how hg hv
                    have HA := HA.app how hg
                    clear how hg hv
                    refine hK.out _ _ (HA.bel) (fun hHeld => ?_)
                    clear hK
                    refine wpAnyH_take (i := 13) (oi := ?oo35) (v := ?vv35) ?hi35 (by kernel_rfl) (by kernel_rfl) (by kernel_rfl) ?hQ35 ?hy35 (by assumption) ?rest35
                    case hi35 => (simp only [List.getElem?_toArray, List.getElem?_cons_zero, List.getElem?_cons_succ]; rfl)
                    case hQ35 => exact fun _ _ _ h => h
                    case hy35 => exact Or.inl ⟨by rfl, by intro wS hSw; (try dsimp only at hSw); go_simp; try first | (with_reducible rfl) | (simp only [*]; done) | omega⟩
                    try simp only [Act.put, List.setIfInBounds_toArray, List.set_cons_zero, List.set_cons_succ]
                    refine wpAnyH_done (by kernel_rfl) ?_ _
                    obtain ⟨gN, cN, rfl⟩ := zform HA.row (by omega)
                    obtain ⟨hnn, hrw2, hbl2⟩ := zstep (w0 := w) hle2 HA
                    have HNN := hide hnn
                    have HSP := hide (show SpSt l w _ (k + 1) (.slice (some ⟨gN, 0, none⟩) (zs.take 0 ++ X.stamp :: zs.drop 0).length cN) (zs.take 0 ++ X.stamp :: zs.drop 0) from ⟨unhide HP, hrw2, bthen (unhide HS).2.2 hbl2⟩)
                    clear HA hnn hrw2 hbl2
                    go_wp2
                    go_roundw
                    case rel => exact ⟨k + 1, gN, cN, zs.take 0 ++ X.stamp :: zs.drop 0, by omega, by go_num, by rw [unhide HNN], HSP⟩
                    case measure => simp [intOf]; omega
    · have hki : ¬ (k : Int) < (l.length : Int) := by omega
      obtain rfl : k = l.length := by omega
      have HE := (unhide hsp).1.is
      rw [List.take_length] at HE
      have h3 := (unhide hsp).2.1
      have h4 := (unhide hsp).2.2
      subst HE
      have hc1 := st_cnt l b0
      have HR := hide (And.intro (ints_done h3 (by unfold stZ at hc1; omega)) h4)
      clear hsp h3 h4
      go_wp2
      go_ret
      exact ⟨_, rfl, (unhide HR).1, (unhide HR).2⟩
end Go.Proofs.Ytopngelgpfjdeaa
