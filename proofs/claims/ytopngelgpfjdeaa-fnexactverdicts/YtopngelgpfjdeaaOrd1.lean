/-
  Order of the specification: one after another is put where it belongs.
-/
import Derived.Test.YtopngelgpfjdeaaOrd0
import Derived.Test.YtopngelgpfjdeaaIns0
import Derived.Deep.CutRange
import Derived.Shelf.SlSortCmp.QuietGrown
namespace Go.Proofs.Ytopngelgpfjdeaa
open Go.ChangeShapes Go.WideShapes Go.ChangeAt Go.RowKit Go.Sort
set_option linter.unusedVariables false
set_option maxRecDepth 100000

theorem below_grown2 {B : Nat} {w0 w : World} (h : Below B w0 w) (hB : B ≤ w.heap.size) (n : Nat) (os : Array Obj) : Below B w0 (grow (w.drewN n) os) :=
  h.trans ⟨rfl, rfl, rfl, by simp [grow], fun i hi => by
    show ((w.drewN n).heap ++ os)[i]? = _
    rw [Array.getElem?_append_left (by show i < w.heap.size; omega)]
    rfl⟩
theorem owns_grown {base : Nat} {w : World} {e : TypeId} {size : Nat} {v : Value} {n : Nat} {xs : List Value} (h : w.ownsRow base e size v n xs) (m : Nat) (os : Array Obj) : (grow (w.drewN m) os).ownsRow base e size v n xs :=
  owns_below h (below_grown2 (Below.refl _ _) (Nat.le_refl _) m os)
theorem zcell {base : Nat} {w : World} {g n cap : Nat} {zs : List Nat} {t : TypeId} (h : w.ownsRow base t 1 (.slice (some ⟨g, 0, none⟩) n cap) n (cellsI2 (zOf zs))) (j : Nat) (hj : j < zs.length) : w.cell? ⟨g, j, none⟩ = some (.int .i64 (zs[j] : Int)) := by
  have := h.cells (g := g) rfl j (.int .i64 (zs[j] : Int)) (by rw [cellsI2_at]; simp [zOf, hj])
  have e : (⟨g, 0, none⟩ : Addr).add j = ⟨g, j, none⟩ := by unfold Addr.add; split <;> simp_all
  rw [e] at this; exact this
theorem cellsI2_take (zs : List Nat) (k : Nat) : (cellsI2 (zOf zs)).take k = cellsI2 (zOf (zs.take k)) := by
  apply List.ext_getElem?
  intro i
  simp only [List.getElem?_take, cellsI2_at, zOf, List.getElem?_map]
  split <;> simp
theorem cellsI2_drop (zs : List Nat) (k : Nat) : (cellsI2 (zOf zs)).drop k = cellsI2 (zOf (zs.drop k)) := by
  apply List.ext_getElem?
  intro i
  simp only [List.getElem?_drop, cellsI2_at, zOf, List.getElem?_map]
theorem cellsI2_one (zs : List Int) : ∀ u ∈ cellsI2 zs, u.oneCell' = true := by
  intro u hu
  unfold cellsI2 at hu
  obtain ⟨z, _, h⟩ := List.mem_flatMap.1 hu
  simp at h; subst h; rfl
theorem cellsI2_put (zs : List Nat) (j k : Nat) : [] ++ (cellsI2 (zOf zs)).take (j * 1) ++ [.int .i64 (k : Int)] ++ (cellsI2 (zOf zs)).drop (j * 1) = cellsI2 (zOf (zs.take j ++ k :: zs.drop j)) := by
  rw [Nat.mul_one, cellsI2_take, cellsI2_drop]
  simp [cellsI2, zOf]
theorem slice_form {w : World} {base : Nat} {t : TypeId} {N n : Nat} {v : Value} {xs : List Value} (h : w.ownsRow base t N v n xs) (hn : 0 < n) : ∃ g cap, v = .slice (some ⟨g, 0, none⟩) n cap := by
  rcases h.2 with ⟨_, h2⟩ | ⟨g, cap, cur, hv, _⟩
  · omega
  · exact ⟨g, cap, hv⟩
theorem cap_le {w : World} {base : Nat} {t : TypeId} {N n g cap : Nat} {xs : List Value} (h : w.ownsRow base t N (.slice (some ⟨g, 0, none⟩) n cap) n xs) : n ≤ cap ∧ cap ≤ maxLen ∧ g < w.heap.size := by
  rcases h.2 with ⟨h2, _⟩ | ⟨g', cap', cur, hv, hb, hh, hn, hc, hs, ht⟩
  · cases h2
  injection hv with e1 e2 e3
  subst e3
  exact ⟨hn, hc, (h.lt g rfl).2⟩
theorem lin_cell {l : List DeedD} {w wr : World} {S0 : Nat → Prop} {b o m cap k : Nat} (h : LAt 20 deedR w S0 (.slice (some ⟨b, o, none⟩) m cap) l) (hb : Below w.heap.size w wr) (hk : k < l.length) : wr.cell? ⟨b, o + k * 20 + 18, none⟩ = some (.int .i64 (linA l k)) := by
  obtain ⟨b', o', cs', hbe, hbk', hSb', hcs', hin'⟩ := h.at k hk
  rw [Option.some.injEq, Addr.mk.injEq] at hbe
  obtain ⟨rfl, rfl, _⟩ := hbe
  have hcs' := deedR_keeps _ _ S0 None1 cs' _ (Below.turn hb) none_off hcs'
  have hin' := hin'.turn hbk' (Below.turn hb) (fun e => e)
  rw [linA_at l hk]; exact hin' 18 _ (deedR_c18 hcs')
def SpOrd (l : List DeedD) (w wk : World) (k : Nat) (o : Value) (zs : List Nat) : Prop := OrdK l k zs ∧ wk.ownsRow w.heap.size 3 1 o zs.length (cellsI2 (zOf zs)) ∧ Below w.heap.size w wk
theorem owns_base {base base' : Nat} {w : World} {e : TypeId} {size : Nat} {v : Value} {n : Nat} {xs : List Value} (h : w.ownsRow base e size v n xs) (hb : base' ≤ base) : w.ownsRow base' e size v n xs := by
  obtain ⟨h1, h2⟩ := h
  refine ⟨h1, ?_⟩
  rcases h2 with h2 | ⟨g, cap, cur, hv, hg, rest⟩
  · exact .inl h2
  · exact .inr ⟨g, cap, cur, hv, Nat.le_trans hb hg, rest⟩
theorem spord_step {l : List DeedD} {w w2 wk : World} {k J gN cN n : Nat} {zs : List Nat} (hP : OrdK l (k + 1) (zs.take J ++ k :: zs.drop J)) (hb : Below w.heap.size w w2)
    (hA : InA 3 1 w2 wk (.slice (some ⟨gN, 0, none⟩) n cN) n ([] ++ (cellsI2 (zOf zs)).take (J * 1) ++ [.int .i64 (k : Int)] ++ (cellsI2 (zOf zs)).drop (J * 1))) :
    n = (zs.take J ++ k :: zs.drop J).length ∧ SpOrd l w wk (k + 1) (.slice (some ⟨gN, 0, none⟩) (zs.take J ++ k :: zs.drop J).length cN) (zs.take J ++ k :: zs.drop J) := by
  have hr := hA.row
  have hbel := hA.bel
  rw [cellsI2_put] at hr
  have hn := hr.1
  rw [cellsI2_len, zOf_len, Nat.mul_one] at hn
  refine ⟨hn.symm, hP, ?_, bthen hb hbel⟩
  rw [hn]
  exact owns_base hr hb.size
def Greater (l : List DeedD) (zs : List Nat) (k j : Nat) : Prop := ∀ i (hi : i < zs.length), j ≤ i → linA l k < linA l zs[i]
set_option maxHeartbeats 2500000 in
theorem specOrder (l : List DeedD) (S0 : Nat → Prop) (v0 : Value) (w : World) (h0 : LAt 20 deedR w S0 v0 l) (b0 : bulkL deedBulk l ≤ 1048576) :
    Calls Try.prog 22 #[v0] w fun e w' => ∃ v', e = .returned v' ∧ w'.ownsRow w.heap.size 3 1 v' (ordL l).length (cellsI2 (zOf (ordL l))) ∧ Below w.heap.size w w' := by
  obtain ⟨a, cap0, rfl⟩ := h0.form
  have hlen := bulkL_len deedBulk l
  have HA0 := hide h0
  clear h0
  have how0 := hide (show SpOrd l w (w.alloc (.cells #[] 3)) 0 (.slice (some ⟨w.heap.size, 0, none⟩) 0 0) [] from ⟨OrdK.start l, World.ownsRow_made (base := w.heap.size) (e := 3) (size := 1) w #[] 0 (Nat.le_refl _) (by unfold maxLen; omega) rfl, bnew w (.cells #[] 3)⟩)
  go_enter Try.func22, Try.ntmps22
  go_wp2
  go_loopw [3, 4] (fun o i wk => ∃ (k g cap : Nat) (zs : List Nat), k ≤ l.length ∧ i = .int .i64 k ∧ o = .slice (some ⟨g, 0, none⟩) zs.length cap ∧ Hid (SpOrd l w wk k (.slice (some ⟨g, 0, none⟩) zs.length cap) zs)) (fun _ i _ => l.length - (intOf i).toNat)
  case atStart => exact ⟨0, w.heap.size, 0, [], Nat.zero_le _, rfl, rfl, how0⟩
  case round =>
    obtain ⟨k, g, cap, zs, hk, rfl, rfl, hsp⟩ := hrel
    clear how0
    by_cases hlt : k < l.length
    · have hki : (k : Int) < (l.length : Int) := by omega
      have hbl := (unhide hsp).2.2
      obtain ⟨b, o, cs, rfl, hbk, hSb, hcs, hin⟩ := (unhide HA0).at k hlt
      have hcs := deedR_keeps _ _ S0 None1 cs _ (Below.turn hbl) none_off hcs
      have hin := hin.turn hbk (Below.turn hbl) (fun e => e)
      have p18 : wr.cell? ⟨b, o + k * 20 + 18, none⟩ = some (.int .i64 l[k].lin) := hin 18 _ (deedR_c18 hcs)
      have hlin := linA_at l hlt
      have htk := tookA_at l hlt
      rw [← hlin] at p18
      unfold tookB at htk
      rw [← hlin] at htk
      have HT := hide htk
      clear hin hcs hlin htk
      by_cases e1 : linA l k = -1
      · have q1 : (linA l k == -1) = true := by simpa using e1
        have HS := hide (show SpOrd l w wr (k + 1) (.slice (some ⟨g, 0, none⟩) zs.length cap) zs from ⟨(unhide hsp).1.skip (by rw [unhide HT]; simp [e1]), (unhide hsp).2⟩)
        clear e1 hbl hsp
        go_wp2
        go_roundw
        case rel => exact ⟨k + 1, g, cap, zs, by omega, by go_num, rfl, HS⟩
        case measure => simp [intOf]; omega
      · have q1 : (linA l k == -1) = false := by simpa using e1
        have HTK := hide (show tookA l k = true by rw [unhide HT]; simp [e1])
        have hzl := (unhide hsp).1.len
        have hgr0 : Hid (Greater l zs k zs.length) := hide (fun i hi h => by omega)
        clear e1 hbl HT
        go_wp2
        go_loopw [5] (fun s wx => ∃ j : Nat, j ≤ zs.length ∧ s = .int .i64 j ∧ Hid (Greater l zs k j) ∧ Hid (SpOrd l w wx k (.slice (some ⟨g, 0, none⟩) zs.length cap) zs)) (fun s _ => (intOf s).toNat)
        case atStart => exact ⟨zs.length, Nat.le_refl _, rfl, hgr0, hsp⟩
        case round =>
          obtain ⟨j, hj, rfl, hgr, hsx⟩ := hrel
          clear hsp hgr0 p18
          have hbx := (unhide hsx).2.2
          have hrx := (unhide hsx).2.1
          obtain ⟨hnc, hcm, hgl⟩ := cap_le hrx
          have hbw := Nat.lt_of_lt_of_le hbk hbx.size
          have p18' := cell_grown (a := ⟨b, o + k * 20 + 18, none⟩) hbw (lin_cell (unhide HA0) hbx hlt)
          have exitH : Hid (∀ wx, SpOrd l w wx k (.slice (some ⟨g, 0, none⟩) zs.length cap) zs → (∀ (hi : j - 1 < zs.length), j = 0 ∨ linA l zs[j - 1] ≤ linA l k) → OrdK l (k + 1) (zs.take j ++ k :: zs.drop j)) := hide (fun wx hs hi => hs.1.put (unhide HTK) hj (unhide hgr) hi)
          by_cases hj0 : 0 < j
          · obtain ⟨jp, rfl⟩ : ∃ q, j = q + 1 := ⟨j - 1, by omega⟩
            have hjp : jp < zs.length := by omega
            have zj : decide (((jp + 1 : Nat) : Int) > 0) = true := decide_eq_true (by omega)
            have zj' : decide ((jp : Int) + 1 > 0) = true := decide_eq_true (by omega)
            have zj2 : (0 : Int) < (jp : Int) + 1 := by omega
            have hz := (unhide hsx).1.mem (List.getElem_mem hjp)
            have hzl2 : zs[jp] < l.length := by omega
            have cz := cell_grown (a := ⟨g, jp, none⟩) hgl (zcell hrx jp hjp)
            have z18' := cell_grown (a := ⟨b, o + zs[jp] * 20 + 18, none⟩) hbw (lin_cell (unhide HA0) hbx hzl2)
            have HGJ : Hid (linA l k < linA l zs[jp] → Greater l zs k jp) := hide (fun h i hi hle => by
              by_cases e : i = jp
              · subst e; exact h
              · exact unhide hgr i hi (by omega))
            have HLJ : Hid (¬ linA l k < linA l zs[jp] → ∀ (hi : jp + 1 - 1 < zs.length), jp + 1 = 0 ∨ linA l zs[jp + 1 - 1] ≤ linA l k) := hide (fun h hi => Or.inr (by simpa using h))
            generalize linA l zs[jp] = Z at *
            generalize linA l k = Y at *
            generalize zs[jp] = z at *
            have f1 : (0 : Int) ≤ (jp : Int) := by omega
            have f0 : IntKind.i64.wrap (jp : Int) = (jp : Int) := by rw [IntKind.wrap_i64]; omega
            have f2 : (jp : Int) < (zs.length : Int) := by omega
            have f3 : ((jp : Int)).toNat = jp := by omega
            have f4 : (0 : Int) ≤ (z : Int) := by omega
            have f5 : (z : Int) < (l.length : Int) := by omega
            have f6 : ((z : Int)).toNat = z := by omega
            have f7 : (0 : Int) ≤ (k : Int) := by omega
            have f8 : ((k : Int)).toNat = k := by omega
            have mixed : Try.prog.follows .mixedOrders = true := by kernel_rfl
            have HJ := hide hj
            clear hgr hz hjp hj0 hzl2 hj
            go_wp2_with fail
            by_cases hYZ : Y < Z
            · have zz : decide (Z > Y) = true := decide_eq_true hYZ
              have zz' : decide (Y < Z) = true := decide_eq_true hYZ
              go_quiet_grown (fail)
              have HS := hide (show SpOrd l w (grow (wr.drewN nq) osq) k (.slice (some ⟨g, 0, none⟩) zs.length cap) zs from ⟨(unhide hsx).1, owns_grown (unhide hsx).2.1 _ _, below_grown2 (unhide hsx).2.2 hbx.size _ _⟩)
              generalize grow (wr.drewN nq) osq = w2 at *
              have HG := hide (unhide HGJ hYZ)
              clear hsx exitH HGJ HLJ hrx cz p18' z18' hYZ zz zz'
              go_wp2
              go_roundw
              case rel => exact ⟨jp, by omega, rfl, HG, HS⟩
              case measure => simp [intOf]
            · have zz : decide (Z > Y) = false := decide_eq_false hYZ
              have zz' : decide (Y < Z) = false := decide_eq_false hYZ
              go_quiet_grown (fail)
              have HS := hide (show SpOrd l w (grow (wr.drewN nq) osq) k (.slice (some ⟨g, 0, none⟩) zs.length cap) zs from ⟨(unhide hsx).1, owns_grown (unhide hsx).2.1 _ _, below_grown2 (unhide hsx).2.2 hbx.size _ _⟩)
              generalize grow (wr.drewN nq) osq = w2 at *
              have HP := hide (unhide exitH _ (unhide hsx) (unhide HLJ (by omega)))
              clear hsx exitH HGJ HLJ hrx cz p18' z18' hYZ zz zz' hbx
              have hj : jp + 1 ≤ zs.length := unhide HJ
              have HPre := hide (unhide HS).2.2
              have hrow := (unhide HS).2.1
              obtain ⟨hnc, hcm, hgl⟩ := cap_le hrow
              obtain ⟨HP1, _, HP3, HP4⟩ := row_parts (k := (jp + 1)) hrow hj
              obtain ⟨ad0, nd0, cd0, had0, hnd0, hcd0⟩ : ∃ (ad : Addr) (n0 c0 : Nat), ad = (if cap = (jp + 1) then (⟨g, 0, none⟩ : Addr) else ⟨g, (jp + 1) * 1, none⟩) ∧ n0 = zs.length - (jp + 1) ∧ c0 = cap - (jp + 1) := ⟨_, _, _, rfl, rfl, rfl⟩
              have HP2 := row_parts2 (k := (jp + 1)) hrow hj (by omega)
              rw [← had0] at HP2
              rw [← hnd0] at HP4
              have hgl2 : ad0.block < w2.heap.size := by rw [had0]; split <;> exact hgl
              have HA0D := hide had0
              have HN0D := hide hnd0
              have HC0D := hide hcd0
              have hnd1 : (jp + 1) + nd0 = zs.length := by omega
              have HND := hide hnd1
              have hnd2 : nd0 ≤ zs.length := by omega
              clear had0 hnd0 hcd0 hnd1
              have hle2 : w.heap.size ≤ w2.heap.size := (unhide HPre).size
              have HPx := hide (And.intro HP3 HP4)
              go_wp2_with fail
              refine wp_region_held_drew (S := fun w' => Below w2.heap.size w2 w') (by kernel_rfl) (Below.drew (Below.refl _ _)) (fun hHeld => ?_)
              refine wpAnyH_take (i := 1) (oi := ?oo42) (v := ?vv42) ?hi42 (by kernel_rfl) (by kernel_rfl) (by kernel_rfl) ?hQ42 ?hy42 (by assumption) ?rest42
              case hi42 => (simp only [List.getElem?_toArray, List.getElem?_cons_zero, List.getElem?_cons_succ]; rfl)
              case hQ42 => exact fun _ _ _ h => h
              case hy42 => exact Or.inl ⟨by rfl, by intro wS hSw; (try dsimp only at hSw); go_simp; try first | (with_reducible rfl) | (simp only [*]; done) | omega⟩
              try simp only [Act.put, List.setIfInBounds_toArray, List.set_cons_zero, List.set_cons_succ]
              refine wpAnyH_take (i := 2) (oi := ?oo43) (v := ?vv43) ?hi43 (by kernel_rfl) (by kernel_rfl) (by kernel_rfl) ?hQ43 ?hy43 (by assumption) ?rest43
              case hi43 => (simp only [List.getElem?_toArray, List.getElem?_cons_zero, List.getElem?_cons_succ]; rfl)
              case hQ43 => exact fun _ _ _ h => h
              case hy43 => exact Or.inl ⟨by rfl, by intro wS hSw; (try dsimp only at hSw); go_simp; try first | (with_reducible rfl) | (simp only [*]; done) | omega⟩
              try simp only [Act.put, List.setIfInBounds_toArray, List.set_cons_zero, List.set_cons_succ]
              refine wpAnyH_take (i := 3) (oi := ?oo44) (v := ?vv44) ?hi44 (by kernel_rfl) (by kernel_rfl) (by kernel_rfl) ?hQ44 ?hy44 (by assumption) ?rest44
              case hi44 => (simp only [List.getElem?_toArray, List.getElem?_cons_zero, List.getElem?_cons_succ]; rfl)
              case hQ44 => exact fun _ _ _ h => h
              case hy44 => exact Or.inl ⟨by rfl, by intro wS hSw; (try dsimp only at hSw); go_simp; (try rw [if_pos (by omega)]); (try rw [if_pos (by omega)]); (try rfl)⟩
              try simp only [Act.put, List.setIfInBounds_toArray, List.set_cons_zero, List.set_cons_succ]
              refine wpAnyH_take (i := 5) (oi := ?oo45) (v := ?vv45) ?hi45 (by kernel_rfl) (by kernel_rfl) (by kernel_rfl) ?hQ45 ?hy45 (by assumption) ?rest45
              case hi45 => (simp only [List.getElem?_toArray, List.getElem?_cons_zero, List.getElem?_cons_succ]; rfl)
              case hQ45 => exact fun _ _ _ h => h
              case hy45 => exact Or.inl ⟨by rfl, by intro wS hSw; (try dsimp only at hSw); go_simp; try first | (with_reducible rfl) | (simp only [*]; done) | omega⟩
              try simp only [Act.put, List.setIfInBounds_toArray, List.set_cons_zero, List.set_cons_succ]
              refine wpAnyH_take (i := 8) (oi := ?oo46) (v := ?vv46) ?hi46 (by kernel_rfl) (by kernel_rfl) (by kernel_rfl) ?hQ46 ?hy46 (by assumption) ?rest46
              case hi46 => (simp only [List.getElem?_toArray, List.getElem?_cons_zero, List.getElem?_cons_succ]; rfl)
              case hQ46 => exact fun _ _ _ h => h
              case hy46 => exact Or.inl ⟨by rfl, by intro wS hSw; (try dsimp only at hSw); go_simp; try first | (with_reducible rfl) | (simp only [*]; done) | omega⟩
              try simp only [Act.put, List.setIfInBounds_toArray, List.set_cons_zero, List.set_cons_succ]
              refine wpAnyH_take (i := 9) (oi := ?oo47) (v := ?vv47) ?hi47 (by kernel_rfl) (by kernel_rfl) (by kernel_rfl) ?hQ47 ?hy47 (by assumption) ?rest47
              case hi47 => (simp only [List.getElem?_toArray, List.getElem?_cons_zero, List.getElem?_cons_succ]; rfl)
              case hQ47 => exact fun _ _ _ h => h
              case hy47 => exact Or.inl ⟨by rfl, by intro wS hSw; (try dsimp only at hSw); go_simp; try first | (with_reducible rfl) | (simp only [*]; done) | omega⟩
              try simp only [Act.put, List.setIfInBounds_toArray, List.set_cons_zero, List.set_cons_succ]
              refine wpAnyH_take (i := 10) (oi := ?oo48) (v := .slice (some ad0) nd0 cd0) ?hi48 (by kernel_rfl) (by kernel_rfl) (by kernel_rfl) ?hQ48 ?hy48 (by assumption) ?rest48
              case hi48 => (simp only [List.getElem?_toArray, List.getElem?_cons_zero, List.getElem?_cons_succ]; rfl)
              case hQ48 => exact fun _ _ _ h => h
              case hy48 => exact Or.inl ⟨by rfl, by intro wS hSw; (try dsimp only at hSw); go_simp; (try rw [if_pos (by omega)]); (try rw [if_pos (by omega)]); (rw [unhide HA0D, unhide HN0D, unhide HC0D]); (split <;> simp_all)⟩
              try simp only [Act.put, List.setIfInBounds_toArray, List.set_cons_zero, List.set_cons_succ]
              refine wpAnyH_ready (rs := [0, 6]) (by kernel_rfl) (by simp) ?_
              refine (AllReadyH.cons (o := ?bo49n0) ?bh49n0 (fun K hK => ?br49n0) (AllReadyH.cons (o := ?bo49n6) ?bh49n6 (fun K hK => ?br49n6) AllReadyH.nil))
              case bh49n0 => (simp only [List.getElem?_toArray, List.getElem?_cons_zero]; rfl)
              case bh49n6 => (simp only [List.getElem?_toArray, List.getElem?_cons_zero, List.getElem?_cons_succ]; rfl)
              case br49n0 =>
                go_simp
                have HA := InA.start (t := 3) (N := 1) hHeld
                refine hK.out _ _ (HA.bel) (fun hHeld => ?_)
                clear hK
                refine wpAnyH_ready (rs := [4, 6]) (by kernel_rfl) (by simp) ?_
                refine (AllReadyH.cons (o := ?bo50n4) ?bh50n4 (fun K hK => ?br50n4) (AllReadyH.cons (o := ?bo50n6) ?bh50n6 (fun K hK => ?br50n6) AllReadyH.nil))
                case bh50n4 => (simp only [List.getElem?_toArray, List.getElem?_cons_zero, List.getElem?_cons_succ]; rfl)
                case bh50n6 => (simp only [List.getElem?_toArray, List.getElem?_cons_zero, List.getElem?_cons_succ]; rfl)
                case br50n4 =>
                  refine step_append2 (by rfl) (.tmp 42) (.tmp 45) 69 (by rfl) w2.heap.size 3 _ 1 8 Try.underlying69 infoI2 rfl (by decide) _ 0 _ (by rfl) HA.row ⟨g, 0, none⟩ ((jp + 1)) _ ((cellsI2 (zOf zs)).take ((jp + 1) * 1)) (by rfl) HP3 (news_old HA.bel hgl HP1) (fun u hu => cellsI2_one _ u (List.mem_of_mem_take hu)) (by unfold maxLen; omega) (by omega) HA.le ?_
                  intro v' w' how hg hv
                  have HA := HA.app how hg
                  clear how hg hv
                  refine hK.out _ _ (HA.bel) (fun hHeld => ?_)
                  clear hK
                  refine wpAnyH_ready (rs := [6]) (by kernel_rfl) (by simp) ?_
                  refine (AllReadyH.cons (o := ?bo51n6) ?bh51n6 (fun K hK => ?br51n6) AllReadyH.nil)
                  case bh51n6 => (simp only [List.getElem?_toArray, List.getElem?_cons_zero, List.getElem?_cons_succ]; rfl)
                  case br51n6 =>
                    go_simp
                    have HN := HA.apart
                    have HA := HA.alloc (.cells #[.int .i64 (k : Int)] 3)
                    have HX := InX.start hHeld #[.int .i64 (k : Int)] 3
                    refine hK.out _ _ (HX.bel) (fun hHeld => ?_)
                    clear hK
                    refine wpAnyH_ready (rs := [7]) (by kernel_rfl) (by simp) ?_
                    refine (AllReadyH.cons (o := ?bo52n7) ?bh52n7 (fun K hK => ?br52n7) AllReadyH.nil)
                    case bh52n7 => (simp only [List.getElem?_toArray, List.getElem?_cons_zero, List.getElem?_cons_succ]; rfl)
                    case br52n7 =>
                      refine step_append2 (by rfl) (.tmp 46) (.tmp 48) 69 (by rfl) w2.heap.size 3 _ 1 8 Try.underlying69 infoI2 rfl (by decide) _ (0 + (jp + 1)) _ (by rfl) HA.row ⟨_, 0, none⟩ 1 1 [.int .i64 (k : Int)] (by rfl) rfl HX.cell (by intro u hu; simp at hu; subst hu; rfl) (by unfold maxLen; omega) (by omega) HA.le ?_
                      intro v' w' how hg hv
                      have HA := HA.app how hg
                      clear how hg hv
                      refine hK.out _ _ (HA.bel) (fun hHeld => ?_)
                      clear hK
                      refine wpAnyH_ready (rs := [11]) (by kernel_rfl) (by simp) ?_
                      refine (AllReadyH.cons (o := ?bo53n11) ?bh53n11 (fun K hK => ?br53n11) AllReadyH.nil)
                      case bh53n11 => (simp only [List.getElem?_toArray, List.getElem?_cons_zero, List.getElem?_cons_succ]; rfl)
                      case br53n11 =>
                        refine step_append2 (by rfl) (.tmp 49) (.tmp 52) 69 (by rfl) w2.heap.size 3 _ 1 8 Try.underlying69 infoI2 rfl (by decide) _ (0 + (jp + 1) + 1) _ (by rfl) HA.row ad0 nd0 cd0 ((cellsI2 (zOf zs)).drop ((jp + 1) * 1)) (by rfl) HP4 (news_old HA.bel hgl2 HP2) (fun u hu => cellsI2_one _ u (List.mem_of_mem_drop hu)) (by unfold maxLen; omega) (by omega) HA.le ?_
                        intro v' w' how hg hv
                        have HA := HA.app how hg
                        clear how hg hv
                        refine hK.out _ _ (HA.bel) (fun hHeld => ?_)
                        clear hK
                        refine wpAnyH_take (i := 12) (oi := ?oo54) (v := ?vv54) ?hi54 (by kernel_rfl) (by kernel_rfl) (by kernel_rfl) ?hQ54 ?hy54 (by assumption) ?rest54
                        case hi54 => (simp only [List.getElem?_toArray, List.getElem?_cons_zero, List.getElem?_cons_succ]; rfl)
                        case hQ54 => exact fun _ _ _ h => h
                        case hy54 => exact Or.inl ⟨by rfl, by intro wS hSw; (try dsimp only at hSw); go_simp; try first | (with_reducible rfl) | (simp only [*]; done) | omega⟩
                        try simp only [Act.put, List.setIfInBounds_toArray, List.set_cons_zero, List.set_cons_succ]
                        refine wpAnyH_done (by kernel_rfl) ?_ _
                        obtain ⟨gN, cN, rfl⟩ := slice_form HA.row (by omega)
                        obtain ⟨hnn, HSP⟩ := spord_step (unhide HP) (unhide HPre) HA
                        have HNN := hide hnn
                        have HSP := hide HSP
                        clear HA hnn
                        go_wp2
                        go_roundw
                        case rel => exact ⟨k + 1, gN, cN, zs.take (jp + 1) ++ k :: zs.drop (jp + 1), by omega, by go_num, by rw [unhide HNN], HSP⟩
                        case measure => simp [intOf]; omega
                case br50n6 =>
                  go_simp
                  have hsz1 := size_of_held (B := w2.heap.size + 1) hHeld (by first | (simp; done) | rfl)
                  have HN := HA.apart2 (unhide hsz1)
                  have HA := HA.alloc (.cells #[.int .i64 (k : Int)] 3)
                  have HX := InX.start2 hHeld (unhide hsz1) #[.int .i64 (k : Int)] 3
                  refine hK.out _ _ (HX.bel) (fun hHeld => ?_)
                  clear hK
                  refine wpAnyH_ready (rs := [4]) (by kernel_rfl) (by simp) ?_
                  refine (AllReadyH.cons (o := ?bo55n4) ?bh55n4 (fun K hK => ?br55n4) AllReadyH.nil)
                  case bh55n4 => (simp only [List.getElem?_toArray, List.getElem?_cons_zero, List.getElem?_cons_succ]; rfl)
                  case br55n4 =>
                    refine step_append2 (by rfl) (.tmp 42) (.tmp 45) 69 (by rfl) w2.heap.size 3 _ 1 8 Try.underlying69 infoI2 rfl (by decide) _ 0 _ (by rfl) HA.row ⟨g, 0, none⟩ ((jp + 1)) _ ((cellsI2 (zOf zs)).take ((jp + 1) * 1)) (by rfl) HP3 (news_old HA.bel hgl HP1) (fun u hu => cellsI2_one _ u (List.mem_of_mem_take hu)) (by unfold maxLen; omega) (by omega) HA.le ?_
                    intro v' w' how hg hv
                    have HN2 := ne_app HX HN hv
                    have HX := HX.app HA HN hg
                    have HN := HN2
                    have HA := HA.app how hg
                    clear how hg hv
                    refine hK.out _ _ (HA.bel) (fun hHeld => ?_)
                    clear hK
                    refine wpAnyH_ready (rs := [7]) (by kernel_rfl) (by simp) ?_
                    refine (AllReadyH.cons (o := ?bo56n7) ?bh56n7 (fun K hK => ?br56n7) AllReadyH.nil)
                    case bh56n7 => (simp only [List.getElem?_toArray, List.getElem?_cons_zero, List.getElem?_cons_succ]; rfl)
                    case br56n7 =>
                      refine step_append2 (by rfl) (.tmp 46) (.tmp 48) 69 (by rfl) w2.heap.size 3 _ 1 8 Try.underlying69 infoI2 rfl (by decide) _ (0 + (jp + 1)) _ (by rfl) HA.row ⟨_, 0, none⟩ 1 1 [.int .i64 (k : Int)] (by rfl) rfl HX.cell (by intro u hu; simp at hu; subst hu; rfl) (by unfold maxLen; omega) (by omega) HA.le ?_
                      intro v' w' how hg hv
                      have HA := HA.app how hg
                      clear how hg hv
                      refine hK.out _ _ (HA.bel) (fun hHeld => ?_)
                      clear hK
                      refine wpAnyH_ready (rs := [11]) (by kernel_rfl) (by simp) ?_
                      refine (AllReadyH.cons (o := ?bo57n11) ?bh57n11 (fun K hK => ?br57n11) AllReadyH.nil)
                      case bh57n11 => (simp only [List.getElem?_toArray, List.getElem?_cons_zero, List.getElem?_cons_succ]; rfl)
                      case br57n11 =>
                        refine step_append2 (by rfl) (.tmp 49) (.tmp 52) 69 (by rfl) w2.heap.size 3 _ 1 8 Try.underlying69 infoI2 rfl (by decide) _ (0 + (jp + 1) + 1) _ (by rfl) HA.row ad0 nd0 cd0 ((cellsI2 (zOf zs)).drop ((jp + 1) * 1)) (by rfl) HP4 (news_old HA.bel hgl2 HP2) (fun u hu => cellsI2_one _ u (List.mem_of_mem_drop hu)) (by unfold maxLen; omega) (by omega) HA.le ?_
                        intro v' w' how hg hv
                        have HA := HA.app how hg
                        clear how hg hv
                        refine hK.out _ _ (HA.bel) (fun hHeld => ?_)
                        clear hK
                        refine wpAnyH_take (i := 12) (oi := ?oo58) (v := ?vv58) ?hi58 (by kernel_rfl) (by kernel_rfl) (by kernel_rfl) ?hQ58 ?hy58 (by assumption) ?rest58
                        case hi58 => (simp only [List.getElem?_toArray, List.getElem?_cons_zero, List.getElem?_cons_succ]; rfl)
                        case hQ58 => exact fun _ _ _ h => h
                        case hy58 => exact Or.inl ⟨by rfl, by intro wS hSw; (try dsimp only at hSw); go_simp; try first | (with_reducible rfl) | (simp only [*]; done) | omega⟩
                        try simp only [Act.put, List.setIfInBounds_toArray, List.set_cons_zero, List.set_cons_succ]
                        refine wpAnyH_done (by kernel_rfl) ?_ _
                        obtain ⟨gN, cN, rfl⟩ := slice_form HA.row (by omega)
                        obtain ⟨hnn, HSP⟩ := spord_step (unhide HP) (unhide HPre) HA
                        have HNN := hide hnn
                        have HSP := hide HSP
                        clear HA hnn
                        go_wp2
                        go_roundw
                        case rel => exact ⟨k + 1, gN, cN, zs.take (jp + 1) ++ k :: zs.drop (jp + 1), by omega, by go_num, by rw [unhide HNN], HSP⟩
                        case measure => simp [intOf]; omega
              case br49n6 =>
                go_simp
                have HX := InX.start hHeld #[.int .i64 (k : Int)] 3
                refine hK.out _ _ (HX.bel) (fun hHeld => ?_)
                clear hK
                refine wpAnyH_ready (rs := [0]) (by kernel_rfl) (by simp) ?_
                refine (AllReadyH.cons (o := ?bo59n0) ?bh59n0 (fun K hK => ?br59n0) AllReadyH.nil)
                case bh59n0 => (simp only [List.getElem?_toArray, List.getElem?_cons_zero]; rfl)
                case br59n0 =>
                  go_simp
                  have hsz1 := size_of_held (B := w2.heap.size + 1) hHeld (by first | (simp; done) | rfl)
                  have HA := InA.start2 (t := 3) (N := 1) hHeld (unhide hsz1)
                  have HN := HX.apart2 (unhide hsz1)
                  have HX := HX.alloc (.cells #[] 3)
                  refine hK.out _ _ (HA.bel) (fun hHeld => ?_)
                  clear hK
                  refine wpAnyH_ready (rs := [4]) (by kernel_rfl) (by simp) ?_
                  refine (AllReadyH.cons (o := ?bo60n4) ?bh60n4 (fun K hK => ?br60n4) AllReadyH.nil)
                  case bh60n4 => (simp only [List.getElem?_toArray, List.getElem?_cons_zero, List.getElem?_cons_succ]; rfl)
                  case br60n4 =>
                    refine step_append2 (by rfl) (.tmp 42) (.tmp 45) 69 (by rfl) w2.heap.size 3 _ 1 8 Try.underlying69 infoI2 rfl (by decide) _ 0 _ (by rfl) HA.row ⟨g, 0, none⟩ ((jp + 1)) _ ((cellsI2 (zOf zs)).take ((jp + 1) * 1)) (by rfl) HP3 (news_old HA.bel hgl HP1) (fun u hu => cellsI2_one _ u (List.mem_of_mem_take hu)) (by unfold maxLen; omega) (by omega) HA.le ?_
                    intro v' w' how hg hv
                    have HN2 := ne_app HX HN hv
                    have HX := HX.app HA HN hg
                    have HN := HN2
                    have HA := HA.app how hg
                    clear how hg hv
                    refine hK.out _ _ (HA.bel) (fun hHeld => ?_)
                    clear hK
                    refine wpAnyH_ready (rs := [7]) (by kernel_rfl) (by simp) ?_
                    refine (AllReadyH.cons (o := ?bo61n7) ?bh61n7 (fun K hK => ?br61n7) AllReadyH.nil)
                    case bh61n7 => (simp only [List.getElem?_toArray, List.getElem?_cons_zero, List.getElem?_cons_succ]; rfl)
                    case br61n7 =>
                      refine step_append2 (by rfl) (.tmp 46) (.tmp 48) 69 (by rfl) w2.heap.size 3 _ 1 8 Try.underlying69 infoI2 rfl (by decide) _ (0 + (jp + 1)) _ (by rfl) HA.row ⟨_, 0, none⟩ 1 1 [.int .i64 (k : Int)] (by rfl) rfl HX.cell (by intro u hu; simp at hu; subst hu; rfl) (by unfold maxLen; omega) (by omega) HA.le ?_
                      intro v' w' how hg hv
                      have HA := HA.app how hg
                      clear how hg hv
                      refine hK.out _ _ (HA.bel) (fun hHeld => ?_)
                      clear hK
                      refine wpAnyH_ready (rs := [11]) (by kernel_rfl) (by simp) ?_
                      refine (AllReadyH.cons (o := ?bo62n11) ?bh62n11 (fun K hK => ?br62n11) AllReadyH.nil)
                      case bh62n11 => (simp only [List.getElem?_toArray, List.getElem?_cons_zero, List.getElem?_cons_succ]; rfl)
                      case br62n11 =>
                        refine step_append2 (by rfl) (.tmp 49) (.tmp 52) 69 (by rfl) w2.heap.size 3 _ 1 8 Try.underlying69 infoI2 rfl (by decide) _ (0 + (jp + 1) + 1) _ (by rfl) HA.row ad0 nd0 cd0 ((cellsI2 (zOf zs)).drop ((jp + 1) * 1)) (by rfl) HP4 (news_old HA.bel hgl2 HP2) (fun u hu => cellsI2_one _ u (List.mem_of_mem_drop hu)) (by unfold maxLen; omega) (by omega) HA.le ?_
                        intro v' w' how hg hv
                        have HA := HA.app how hg
                        clear how hg hv
                        refine hK.out _ _ (HA.bel) (fun hHeld => ?_)
                        clear hK
                        refine wpAnyH_take (i := 12) (oi := ?oo63) (v := ?vv63) ?hi63 (by kernel_rfl) (by kernel_rfl) (by kernel_rfl) ?hQ63 ?hy63 (by assumption) ?rest63
                        case hi63 => (simp only [List.getElem?_toArray, List.getElem?_cons_zero, List.getElem?_cons_succ]; rfl)
                        case hQ63 => exact fun _ _ _ h => h
                        case hy63 => exact Or.inl ⟨by rfl, by intro wS hSw; (try dsimp only at hSw); go_simp; try first | (with_reducible rfl) | (simp only [*]; done) | omega⟩
                        try simp only [Act.put, List.setIfInBounds_toArray, List.set_cons_zero, List.set_cons_succ]
                        refine wpAnyH_done (by kernel_rfl) ?_ _
                        obtain ⟨gN, cN, rfl⟩ := slice_form HA.row (by omega)
                        obtain ⟨hnn, HSP⟩ := spord_step (unhide HP) (unhide HPre) HA
                        have HNN := hide hnn
                        have HSP := hide HSP
                        clear HA hnn
                        go_wp2
                        go_roundw
                        case rel => exact ⟨k + 1, gN, cN, zs.take (jp + 1) ++ k :: zs.drop (jp + 1), by omega, by go_num, by rw [unhide HNN], HSP⟩
                        case measure => simp [intOf]; omega
          · have hj1 : j = 0 := by omega
            subst hj1
            have HP := hide (unhide exitH _ (unhide hsx) (fun _ => Or.inl rfl))
            clear exitH hrx p18'
            go_wp2_with fail
            refine wp_region_held_drew (S := fun w' => Below wr.heap.size wr w') (by kernel_rfl) (Below.drew (Below.refl _ _)) (fun hHeld => ?_)
            refine wpAnyH_take (i := 0) (oi := ?oo1) (v := ?vv1) ?hi1 (by kernel_rfl) (by kernel_rfl) (by kernel_rfl) ?hQ1 ?hy1 (by assumption) ?rest1
            case hi1 => (simp only [List.getElem?_toArray, List.getElem?_cons_zero]; rfl)
            case hQ1 => exact fun _ _ _ h => h
            case hy1 => exact Or.inl ⟨by rfl, by intro wS hSw; (try dsimp only at hSw); go_simp; try first | (with_reducible rfl) | (simp only [*]; done) | omega⟩
            try simp only [Act.put, List.setIfInBounds_toArray, List.set_cons_zero, List.set_cons_succ]
            refine wpAnyH_take (i := 1) (oi := ?oo2) (v := ?vv2) ?hi2 (by kernel_rfl) (by kernel_rfl) (by kernel_rfl) ?hQ2 ?hy2 (by assumption) ?rest2
            case hi2 => (simp only [List.getElem?_toArray, List.getElem?_cons_zero, List.getElem?_cons_succ]; rfl)
            case hQ2 => exact fun _ _ _ h => h
            case hy2 => exact Or.inl ⟨by rfl, by intro wS hSw; (try dsimp only at hSw); go_simp; try first | (with_reducible rfl) | (simp only [*]; done) | omega⟩
            try simp only [Act.put, List.setIfInBounds_toArray, List.set_cons_zero, List.set_cons_succ]
            refine wpAnyH_take (i := 2) (oi := ?oo3) (v := ?vv3) ?hi3 (by kernel_rfl) (by kernel_rfl) (by kernel_rfl) ?hQ3 ?hy3 (by assumption) ?rest3
            case hi3 => (simp only [List.getElem?_toArray, List.getElem?_cons_zero, List.getElem?_cons_succ]; rfl)
            case hQ3 => exact fun _ _ _ h => h
            case hy3 => exact Or.inl ⟨by rfl, by intro wS hSw; (try dsimp only at hSw); go_simp; try first | (with_reducible rfl) | (simp only [*]; done) | omega⟩
            try simp only [Act.put, List.setIfInBounds_toArray, List.set_cons_zero, List.set_cons_succ]
            refine wpAnyH_take (i := 3) (oi := ?oo4) (v := undef) ?hi4 (by kernel_rfl) (by kernel_rfl) (by kernel_rfl) ?hQ4 ?hy4 (by assumption) ?rest4
            case hi4 => (simp only [List.getElem?_toArray, List.getElem?_cons_zero, List.getElem?_cons_succ]; rfl)
            case hQ4 => exact fun _ _ _ h => h
            case hy4 => exact Or.inr ⟨by rfl, rfl⟩
            try simp only [Act.put, List.setIfInBounds_toArray, List.set_cons_zero, List.set_cons_succ]
            refine wpAnyH_take (i := 4) (oi := ?oo5) (v := undef) ?hi5 (by kernel_rfl) (by kernel_rfl) (by kernel_rfl) ?hQ5 ?hy5 (by assumption) ?rest5
            case hi5 => (simp only [List.getElem?_toArray, List.getElem?_cons_zero, List.getElem?_cons_succ]; rfl)
            case hQ5 => exact fun _ _ _ h => h
            case hy5 => exact Or.inr ⟨by rfl, rfl⟩
            try simp only [Act.put, List.setIfInBounds_toArray, List.set_cons_zero, List.set_cons_succ]
            refine wpAnyH_take (i := 5) (oi := ?oo6) (v := undef) ?hi6 (by kernel_rfl) (by kernel_rfl) (by kernel_rfl) ?hQ6 ?hy6 (by assumption) ?rest6
            case hi6 => (simp only [List.getElem?_toArray, List.getElem?_cons_zero, List.getElem?_cons_succ]; rfl)
            case hQ6 => exact fun _ _ _ h => h
            case hy6 => exact Or.inr ⟨by rfl, rfl⟩
            try simp only [Act.put, List.setIfInBounds_toArray, List.set_cons_zero, List.set_cons_succ]
            refine wpAnyH_take (i := 6) (oi := ?oo7) (v := undef) ?hi7 (by kernel_rfl) (by kernel_rfl) (by kernel_rfl) ?hQ7 ?hy7 (by assumption) ?rest7
            case hi7 => (simp only [List.getElem?_toArray, List.getElem?_cons_zero, List.getElem?_cons_succ]; rfl)
            case hQ7 => exact fun _ _ _ h => h
            case hy7 => exact Or.inr ⟨by rfl, rfl⟩
            try simp only [Act.put, List.setIfInBounds_toArray, List.set_cons_zero, List.set_cons_succ]
            refine wpAnyH_take (i := 7) (oi := ?oo8) (v := undef) ?hi8 (by kernel_rfl) (by kernel_rfl) (by kernel_rfl) ?hQ8 ?hy8 (by assumption) ?rest8
            case hi8 => (simp only [List.getElem?_toArray, List.getElem?_cons_zero, List.getElem?_cons_succ]; rfl)
            case hQ8 => exact fun _ _ _ h => h
            case hy8 => exact Or.inr ⟨by rfl, rfl⟩
            try simp only [Act.put, List.setIfInBounds_toArray, List.set_cons_zero, List.set_cons_succ]
            refine wpAnyH_take (i := 8) (oi := ?oo9) (v := undef) ?hi9 (by kernel_rfl) (by kernel_rfl) (by kernel_rfl) ?hQ9 ?hy9 (by assumption) ?rest9
            case hi9 => (simp only [List.getElem?_toArray, List.getElem?_cons_zero, List.getElem?_cons_succ]; rfl)
            case hQ9 => exact fun _ _ _ h => h
            case hy9 => exact Or.inr ⟨by rfl, rfl⟩
            try simp only [Act.put, List.setIfInBounds_toArray, List.set_cons_zero, List.set_cons_succ]
            refine wpAnyH_take (i := 9) (oi := ?oo10) (v := undef) ?hi10 (by kernel_rfl) (by kernel_rfl) (by kernel_rfl) ?hQ10 ?hy10 (by assumption) ?rest10
            case hi10 => (simp only [List.getElem?_toArray, List.getElem?_cons_zero, List.getElem?_cons_succ]; rfl)
            case hQ10 => exact fun _ _ _ h => h
            case hy10 => exact Or.inr ⟨by rfl, rfl⟩
            try simp only [Act.put, List.setIfInBounds_toArray, List.set_cons_zero, List.set_cons_succ]
            refine wpAnyH_take (i := 10) (oi := ?oo11) (v := undef) ?hi11 (by kernel_rfl) (by kernel_rfl) (by kernel_rfl) ?hQ11 ?hy11 (by assumption) ?rest11
            case hi11 => (simp only [List.getElem?_toArray, List.getElem?_cons_zero, List.getElem?_cons_succ]; rfl)
            case hQ11 => exact fun _ _ _ h => h
            case hy11 => exact Or.inr ⟨by rfl, rfl⟩
            try simp only [Act.put, List.setIfInBounds_toArray, List.set_cons_zero, List.set_cons_succ]
            refine wpAnyH_take (i := 11) (oi := ?oo12) (v := undef) ?hi12 (by kernel_rfl) (by kernel_rfl) (by kernel_rfl) ?hQ12 ?hy12 (by assumption) ?rest12
            case hi12 => (simp only [List.getElem?_toArray, List.getElem?_cons_zero, List.getElem?_cons_succ]; rfl)
            case hQ12 => exact fun _ _ _ h => h
            case hy12 => exact Or.inr ⟨by rfl, rfl⟩
            try simp only [Act.put, List.setIfInBounds_toArray, List.set_cons_zero, List.set_cons_succ]
            refine wpAnyH_take (i := 12) (oi := ?oo13) (v := undef) ?hi13 (by kernel_rfl) (by kernel_rfl) (by kernel_rfl) ?hQ13 ?hy13 (by assumption) ?rest13
            case hi13 => (simp only [List.getElem?_toArray, List.getElem?_cons_zero, List.getElem?_cons_succ]; rfl)
            case hQ13 => exact fun _ _ _ h => h
            case hy13 => exact Or.inr ⟨by rfl, rfl⟩
            try simp only [Act.put, List.setIfInBounds_toArray, List.set_cons_zero, List.set_cons_succ]
            refine wpAnyH_take (i := 13) (oi := ?oo14) (v := undef) ?hi14 (by kernel_rfl) (by kernel_rfl) (by kernel_rfl) ?hQ14 ?hy14 (by assumption) ?rest14
            case hi14 => (simp only [List.getElem?_toArray, List.getElem?_cons_zero, List.getElem?_cons_succ]; rfl)
            case hQ14 => exact fun _ _ _ h => h
            case hy14 => exact Or.inr ⟨by rfl, rfl⟩
            try simp only [Act.put, List.setIfInBounds_toArray, List.set_cons_zero, List.set_cons_succ]
            refine wpAnyH_take (i := 14) (oi := ?oo15) (v := undef) ?hi15 (by kernel_rfl) (by kernel_rfl) (by kernel_rfl) ?hQ15 ?hy15 (by assumption) ?rest15
            case hi15 => (simp only [List.getElem?_toArray, List.getElem?_cons_zero, List.getElem?_cons_succ]; rfl)
            case hQ15 => exact fun _ _ _ h => h
            case hy15 => exact Or.inr ⟨by rfl, rfl⟩
            try simp only [Act.put, List.setIfInBounds_toArray, List.set_cons_zero, List.set_cons_succ]
            refine wpAnyH_take (i := 15) (oi := ?oo16) (v := undef) ?hi16 (by kernel_rfl) (by kernel_rfl) (by kernel_rfl) ?hQ16 ?hy16 (by assumption) ?rest16
            case hi16 => (simp only [List.getElem?_toArray, List.getElem?_cons_zero, List.getElem?_cons_succ]; rfl)
            case hQ16 => exact fun _ _ _ h => h
            case hy16 => exact Or.inr ⟨by rfl, rfl⟩
            try simp only [Act.put, List.setIfInBounds_toArray, List.set_cons_zero, List.set_cons_succ]
            refine wpAnyH_take (i := 16) (oi := ?oo17) (v := undef) ?hi17 (by kernel_rfl) (by kernel_rfl) (by kernel_rfl) ?hQ17 ?hy17 (by assumption) ?rest17
            case hi17 => (simp only [List.getElem?_toArray, List.getElem?_cons_zero, List.getElem?_cons_succ]; rfl)
            case hQ17 => exact fun _ _ _ h => h
            case hy17 => exact Or.inr ⟨by rfl, rfl⟩
            try simp only [Act.put, List.setIfInBounds_toArray, List.set_cons_zero, List.set_cons_succ]
            refine wpAnyH_take (i := 17) (oi := ?oo18) (v := undef) ?hi18 (by kernel_rfl) (by kernel_rfl) (by kernel_rfl) ?hQ18 ?hy18 (by assumption) ?rest18
            case hi18 => (simp only [List.getElem?_toArray, List.getElem?_cons_zero, List.getElem?_cons_succ]; rfl)
            case hQ18 => exact fun _ _ _ h => h
            case hy18 => exact Or.inr ⟨by rfl, rfl⟩
            try simp only [Act.put, List.setIfInBounds_toArray, List.set_cons_zero, List.set_cons_succ]
            refine wpAnyH_take (i := 18) (oi := ?oo19) (v := ?vv19) ?hi19 (by kernel_rfl) (by kernel_rfl) (by kernel_rfl) ?hQ19 ?hy19 (by assumption) ?rest19
            case hi19 => (simp only [List.getElem?_toArray, List.getElem?_cons_zero, List.getElem?_cons_succ]; rfl)
            case hQ19 => exact fun _ _ _ h => h
            case hy19 => exact Or.inl ⟨by rfl, by intro wS hSw; (try dsimp only at hSw); go_simp; try first | (with_reducible rfl) | (simp only [*]; done) | omega⟩
            try simp only [Act.put, List.setIfInBounds_toArray, List.set_cons_zero, List.set_cons_succ]
            refine wpAnyH_done (by kernel_rfl) ?_ _
            have HS := hide (show SpOrd l w _ k (.slice (some ⟨g, 0, none⟩) zs.length cap) zs from ⟨(unhide hsx).1, owns_below (unhide hsx).2.1 hHeld, bthen (unhide hsx).2.2 hHeld⟩)
            clear hsx hHeld hbx
            generalize World.drew wr = w2 at *
            have hj : 0 ≤ zs.length := Nat.zero_le _
            have HPre := hide (unhide HS).2.2
            have hrow := (unhide HS).2.1
            obtain ⟨hnc, hcm, hgl⟩ := cap_le hrow
            obtain ⟨HP1, _, HP3, HP4⟩ := row_parts (k := 0) hrow hj
            obtain ⟨ad0, nd0, cd0, had0, hnd0, hcd0⟩ : ∃ (ad : Addr) (n0 c0 : Nat), ad = (if cap = 0 then (⟨g, 0, none⟩ : Addr) else ⟨g, 0 * 1, none⟩) ∧ n0 = zs.length - 0 ∧ c0 = cap - 0 := ⟨_, _, _, rfl, rfl, rfl⟩
            have HP2 := row_parts2 (k := 0) hrow hj (by omega)
            rw [← had0] at HP2
            rw [← hnd0] at HP4
            have hgl2 : ad0.block < w2.heap.size := by rw [had0]; split <;> exact hgl
            have HA0D := hide had0
            have HN0D := hide hnd0
            have HC0D := hide hcd0
            have hnd1 : 0 + nd0 = zs.length := by omega
            have HND := hide hnd1
            have hnd2 : nd0 ≤ zs.length := by omega
            clear had0 hnd0 hcd0 hnd1
            have hle2 : w.heap.size ≤ w2.heap.size := (unhide HPre).size
            have HPx := hide (And.intro HP3 HP4)
            go_wp2_with fail
            refine wp_region_held_drew (S := fun w' => Below w2.heap.size w2 w') (by kernel_rfl) (Below.drew (Below.refl _ _)) (fun hHeld => ?_)
            refine wpAnyH_take (i := 1) (oi := ?oo20) (v := ?vv20) ?hi20 (by kernel_rfl) (by kernel_rfl) (by kernel_rfl) ?hQ20 ?hy20 (by assumption) ?rest20
            case hi20 => (simp only [List.getElem?_toArray, List.getElem?_cons_zero, List.getElem?_cons_succ]; rfl)
            case hQ20 => exact fun _ _ _ h => h
            case hy20 => exact Or.inl ⟨by rfl, by intro wS hSw; (try dsimp only at hSw); go_simp; try first | (with_reducible rfl) | (simp only [*]; done) | omega⟩
            try simp only [Act.put, List.setIfInBounds_toArray, List.set_cons_zero, List.set_cons_succ]
            refine wpAnyH_take (i := 2) (oi := ?oo21) (v := ?vv21) ?hi21 (by kernel_rfl) (by kernel_rfl) (by kernel_rfl) ?hQ21 ?hy21 (by assumption) ?rest21
            case hi21 => (simp only [List.getElem?_toArray, List.getElem?_cons_zero, List.getElem?_cons_succ]; rfl)
            case hQ21 => exact fun _ _ _ h => h
            case hy21 => exact Or.inl ⟨by rfl, by intro wS hSw; (try dsimp only at hSw); go_simp; try first | (with_reducible rfl) | (simp only [*]; done) | omega⟩
            try simp only [Act.put, List.setIfInBounds_toArray, List.set_cons_zero, List.set_cons_succ]
            refine wpAnyH_take (i := 3) (oi := ?oo22) (v := ?vv22) ?hi22 (by kernel_rfl) (by kernel_rfl) (by kernel_rfl) ?hQ22 ?hy22 (by assumption) ?rest22
            case hi22 => (simp only [List.getElem?_toArray, List.getElem?_cons_zero, List.getElem?_cons_succ]; rfl)
            case hQ22 => exact fun _ _ _ h => h
            case hy22 => exact Or.inl ⟨by rfl, by intro wS hSw; (try dsimp only at hSw); go_simp; (try rw [if_pos (by omega)]); (try rw [if_pos (by omega)]); (try rfl)⟩
            try simp only [Act.put, List.setIfInBounds_toArray, List.set_cons_zero, List.set_cons_succ]
            refine wpAnyH_take (i := 5) (oi := ?oo23) (v := ?vv23) ?hi23 (by kernel_rfl) (by kernel_rfl) (by kernel_rfl) ?hQ23 ?hy23 (by assumption) ?rest23
            case hi23 => (simp only [List.getElem?_toArray, List.getElem?_cons_zero, List.getElem?_cons_succ]; rfl)
            case hQ23 => exact fun _ _ _ h => h
            case hy23 => exact Or.inl ⟨by rfl, by intro wS hSw; (try dsimp only at hSw); go_simp; try first | (with_reducible rfl) | (simp only [*]; done) | omega⟩
            try simp only [Act.put, List.setIfInBounds_toArray, List.set_cons_zero, List.set_cons_succ]
            refine wpAnyH_take (i := 8) (oi := ?oo24) (v := ?vv24) ?hi24 (by kernel_rfl) (by kernel_rfl) (by kernel_rfl) ?hQ24 ?hy24 (by assumption) ?rest24
            case hi24 => (simp only [List.getElem?_toArray, List.getElem?_cons_zero, List.getElem?_cons_succ]; rfl)
            case hQ24 => exact fun _ _ _ h => h
            case hy24 => exact Or.inl ⟨by rfl, by intro wS hSw; (try dsimp only at hSw); go_simp; try first | (with_reducible rfl) | (simp only [*]; done) | omega⟩
            try simp only [Act.put, List.setIfInBounds_toArray, List.set_cons_zero, List.set_cons_succ]
            refine wpAnyH_take (i := 9) (oi := ?oo25) (v := ?vv25) ?hi25 (by kernel_rfl) (by kernel_rfl) (by kernel_rfl) ?hQ25 ?hy25 (by assumption) ?rest25
            case hi25 => (simp only [List.getElem?_toArray, List.getElem?_cons_zero, List.getElem?_cons_succ]; rfl)
            case hQ25 => exact fun _ _ _ h => h
            case hy25 => exact Or.inl ⟨by rfl, by intro wS hSw; (try dsimp only at hSw); go_simp; try first | (with_reducible rfl) | (simp only [*]; done) | omega⟩
            try simp only [Act.put, List.setIfInBounds_toArray, List.set_cons_zero, List.set_cons_succ]
            refine wpAnyH_take (i := 10) (oi := ?oo26) (v := .slice (some ad0) nd0 cd0) ?hi26 (by kernel_rfl) (by kernel_rfl) (by kernel_rfl) ?hQ26 ?hy26 (by assumption) ?rest26
            case hi26 => (simp only [List.getElem?_toArray, List.getElem?_cons_zero, List.getElem?_cons_succ]; rfl)
            case hQ26 => exact fun _ _ _ h => h
            case hy26 => exact Or.inl ⟨by rfl, by intro wS hSw; (try dsimp only at hSw); go_simp; (try rw [if_pos (by omega)]); (try rw [if_pos (by omega)]); (rw [unhide HA0D, unhide HN0D, unhide HC0D]); (split <;> simp_all)⟩
            try simp only [Act.put, List.setIfInBounds_toArray, List.set_cons_zero, List.set_cons_succ]
            refine wpAnyH_ready (rs := [0, 6]) (by kernel_rfl) (by simp) ?_
            refine (AllReadyH.cons (o := ?bo27n0) ?bh27n0 (fun K hK => ?br27n0) (AllReadyH.cons (o := ?bo27n6) ?bh27n6 (fun K hK => ?br27n6) AllReadyH.nil))
            case bh27n0 => (simp only [List.getElem?_toArray, List.getElem?_cons_zero]; rfl)
            case bh27n6 => (simp only [List.getElem?_toArray, List.getElem?_cons_zero, List.getElem?_cons_succ]; rfl)
            case br27n0 =>
              go_simp
              have HA := InA.start (t := 3) (N := 1) hHeld
              refine hK.out _ _ (HA.bel) (fun hHeld => ?_)
              clear hK
              refine wpAnyH_ready (rs := [4, 6]) (by kernel_rfl) (by simp) ?_
              refine (AllReadyH.cons (o := ?bo28n4) ?bh28n4 (fun K hK => ?br28n4) (AllReadyH.cons (o := ?bo28n6) ?bh28n6 (fun K hK => ?br28n6) AllReadyH.nil))
              case bh28n4 => (simp only [List.getElem?_toArray, List.getElem?_cons_zero, List.getElem?_cons_succ]; rfl)
              case bh28n6 => (simp only [List.getElem?_toArray, List.getElem?_cons_zero, List.getElem?_cons_succ]; rfl)
              case br28n4 =>
                refine step_append2 (by rfl) (.tmp 42) (.tmp 45) 69 (by rfl) w2.heap.size 3 _ 1 8 Try.underlying69 infoI2 rfl (by decide) _ 0 _ (by rfl) HA.row ⟨g, 0, none⟩ (0) _ ((cellsI2 (zOf zs)).take (0 * 1)) (by rfl) HP3 (news_old HA.bel hgl HP1) (fun u hu => cellsI2_one _ u (List.mem_of_mem_take hu)) (by unfold maxLen; omega) (by omega) HA.le ?_
                intro v' w' how hg hv
                have HA := HA.app how hg
                clear how hg hv
                refine hK.out _ _ (HA.bel) (fun hHeld => ?_)
                clear hK
                refine wpAnyH_ready (rs := [6]) (by kernel_rfl) (by simp) ?_
                refine (AllReadyH.cons (o := ?bo29n6) ?bh29n6 (fun K hK => ?br29n6) AllReadyH.nil)
                case bh29n6 => (simp only [List.getElem?_toArray, List.getElem?_cons_zero, List.getElem?_cons_succ]; rfl)
                case br29n6 =>
                  go_simp
                  have HN := HA.apart
                  have HA := HA.alloc (.cells #[.int .i64 (k : Int)] 3)
                  have HX := InX.start hHeld #[.int .i64 (k : Int)] 3
                  refine hK.out _ _ (HX.bel) (fun hHeld => ?_)
                  clear hK
                  refine wpAnyH_ready (rs := [7]) (by kernel_rfl) (by simp) ?_
                  refine (AllReadyH.cons (o := ?bo30n7) ?bh30n7 (fun K hK => ?br30n7) AllReadyH.nil)
                  case bh30n7 => (simp only [List.getElem?_toArray, List.getElem?_cons_zero, List.getElem?_cons_succ]; rfl)
                  case br30n7 =>
                    refine step_append2 (by rfl) (.tmp 46) (.tmp 48) 69 (by rfl) w2.heap.size 3 _ 1 8 Try.underlying69 infoI2 rfl (by decide) _ (0 + 0) _ (by rfl) HA.row ⟨_, 0, none⟩ 1 1 [.int .i64 (k : Int)] (by rfl) rfl HX.cell (by intro u hu; simp at hu; subst hu; rfl) (by unfold maxLen; omega) (by omega) HA.le ?_
                    intro v' w' how hg hv
                    have HA := HA.app how hg
                    clear how hg hv
                    refine hK.out _ _ (HA.bel) (fun hHeld => ?_)
                    clear hK
                    refine wpAnyH_ready (rs := [11]) (by kernel_rfl) (by simp) ?_
                    refine (AllReadyH.cons (o := ?bo31n11) ?bh31n11 (fun K hK => ?br31n11) AllReadyH.nil)
                    case bh31n11 => (simp only [List.getElem?_toArray, List.getElem?_cons_zero, List.getElem?_cons_succ]; rfl)
                    case br31n11 =>
                      refine step_append2 (by rfl) (.tmp 49) (.tmp 52) 69 (by rfl) w2.heap.size 3 _ 1 8 Try.underlying69 infoI2 rfl (by decide) _ (0 + 0 + 1) _ (by rfl) HA.row ad0 nd0 cd0 ((cellsI2 (zOf zs)).drop (0 * 1)) (by rfl) HP4 (news_old HA.bel hgl2 HP2) (fun u hu => cellsI2_one _ u (List.mem_of_mem_drop hu)) (by unfold maxLen; omega) (by omega) HA.le ?_
                      intro v' w' how hg hv
                      have HA := HA.app how hg
                      clear how hg hv
                      refine hK.out _ _ (HA.bel) (fun hHeld => ?_)
                      clear hK
                      refine wpAnyH_take (i := 12) (oi := ?oo32) (v := ?vv32) ?hi32 (by kernel_rfl) (by kernel_rfl) (by kernel_rfl) ?hQ32 ?hy32 (by assumption) ?rest32
                      case hi32 => (simp only [List.getElem?_toArray, List.getElem?_cons_zero, List.getElem?_cons_succ]; rfl)
                      case hQ32 => exact fun _ _ _ h => h
                      case hy32 => exact Or.inl ⟨by rfl, by intro wS hSw; (try dsimp only at hSw); go_simp; try first | (with_reducible rfl) | (simp only [*]; done) | omega⟩
                      try simp only [Act.put, List.setIfInBounds_toArray, List.set_cons_zero, List.set_cons_succ]
                      refine wpAnyH_done (by kernel_rfl) ?_ _
                      obtain ⟨gN, cN, rfl⟩ := slice_form HA.row (by omega)
                      obtain ⟨hnn, HSP⟩ := spord_step (unhide HP) (unhide HPre) HA
                      have HNN := hide hnn
                      have HSP := hide HSP
                      clear HA hnn
                      go_wp2
                      go_roundw
                      case rel => exact ⟨k + 1, gN, cN, zs.take 0 ++ k :: zs.drop 0, by omega, by go_num, by rw [unhide HNN], HSP⟩
                      case measure => simp [intOf]; omega
              case br28n6 =>
                go_simp
                have hsz1 := size_of_held (B := w2.heap.size + 1) hHeld (by first | (simp; done) | rfl)
                have HN := HA.apart2 (unhide hsz1)
                have HA := HA.alloc (.cells #[.int .i64 (k : Int)] 3)
                have HX := InX.start2 hHeld (unhide hsz1) #[.int .i64 (k : Int)] 3
                refine hK.out _ _ (HX.bel) (fun hHeld => ?_)
                clear hK
                refine wpAnyH_ready (rs := [4]) (by kernel_rfl) (by simp) ?_
                refine (AllReadyH.cons (o := ?bo33n4) ?bh33n4 (fun K hK => ?br33n4) AllReadyH.nil)
                case bh33n4 => (simp only [List.getElem?_toArray, List.getElem?_cons_zero, List.getElem?_cons_succ]; rfl)
                case br33n4 =>
                  refine step_append2 (by rfl) (.tmp 42) (.tmp 45) 69 (by rfl) w2.heap.size 3 _ 1 8 Try.underlying69 infoI2 rfl (by decide) _ 0 _ (by rfl) HA.row ⟨g, 0, none⟩ (0) _ ((cellsI2 (zOf zs)).take (0 * 1)) (by rfl) HP3 (news_old HA.bel hgl HP1) (fun u hu => cellsI2_one _ u (List.mem_of_mem_take hu)) (by unfold maxLen; omega) (by omega) HA.le ?_
                  intro v' w' how hg hv
                  have HN2 := ne_app HX HN hv
                  have HX := HX.app HA HN hg
                  have HN := HN2
                  have HA := HA.app how hg
                  clear how hg hv
                  refine hK.out _ _ (HA.bel) (fun hHeld => ?_)
                  clear hK
                  refine wpAnyH_ready (rs := [7]) (by kernel_rfl) (by simp) ?_
                  refine (AllReadyH.cons (o := ?bo34n7) ?bh34n7 (fun K hK => ?br34n7) AllReadyH.nil)
                  case bh34n7 => (simp only [List.getElem?_toArray, List.getElem?_cons_zero, List.getElem?_cons_succ]; rfl)
                  case br34n7 =>
                    refine step_append2 (by rfl) (.tmp 46) (.tmp 48) 69 (by rfl) w2.heap.size 3 _ 1 8 Try.underlying69 infoI2 rfl (by decide) _ (0 + 0) _ (by rfl) HA.row ⟨_, 0, none⟩ 1 1 [.int .i64 (k : Int)] (by rfl) rfl HX.cell (by intro u hu; simp at hu; subst hu; rfl) (by unfold maxLen; omega) (by omega) HA.le ?_
                    intro v' w' how hg hv
                    have HA := HA.app how hg
                    clear how hg hv
                    refine hK.out _ _ (HA.bel) (fun hHeld => ?_)
                    clear hK
                    refine wpAnyH_ready (rs := [11]) (by kernel_rfl) (by simp) ?_
                    refine (AllReadyH.cons (o := ?bo35n11) ?bh35n11 (fun K hK => ?br35n11) AllReadyH.nil)
                    case bh35n11 => (simp only [List.getElem?_toArray, List.getElem?_cons_zero, List.getElem?_cons_succ]; rfl)
                    case br35n11 =>
                      refine step_append2 (by rfl) (.tmp 49) (.tmp 52) 69 (by rfl) w2.heap.size 3 _ 1 8 Try.underlying69 infoI2 rfl (by decide) _ (0 + 0 + 1) _ (by rfl) HA.row ad0 nd0 cd0 ((cellsI2 (zOf zs)).drop (0 * 1)) (by rfl) HP4 (news_old HA.bel hgl2 HP2) (fun u hu => cellsI2_one _ u (List.mem_of_mem_drop hu)) (by unfold maxLen; omega) (by omega) HA.le ?_
                      intro v' w' how hg hv
                      have HA := HA.app how hg
                      clear how hg hv
                      refine hK.out _ _ (HA.bel) (fun hHeld => ?_)
                      clear hK
                      refine wpAnyH_take (i := 12) (oi := ?oo36) (v := ?vv36) ?hi36 (by kernel_rfl) (by kernel_rfl) (by kernel_rfl) ?hQ36 ?hy36 (by assumption) ?rest36
                      case hi36 => (simp only [List.getElem?_toArray, List.getElem?_cons_zero, List.getElem?_cons_succ]; rfl)
                      case hQ36 => exact fun _ _ _ h => h
                      case hy36 => exact Or.inl ⟨by rfl, by intro wS hSw; (try dsimp only at hSw); go_simp; try first | (with_reducible rfl) | (simp only [*]; done) | omega⟩
                      try simp only [Act.put, List.setIfInBounds_toArray, List.set_cons_zero, List.set_cons_succ]
                      refine wpAnyH_done (by kernel_rfl) ?_ _
                      obtain ⟨gN, cN, rfl⟩ := slice_form HA.row (by omega)
                      obtain ⟨hnn, HSP⟩ := spord_step (unhide HP) (unhide HPre) HA
                      have HNN := hide hnn
                      have HSP := hide HSP
                      clear HA hnn
                      go_wp2
                      go_roundw
                      case rel => exact ⟨k + 1, gN, cN, zs.take 0 ++ k :: zs.drop 0, by omega, by go_num, by rw [unhide HNN], HSP⟩
                      case measure => simp [intOf]; omega
            case br27n6 =>
              go_simp
              have HX := InX.start hHeld #[.int .i64 (k : Int)] 3
              refine hK.out _ _ (HX.bel) (fun hHeld => ?_)
              clear hK
              refine wpAnyH_ready (rs := [0]) (by kernel_rfl) (by simp) ?_
              refine (AllReadyH.cons (o := ?bo37n0) ?bh37n0 (fun K hK => ?br37n0) AllReadyH.nil)
              case bh37n0 => (simp only [List.getElem?_toArray, List.getElem?_cons_zero]; rfl)
              case br37n0 =>
                go_simp
                have hsz1 := size_of_held (B := w2.heap.size + 1) hHeld (by first | (simp; done) | rfl)
                have HA := InA.start2 (t := 3) (N := 1) hHeld (unhide hsz1)
                have HN := HX.apart2 (unhide hsz1)
                have HX := HX.alloc (.cells #[] 3)
                refine hK.out _ _ (HA.bel) (fun hHeld => ?_)
                clear hK
                refine wpAnyH_ready (rs := [4]) (by kernel_rfl) (by simp) ?_
                refine (AllReadyH.cons (o := ?bo38n4) ?bh38n4 (fun K hK => ?br38n4) AllReadyH.nil)
                case bh38n4 => (simp only [List.getElem?_toArray, List.getElem?_cons_zero, List.getElem?_cons_succ]; rfl)
                case br38n4 =>
                  refine step_append2 (by rfl) (.tmp 42) (.tmp 45) 69 (by rfl) w2.heap.size 3 _ 1 8 Try.underlying69 infoI2 rfl (by decide) _ 0 _ (by rfl) HA.row ⟨g, 0, none⟩ (0) _ ((cellsI2 (zOf zs)).take (0 * 1)) (by rfl) HP3 (news_old HA.bel hgl HP1) (fun u hu => cellsI2_one _ u (List.mem_of_mem_take hu)) (by unfold maxLen; omega) (by omega) HA.le ?_
                  intro v' w' how hg hv
                  have HN2 := ne_app HX HN hv
                  have HX := HX.app HA HN hg
                  have HN := HN2
                  have HA := HA.app how hg
                  clear how hg hv
                  refine hK.out _ _ (HA.bel) (fun hHeld => ?_)
                  clear hK
                  refine wpAnyH_ready (rs := [7]) (by kernel_rfl) (by simp) ?_
                  refine (AllReadyH.cons (o := ?bo39n7) ?bh39n7 (fun K hK => ?br39n7) AllReadyH.nil)
                  case bh39n7 => (simp only [List.getElem?_toArray, List.getElem?_cons_zero, List.getElem?_cons_succ]; rfl)
                  case br39n7 =>
                    refine step_append2 (by rfl) (.tmp 46) (.tmp 48) 69 (by rfl) w2.heap.size 3 _ 1 8 Try.underlying69 infoI2 rfl (by decide) _ (0 + 0) _ (by rfl) HA.row ⟨_, 0, none⟩ 1 1 [.int .i64 (k : Int)] (by rfl) rfl HX.cell (by intro u hu; simp at hu; subst hu; rfl) (by unfold maxLen; omega) (by omega) HA.le ?_
                    intro v' w' how hg hv
                    have HA := HA.app how hg
                    clear how hg hv
                    refine hK.out _ _ (HA.bel) (fun hHeld => ?_)
                    clear hK
                    refine wpAnyH_ready (rs := [11]) (by kernel_rfl) (by simp) ?_
                    refine (AllReadyH.cons (o := ?bo40n11) ?bh40n11 (fun K hK => ?br40n11) AllReadyH.nil)
                    case bh40n11 => (simp only [List.getElem?_toArray, List.getElem?_cons_zero, List.getElem?_cons_succ]; rfl)
                    case br40n11 =>
                      refine step_append2 (by rfl) (.tmp 49) (.tmp 52) 69 (by rfl) w2.heap.size 3 _ 1 8 Try.underlying69 infoI2 rfl (by decide) _ (0 + 0 + 1) _ (by rfl) HA.row ad0 nd0 cd0 ((cellsI2 (zOf zs)).drop (0 * 1)) (by rfl) HP4 (news_old HA.bel hgl2 HP2) (fun u hu => cellsI2_one _ u (List.mem_of_mem_drop hu)) (by unfold maxLen; omega) (by omega) HA.le ?_
                      intro v' w' how hg hv
                      have HA := HA.app how hg
                      clear how hg hv
                      refine hK.out _ _ (HA.bel) (fun hHeld => ?_)
                      clear hK
                      refine wpAnyH_take (i := 12) (oi := ?oo41) (v := ?vv41) ?hi41 (by kernel_rfl) (by kernel_rfl) (by kernel_rfl) ?hQ41 ?hy41 (by assumption) ?rest41
                      case hi41 => (simp only [List.getElem?_toArray, List.getElem?_cons_zero, List.getElem?_cons_succ]; rfl)
                      case hQ41 => exact fun _ _ _ h => h
                      case hy41 => exact Or.inl ⟨by rfl, by intro wS hSw; (try dsimp only at hSw); go_simp; try first | (with_reducible rfl) | (simp only [*]; done) | omega⟩
                      try simp only [Act.put, List.setIfInBounds_toArray, List.set_cons_zero, List.set_cons_succ]
                      refine wpAnyH_done (by kernel_rfl) ?_ _
                      obtain ⟨gN, cN, rfl⟩ := slice_form HA.row (by omega)
                      obtain ⟨hnn, HSP⟩ := spord_step (unhide HP) (unhide HPre) HA
                      have HNN := hide hnn
                      have HSP := hide HSP
                      clear HA hnn
                      go_wp2
                      go_roundw
                      case rel => exact ⟨k + 1, gN, cN, zs.take 0 ++ k :: zs.drop 0, by omega, by go_num, by rw [unhide HNN], HSP⟩
                      case measure => simp [intOf]; omega
    · have hki : ¬ (k : Int) < (l.length : Int) := by omega
      obtain rfl : k = l.length := by omega
      have HE := (unhide hsp).1.is
      subst HE
      have HR := hide ((unhide hsp).2)
      clear hsp
      go_wp2
      go_ret
      exact ⟨_, rfl, (unhide HR).1, (unhide HR).2⟩
end Go.Proofs.Ytopngelgpfjdeaa
