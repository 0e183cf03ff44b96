/-
  Lists that are grown by append while a cursor is drawn from: what they hold stays as it is.
-/
import Derived.Test.YtpmgnjchfleicadDraw
import Derived.Test.YtpmgnjchfleicadInts
import Derived.OwnWalk
import Derived.Laws.OwnMore
namespace Go.Proofs.Ytpmgnjchfleicad
open Go.ChangeShapes Go.WideShapes Go.ChangeAt Go.RowKit
set_option linter.unusedVariables false
variable {B : Nat}

theorem ownsTurns {b base : Nat} {w w' : World} {e : TypeId} {size : Nat} {v : Value} {n : Nat} {xs : List Value} (h : w.ownsRow base e size v n xs) (ht : Turns b w w') (hb : b < base) : w'.ownsRow base e size v n xs := by
  obtain ⟨h1, h2⟩ := h
  refine ⟨h1, ?_⟩
  rcases h2 with h2 | ⟨g, cap, cur, hv, hg, hh, rest⟩
  · exact .inl h2
  · have hlt : g < w.heap.size := by
      rcases Nat.lt_or_ge g w.heap.size with h | h
      · exact h
      · rw [Array.getElem?_eq_none h] at hh; cases hh
    exact .inr ⟨g, cap, cur, hv, hg, by rw [ht.block g hlt (by omega)]; exact hh, rest⟩
theorem ownsBelow {base : Nat} {w w' : World} {e : TypeId} {size : Nat} {v : Value} {n : Nat} {xs : List Value} (h : w.ownsRow base e size v n xs) (ht : Below w.heap.size w w') : w'.ownsRow base e size v n xs := by
  obtain ⟨h1, h2⟩ := h
  refine ⟨h1, ?_⟩
  rcases h2 with h2 | ⟨g, cap, cur, hv, hg, hh, rest⟩
  · exact .inl h2
  · have hlt : g < w.heap.size := by
      rcases Nat.lt_or_ge g w.heap.size with h | h
      · exact h
      · rw [Array.getElem?_eq_none h] at hh; cases hh
    exact .inr ⟨g, cap, cur, hv, hg, by rw [ht.block g hlt]; exact hh, rest⟩
theorem lit_cells (w : World) (cs : List Value) (t : TypeId) : ∀ j u, cs[j]? = some u → (w.alloc (.cells cs.toArray t)).cell? ((⟨w.heap.size, 0, none⟩ : Addr).add j) = some u := by
  intro j u hu
  have e : (⟨w.heap.size, 0, none⟩ : Addr).add j = ⟨w.heap.size, j, none⟩ := by unfold Addr.add; split <;> simp_all
  rw [e, World.cell?_alloc_at _ _ _ _ rfl]
  simpa using hu
def cellsI (zs : List Int) : List Value := zs.map fun z => Value.int .i64 z
theorem cellsI_snoc (zs : List Int) (z : Int) : cellsI (zs ++ [z]) = cellsI zs ++ [.int .i64 z] := by simp [cellsI]
theorem owned_list {w : World} {base : Nat} {t : TypeId} {v : Value} {zs : List Int} (h : w.ownsRow base t 1 v zs.length (cellsI zs)) (hl : zs.length ≤ 9223372036854775807) : IntsAt w v zs := by
  obtain ⟨h1, h2⟩ := h
  rcases h2 with ⟨rfl, h0⟩ | ⟨g, cap, cur, rfl, hg, hh, hc, hm, hs, ht⟩
  · obtain rfl := List.length_eq_zero_iff.1 h0
    exact ⟨none, 0, rfl, by simp, .inl rfl⟩
  · have how : w.ownsRow base t 1 (.slice (some ⟨g, 0, none⟩) zs.length cap) zs.length (cellsI zs) := ⟨h1, .inr ⟨g, cap, cur, rfl, hg, hh, hc, hm, hs, ht⟩⟩
    have hlt : g < w.heap.size := by
      rcases Nat.lt_or_ge g w.heap.size with h | h
      · exact h
      · rw [Array.getElem?_eq_none h] at hh; cases hh
    refine ⟨_, cap, rfl, hl, .inr ⟨g, 0, rfl, hlt, fun i hi => ?_⟩⟩
    rw [Nat.zero_add, how.cellAt i (by omega)]
    simp [cellsI, List.getD, hi]

def Drawn2 (w' : World) (e : Ending) : Prop := ∃ (zs : List Int) (v : Value) (j : Int), e = .returned (.tuple #[v, .int .i64 j]) ∧ zs.length ≤ 8 ∧ IntsAt w' v zs
set_option maxHeartbeats 1000000 in
theorem DrawSpread_any (a : Option Addr) (len cap : Nat) (w : World) (hl : len ≤ 1048576) (hy : Bytes w a len) :
    Calls Try.prog 18 #[.slice a len cap] w fun e w' => Drawn2 w' e ∧ Below w.heap.size w w' := by
  obtain ⟨i0, hi, hz0, hz1, hz2⟩ := info_parts infoInt
  go_enter Try.func18, Try.ntmps18
  go_wp2_with fail
  refine (l1New_any a len cap w hl hy).mono ?_
  rintro e w1 ⟨b, rfl, hb, hc1, hw1⟩
  have hs1 := hw1.size
  have hlt1 := hc1.high
  go_wp2_with fail
  refine (l1Below_any b 9 (by omega) _ (hc1.keep (bnew _ _))).mono ?_
  rintro e w2 ⟨⟨x, rfl, hx0, hx1⟩, hc2, ht2⟩
  obtain ⟨m, rfl⟩ := Int.eq_ofNat_of_zero_le hx0
  have hown0 : w2.ownsRow (b + 1) 3 1 (.slice (some ⟨w1.heap.size, 0, none⟩) 0 0) 0 (cellsI []) := ownsTurns (World.ownsRow_made w1 #[] 0 hlt1 (by unfold maxLen; omega) rfl) ht2 (by omega)
  have B2 : Below w.heap.size w w2 := (bthen hw1 (bnew _ _)).trans (ht2.below hb (by simp; omega))
  clear ht2 hc1 hw1
  go_wp2
  go_loopw [5, 6] (fun o i wk => ∃ (k : Nat) (zs : List Int), k + zs.length ≤ 8 ∧ i = .int .i64 k ∧ wk.ownsRow (b + 1) 3 1 o zs.length (cellsI zs) ∧ Cur (b + 1) wk b ∧ Below w.heap.size w wk) (fun _ i _ => (intOf i).toNat)
  case atStart => exact ⟨m, [], by simp; omega, rfl, hown0, hc2, B2⟩
  case round =>
    obtain ⟨k, zs, hk, rfl, hown, hc, hbl⟩ := hrel
    have hbs := hbl.size
    by_cases hlt : 0 < k
    · have hki : (0 : Int) < (k : Int) := by omega
      clear hown0 hc2 B2
      go_wp2_with fail
      refine (l1Below_any b 50 (by omega) _ hc).mono ?_
      rintro e w3 ⟨⟨y, rfl, hy0, hy1⟩, hc3, ht3⟩
      have hown3 := ownsTurns hown ht3 (by omega)
      have B3 : Below w.heap.size w w3 := hbl.trans (ht3.below hb hbs)
      have hbs3 := B3.size
      have hlt3 := hc3.high
      clear hown hc ht3 hbl
      go_wp2_with (first | (at_builtin; refine wpList_append_own _ rfl (.tmp 16) (.tmp 19) 22 rfl (b + 1) 3 i0 (.int .i64 0) 1 8 Try.underlying22 hi hz0 hz1 hz2 rfl (by decide) _ _ _ rfl (hown3.alloc _) ⟨_, 0, none⟩ 1 1 [.int .i64 y] rfl rfl ?_ (by intro u hu; simp at hu; subst hu; rfl) (by unfold maxLen; omega) (by omega) ?_ ?_))
      · exact lit_cells w3 [.int .i64 y] 3
      · simp; omega
      · intro v' w' how hgr hnil
        have hB := (B3.alloc hbs3 (.cells #[.int .i64 y] 3)).grown hgr (by simp; omega) (fun j hj => by have := (hown3.lt j hj).1; omega)
        have hC : Cur (b + 1) w' b := (hc3.keep (bnew _ _)).keepB ((Below.refl (b + 1) _).grown hgr (by simp; omega) (fun j hj => (hown3.lt j hj).1))
        go_wp2
        exact ⟨⟨k - 1, zs ++ [y], by simp; omega, by go_num, by rw [cellsI_snoc]; simpa using how, hC, hB⟩, by simp [intOf]; omega⟩
    · have hki : ¬ (0 : Int) < (k : Int) := by omega
      clear hown0 hc2 B2
      go_wp2_with fail
      refine (l1Below_any b 6 (by omega) _ hc).mono ?_
      rintro e w3 ⟨⟨y, rfl, hy0, hy1⟩, hc3, ht3⟩
      have hown3 := ownsTurns hown ht3 (by omega)
      have B3 : Below w.heap.size w w3 := hbl.trans (ht3.below hb hbs)
      go_wp2
      go_ret2
      exact ⟨⟨zs, _, _, rfl, by omega, owned_list hown3 (by omega)⟩, B3⟩

set_option maxHeartbeats 1000000 in
theorem lawSameInts (l : List Int) (v v' : Value) (w : World) (ha : IntsAt w v l) (hb : IntsAt w v' l) :
    Calls Try.prog 21 #[v, v'] w fun e w' => e = .returned (.bool true) ∧ Below w.heap.size w w' := by
  obtain ⟨a, cap, rfl⟩ := ha.form
  obtain ⟨a', cap', rfl⟩ := hb.form
  have hl := ha.len
  have HA := hide ha
  have HB := hide hb
  clear ha hb
  go_enter Try.func21, Try.ntmps21
  go_wp2
  go_loopw [5] (fun i wk => ∃ k : Nat, k ≤ l.length ∧ i = .int .i64 k ∧ Below w.heap.size w wk) (fun i _ => l.length - (intOf i).toNat)
  case atStart => exact ⟨0, Nat.zero_le _, rfl, Below.refl _ _⟩
  case round =>
    obtain ⟨k, hk, rfl, hbl⟩ := hrel
    by_cases hlt : k < l.length
    · obtain ⟨b, o, rfl, hbk, c0⟩ := (unhide HA).at k hlt
      obtain ⟨b', o', rfl, hbk', d0⟩ := (unhide HB).at k hlt
      generalize l.getD k 0 = x at *
      rw [← hbl.cell hbk] at c0
      rw [← hbl.cell hbk'] at d0
      have hki : (k : Int) < (l.length : Int) := by omega
      go_wp2_with fail
      go_quiet (fail)
      go_wp2
      go_roundw
      case rel => exact ⟨k + 1, by omega, by go_num, by (repeat (first | with_reducible assumption | with_reducible exact Below.refl _ _ | with_reducible refine Below.drew ?_ | with_reducible refine bdrewN ?_ _ | (with_reducible refine Below.alloc ?_ ?side _; case side => (first | omega | (simp [go_sem]; done) | (simp [go_sem]; omega))) | (with_reducible refine Below.setCell ?_ ?side _; case side => (first | omega | (simp [go_sem]; done) | (simp [go_sem]; omega)))))⟩
      case measure => simp [intOf]; omega
    · have hki : ¬ (k : Int) < (l.length : Int) := by omega
      go_wp2
      go_ret
      exact ⟨rfl, hbl⟩

end Go.Proofs.Ytpmgnjchfleicad
