/-
  Span: the contract of the law's marks.
-/
import Derived.Test.YtjhlammjnggghaaMark2
import Derived.Test.YtjhlammjnggghaaMAttr
import Derived.Test.YtjhlammjnggghaaTSpan
namespace Go.Proofs.Ytjhlammjnggghaa
open Go.ChangeShapes Go.WideShapes Go.ChangeAt Go.RowKit
set_option linter.unusedVariables false
set_option maxRecDepth 100000

def spanCnt (x : SpanD) : Nat := 5 + 4 * x.2.2.2.2.2.length
def mkSpan (x : SpanD) (q : Int) : SpanD := (q, q + 1, q + 1 + 1, q + 1 + 1 + 1, ((q + 1 + 1 + 1 + 1) % 3 == 0), mkAttrS x.2.2.2.2.2.length (q + 1 + 1 + 1 + 1 + 1))
set_option maxHeartbeats 4000000 in
theorem mMarkSpanS (l : List SpanD) (S : Nat → Prop) (v : Value) (k : Int) (w : World) (h0 : 0 < k) (h1 : k + cntL spanCnt l + 4 ≤ 1099511627776) (ha : LOw 6 spanO w S v l) :
    Calls Try.prog 105 #[v, .int .i64 k] w fun e w' => e = .returned (.int .i64 (k + cntL spanCnt l)) ∧ Turn S w w' ∧ LOw 6 spanO w' S v (markL mkSpan spanCnt l k) := by
  obtain ⟨a, cap, rfl, hl, h⟩ := ha
  rcases h with rfl | ⟨b, o, T, rfl, hS, hw, hT, hd, hx⟩
  · go_enter Try.func105, Try.ntmps105
    go_wp2
    go_loopw [1, 5] (fun kk i wk => kk = .int .i64 k ∧ i = .int .i64 0 ∧ wk = w) (fun _ _ _ => 0)
    case atStart => exact ⟨rfl, rfl, rfl⟩
    case round =>
      obtain ⟨rfl, rfl, rfl⟩ := hrel
      go_wp2
      go_ret
      exact ⟨by simp [cntL], Turn.refl _ _, LOw.nil _ _ _ _ _ _⟩
  have HS := hide hS
  have HT := hide (And.intro hT hd)
  have hm0 : Hid (OwRow 6 spanO w b o T (partL mkSpan spanCnt l k 0)) := by
    rw [partL_zero]
    exact hide ⟨hw, fun i x hix => by obtain ⟨cs, g1, g2⟩ := hx i x hix; exact ⟨cs, g1, g2, spanO_len g1⟩⟩
  clear hS hw hT hd hx
  go_enter Try.func105, Try.ntmps105
  go_wp2
  go_loopw [1, 5] (fun kk i wk => ∃ j : Nat, j ≤ l.length ∧ i = .int .i64 j ∧ kk = .int .i64 (k + cntL spanCnt (l.take j)) ∧ Hid (OwRow 6 spanO wk b o T (partL mkSpan spanCnt l k j)) ∧ Hid (Turn S w wk)) (fun _ i _ => l.length - (intOf i).toNat)
  case atStart => exact ⟨0, Nat.zero_le _, rfl, by simp [cntL], hm0, hide (Turn.refl _ _)⟩
  case round =>
    obtain ⟨j, hj, rfl, rfl, hm, htn⟩ := hrel
    clear hm0
    have hle := cntL_le spanCnt l j
    by_cases hlt : j < l.length
    · have hji : (j : Int) < (l.length : Int) := by omega
      have hsn := cntL_snoc spanCnt l j hlt
      have hle2 := cntL_le spanCnt l (j + 1)
      have hpl := partL_len mkSpan spanCnt l k j hj
      obtain ⟨cs, hcs, hin, hcl⟩ := (unhide hm).2 j _ (partL_at mkSpan spanCnt l k j hlt)
      have hwr := (unhide hm).1
      rw [hpl] at hwr
      have hbs := hwr.1
      have hjn : j * 6 + 6 ≤ l.length * 6 := by omega
      have hq : 0 < k + (cntL spanCnt (l.take j) : Int) := by omega
      have HST := hide (partL_step mkSpan spanCnt l k j hlt)
      generalize hX : l[j] = X at *
      have hcx : spanCnt X = 5 + 4 * X.2.2.2.2.2.length := rfl
      generalize hQ : k + (cntL spanCnt (l.take j) : Int) = Q at *
      have hbd : Q + 5 + (4 * X.2.2.2.2.2.length : Nat) + 4 ≤ 1099511627776 := by omega
      have HSN := hide hsn
      have HQ := hide hQ
      have HPL := hide hpl
      clear hX hQ hsn hle hle2 hpl
      obtain ⟨s0, rfl, y0⟩ := hcs
      obtain ⟨a0, k0, rfl⟩ := y0.form
      have cm : wr.cell? ⟨b, o + j * 6 + 5, none⟩ = some (.slice a0 X.2.2.2.2.2.length k0) := hin 5 _ rfl
      obtain ⟨u0, hu0⟩ := hwr.cell (j * 6 + 0) (by omega)
      have f0 := hwr.free (j * 6 + 0) (by omega)
      rw [show o + (j * 6 + 0) = o + j * 6 by omega] at hu0 f0
      obtain ⟨u1, hu1⟩ := hwr.cell (j * 6 + 1) (by omega)
      have f1 := hwr.free (j * 6 + 1) (by omega)
      rw [show o + (j * 6 + 1) = o + j * 6 + 1 by omega] at hu1 f1
      obtain ⟨u2, hu2⟩ := hwr.cell (j * 6 + 2) (by omega)
      have f2 := hwr.free (j * 6 + 2) (by omega)
      rw [show o + (j * 6 + 2) = o + j * 6 + 2 by omega] at hu2 f2
      obtain ⟨u3, hu3⟩ := hwr.cell (j * 6 + 3) (by omega)
      have f3 := hwr.free (j * 6 + 3) (by omega)
      rw [show o + (j * 6 + 3) = o + j * 6 + 3 by omega] at hu3 f3
      obtain ⟨u4, hu4⟩ := hwr.cell (j * 6 + 4) (by omega)
      have f4 := hwr.free (j * 6 + 4) (by omega)
      rw [show o + (j * 6 + 4) = o + j * 6 + 4 by omega] at hu4 f4
      have HW := hide hwr
      have HY := hide y0
      clear hwr y0 hin hcl hcx
      go_wp2_with fail
      generalize hW : World.setCell (World.setCell (World.setCell (World.setCell (World.setCell wr _ _) _ _) _ _) _ _) _ _ = w1
      have hp : putL b (o + j * 6) [.int .i64 Q, .int .i64 (Q + 1), .int .i64 (Q + 1 + 1), .int .i64 (Q + 1 + 1 + 1), .bool ((Q + 1 + 1 + 1 + 1) % 3 == 0)] 0 wr = w1 := hW
      have ht1 := putL_turn b (o + j * 6) [.int .i64 Q, .int .i64 (Q + 1), .int .i64 (Q + 1 + 1), .int .i64 (Q + 1 + 1 + 1), .bool ((Q + 1 + 1 + 1 + 1) % 3 == 0)] 0 wr
      have hI1 := putL_at (b := b) (o := o + j * 6) [.int .i64 Q, .int .i64 (Q + 1), .int .i64 (Q + 1 + 1), .int .i64 (Q + 1 + 1 + 1), .bool ((Q + 1 + 1 + 1 + 1) % 3 == 0)] 0 (unhide HW) (by omega) (by simp; omega)
      have hw1 := putL_wr (b := b) (o := o + j * 6) [.int .i64 Q, .int .i64 (Q + 1), .int .i64 (Q + 1 + 1), .int .i64 (Q + 1 + 1 + 1), .bool ((Q + 1 + 1 + 1 + 1) % 3 == 0)] 0 (unhide HW)
      rw [hp] at ht1 hI1 hw1
      have hc1 : ∀ c, (c < o + j * 6 ∨ o + j * 6 + 5 ≤ c) → w1.cell? ⟨b, c, none⟩ = wr.cell? ⟨b, c, none⟩ := fun c h => by rw [← hp]; exact putL_off _ 0 wr (by simpa using h)
      obtain ⟨hT, hd⟩ := unhide HT
      have hy1 := (unhide HY).turn attrO_keeps ht1 (fun q hq2 e => (hT j q hq2).2 e)
      have HK := hide (And.intro ht1 (And.intro hI1 (And.intro hw1 (And.intro hc1 cm))))
      clear hW hp ht1 hI1 hw1 hc1 hT hd HY HW hu0 f0 hu1 f1 hu2 f2 hu3 f3 hu4 f4 cm
      refine (mMarkAttrS X.2.2.2.2.2 (T j) _ (Q + 1 + 1 + 1 + 1 + 1) w1 (by omega) (by omega) hy1).mono ?_
      rintro e w2 ⟨rfl, ht2, hy2⟩
      have HK2 := hide (And.intro ht2 hy2)
      clear ht2 hy2 hy1
      go_wp2
      go_roundw
      case rel =>
        obtain ⟨ht1, hI1, hw1, hc1, cm⟩ := unhide HK
        obtain ⟨ht2, hy2⟩ := unhide HK2
        obtain ⟨hT, hd⟩ := unhide HT
        have e := unhide HQ
        have hsn := unhide HSN
        have htb : ¬ T j b := fun h => (hT j b h).2 rfl
        have ht : Turn (fun q => q = b ∨ T j q) wr w2 := (ht1.mono (fun q h => .inl h)).trans (ht2.mono (fun q h => .inr h))
        have hin2 : InB w2 b (o + j * 6) ([.int .i64 Q, .int .i64 (Q + 1), .int .i64 (Q + 1 + 1), .int .i64 (Q + 1 + 1 + 1), .bool ((Q + 1 + 1 + 1 + 1) % 3 == 0)] ++ [.slice a0 X.2.2.2.2.2.length k0]) := by
          intro i u hu
          rw [ht2.cell (p := ⟨b, o + j * 6 + i, none⟩) hw1.1 htb]
          by_cases hi : i < 5
          · rw [List.getElem?_append_left (by simpa using hi)] at hu
            exact hI1 i u hu
          · have hi2 : i = 5 := by
              have := (List.getElem?_eq_some_iff.1 hu).1
              simp at this
              omega
            subst hi2
            rw [hc1 _ (.inr (Nat.le_refl _)), cm]
            simpa using hu
        have st := OwRow.step spanO_keeps (unhide hm) (fun i q h => (hT i q h).2) hd (by rw [unhide HPL]; exact hlt) ht (by rw [unhide HPL]; exact hw1.turn ht2 htb) (fun c hc => by
          rw [ht2.cell (p := ⟨b, c, none⟩) hw1.1 htb]
          exact hc1 c (by omega)) (x' := mkSpan X Q) ⟨_, rfl, hy2⟩ hin2 rfl
        refine ⟨j + 1, by omega, by go_num, ?_, hide ?_, hide ?_⟩
        · congr 1
          have hcx : spanCnt X = 5 + 4 * X.2.2.2.2.2.length := rfl
          omega
        · rw [unhide HST]; exact st
        · have htS := ht.mono (T := S) (fun q h => h.elim (fun e => e ▸ unhide HS) (fun e => (hT j q e).1))
          exact (unhide htn).trans htS
      case measure => simp [intOf]; omega
    · have hji : ¬ (j : Int) < (l.length : Int) := by omega
      obtain rfl : j = l.length := by omega
      rw [List.take_length]
      go_wp2
      go_ret
      obtain ⟨hT, hd⟩ := unhide HT
      have hm1 := unhide hm
      rw [partL_all] at hm1
      refine ⟨rfl, unhide htn, some ⟨b, o, none⟩, cap, by rw [markL_len], by rw [markL_len]; exact hl, .inr ⟨b, o, T, rfl, unhide HS, hm1.1, hT, hd, fun i x hix => ?_⟩⟩
      obtain ⟨cs, g1, g2, _⟩ := hm1.2 i x hix
      exact ⟨cs, g1, g2⟩
end Go.Proofs.Ytjhlammjnggghaa
