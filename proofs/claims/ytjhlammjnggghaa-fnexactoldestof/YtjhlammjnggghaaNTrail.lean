/-
  Trail: the contract of the law's marks.
-/
import Derived.Test.YtjhlammjnggghaaMark2
import Derived.Test.YtjhlammjnggghaaNSpan
import Derived.Test.YtjhlammjnggghaaTTrail
namespace Go.Proofs.Ytjhlammjnggghaa
open Go.ChangeShapes Go.WideShapes Go.ChangeAt Go.RowKit
set_option linter.unusedVariables false
set_option maxRecDepth 100000

def trailCnt (x : TrailD) : Nat := 3 + cntL spanCnt x.spans
def mkTrail (x : TrailD) (q : Int) : TrailD := ⟨q, q + 1, q + 1 + 1, markL mkSpan spanCnt x.spans (q + 1 + 1 + 1)⟩
set_option maxHeartbeats 4000000 in
theorem mMarkTrailS (l : List TrailD) (S : Nat → Prop) (v : Value) (k : Int) (w : World) (h0 : 0 < k) (h1 : k + cntL trailCnt l + 4 ≤ 1099511627776) (ha : LOw 4 trailO w S v l) :
    Calls Try.prog 19 #[v, .int .i64 k] w fun e w' => e = .returned (.int .i64 (k + cntL trailCnt l)) ∧ Turn S w w' ∧ LOw 4 trailO w' S v (markL mkTrail trailCnt l k) := by
  obtain ⟨a, cap, rfl, hl, h⟩ := ha
  rcases h with rfl | ⟨b, o, T, rfl, hS, hw, hT, hd, hx⟩
  · go_enter Try.func19, Try.ntmps19
    go_wp2
    go_loopw [1, 5] (fun kk i wk => kk = .int .i64 k ∧ i = .int .i64 0 ∧ wk = w) (fun _ _ _ => 0)
    case atStart => exact ⟨rfl, rfl, rfl⟩
    case round =>
      obtain ⟨rfl, rfl, rfl⟩ := hrel
      go_wp2
      go_ret
      exact ⟨by simp [cntL], Turn.refl _ _, LOw.nil _ _ _ _ _ _⟩
  have HS := hide hS
  have HT := hide (And.intro hT hd)
  have hm0 : Hid (OwRow 4 trailO w b o T (partL mkTrail trailCnt l k 0)) := by
    rw [partL_zero]
    exact hide ⟨hw, fun i x hix => by obtain ⟨cs, g1, g2⟩ := hx i x hix; exact ⟨cs, g1, g2, trailO_len g1⟩⟩
  clear hS hw hT hd hx
  go_enter Try.func19, Try.ntmps19
  go_wp2
  go_loopw [1, 5] (fun kk i wk => ∃ j : Nat, j ≤ l.length ∧ i = .int .i64 j ∧ kk = .int .i64 (k + cntL trailCnt (l.take j)) ∧ Hid (OwRow 4 trailO wk b o T (partL mkTrail trailCnt l k j)) ∧ Hid (Turn S w wk)) (fun _ i _ => l.length - (intOf i).toNat)
  case atStart => exact ⟨0, Nat.zero_le _, rfl, by simp [cntL], hm0, hide (Turn.refl _ _)⟩
  case round =>
    obtain ⟨j, hj, rfl, rfl, hm, htn⟩ := hrel
    clear hm0
    have hle := cntL_le trailCnt l j
    by_cases hlt : j < l.length
    · have hji : (j : Int) < (l.length : Int) := by omega
      have hsn := cntL_snoc trailCnt l j hlt
      have hle2 := cntL_le trailCnt l (j + 1)
      have hpl := partL_len mkTrail trailCnt l k j hj
      obtain ⟨cs, hcs, hin, hcl⟩ := (unhide hm).2 j _ (partL_at mkTrail trailCnt l k j hlt)
      have hwr := (unhide hm).1
      rw [hpl] at hwr
      have hbs := hwr.1
      have hjn : j * 4 + 4 ≤ l.length * 4 := by omega
      have hq : 0 < k + (cntL trailCnt (l.take j) : Int) := by omega
      have HST := hide (partL_step mkTrail trailCnt l k j hlt)
      generalize hX : l[j] = X at *
      have hcx : trailCnt X = 3 + cntL spanCnt X.spans := rfl
      generalize hQ : k + (cntL trailCnt (l.take j) : Int) = Q at *
      have hbd : Q + 3 + (cntL spanCnt X.spans : Nat) + 4 ≤ 1099511627776 := by omega
      have HSN := hide hsn
      have HQ := hide hQ
      have HPL := hide hpl
      clear hX hQ hsn hle hle2 hpl
      obtain ⟨s0, rfl, y0⟩ := hcs
      obtain ⟨a0, k0, rfl⟩ := y0.form
      have cm : wr.cell? ⟨b, o + j * 4 + 3, none⟩ = some (.slice a0 X.spans.length k0) := hin 3 _ rfl
      obtain ⟨u0, hu0⟩ := hwr.cell (j * 4 + 0) (by omega)
      have f0 := hwr.free (j * 4 + 0) (by omega)
      rw [show o + (j * 4 + 0) = o + j * 4 by omega] at hu0 f0
      obtain ⟨u1, hu1⟩ := hwr.cell (j * 4 + 1) (by omega)
      have f1 := hwr.free (j * 4 + 1) (by omega)
      rw [show o + (j * 4 + 1) = o + j * 4 + 1 by omega] at hu1 f1
      obtain ⟨u2, hu2⟩ := hwr.cell (j * 4 + 2) (by omega)
      have f2 := hwr.free (j * 4 + 2) (by omega)
      rw [show o + (j * 4 + 2) = o + j * 4 + 2 by omega] at hu2 f2
      have HW := hide hwr
      have HY := hide y0
      clear hwr y0 hin hcl hcx
      go_wp2_with fail
      generalize hW : World.setCell (World.setCell (World.setCell wr _ _) _ _) _ _ = w1
      have hp : putL b (o + j * 4) [.int .i64 Q, .int .i64 (Q + 1), .int .i64 (Q + 1 + 1)] 0 wr = w1 := hW
      have ht1 := putL_turn b (o + j * 4) [.int .i64 Q, .int .i64 (Q + 1), .int .i64 (Q + 1 + 1)] 0 wr
      have hI1 := putL_at (b := b) (o := o + j * 4) [.int .i64 Q, .int .i64 (Q + 1), .int .i64 (Q + 1 + 1)] 0 (unhide HW) (by omega) (by simp; omega)
      have hw1 := putL_wr (b := b) (o := o + j * 4) [.int .i64 Q, .int .i64 (Q + 1), .int .i64 (Q + 1 + 1)] 0 (unhide HW)
      rw [hp] at ht1 hI1 hw1
      have hc1 : ∀ c, (c < o + j * 4 ∨ o + j * 4 + 3 ≤ c) → w1.cell? ⟨b, c, none⟩ = wr.cell? ⟨b, c, none⟩ := fun c h => by rw [← hp]; exact putL_off _ 0 wr (by simpa using h)
      obtain ⟨hT, hd⟩ := unhide HT
      have hy1 := (unhide HY).turn spanO_keeps ht1 (fun q hq2 e => (hT j q hq2).2 e)
      have HK := hide (And.intro ht1 (And.intro hI1 (And.intro hw1 (And.intro hc1 cm))))
      clear hW hp ht1 hI1 hw1 hc1 hT hd HY HW hu0 f0 hu1 f1 hu2 f2 cm
      refine (mMarkSpanS X.spans (T j) _ (Q + 1 + 1 + 1) w1 (by omega) (by omega) hy1).mono ?_
      rintro e w2 ⟨rfl, ht2, hy2⟩
      have HK2 := hide (And.intro ht2 hy2)
      clear ht2 hy2 hy1
      go_wp2
      go_roundw
      case rel =>
        obtain ⟨ht1, hI1, hw1, hc1, cm⟩ := unhide HK
        obtain ⟨ht2, hy2⟩ := unhide HK2
        obtain ⟨hT, hd⟩ := unhide HT
        have e := unhide HQ
        have hsn := unhide HSN
        have htb : ¬ T j b := fun h => (hT j b h).2 rfl
        have ht : Turn (fun q => q = b ∨ T j q) wr w2 := (ht1.mono (fun q h => .inl h)).trans (ht2.mono (fun q h => .inr h))
        have hin2 : InB w2 b (o + j * 4) ([.int .i64 Q, .int .i64 (Q + 1), .int .i64 (Q + 1 + 1)] ++ [.slice a0 X.spans.length k0]) := by
          intro i u hu
          rw [ht2.cell (p := ⟨b, o + j * 4 + i, none⟩) hw1.1 htb]
          by_cases hi : i < 3
          · rw [List.getElem?_append_left (by simpa using hi)] at hu
            exact hI1 i u hu
          · have hi2 : i = 3 := by
              have := (List.getElem?_eq_some_iff.1 hu).1
              simp at this
              omega
            subst hi2
            rw [hc1 _ (.inr (Nat.le_refl _)), cm]
            simpa using hu
        have st := OwRow.step trailO_keeps (unhide hm) (fun i q h => (hT i q h).2) hd (by rw [unhide HPL]; exact hlt) ht (by rw [unhide HPL]; exact hw1.turn ht2 htb) (fun c hc => by
          rw [ht2.cell (p := ⟨b, c, none⟩) hw1.1 htb]
          exact hc1 c (by omega)) (x' := mkTrail X Q) ⟨_, rfl, hy2⟩ hin2 rfl
        refine ⟨j + 1, by omega, by go_num, ?_, hide ?_, hide ?_⟩
        · congr 1
          have hcx : trailCnt X = 3 + cntL spanCnt X.spans := rfl
          omega
        · rw [unhide HST]; exact st
        · have htS := ht.mono (T := S) (fun q h => h.elim (fun e => e ▸ unhide HS) (fun e => (hT j q e).1))
          exact (unhide htn).trans htS
      case measure => simp [intOf]; omega
    · have hji : ¬ (j : Int) < (l.length : Int) := by omega
      obtain rfl : j = l.length := by omega
      rw [List.take_length]
      go_wp2
      go_ret
      obtain ⟨hT, hd⟩ := unhide HT
      have hm1 := unhide hm
      rw [partL_all] at hm1
      refine ⟨rfl, unhide htn, some ⟨b, o, none⟩, cap, by rw [markL_len], by rw [markL_len]; exact hl, .inr ⟨b, o, T, rfl, unhide HS, hm1.1, hT, hd, fun i x hix => ?_⟩⟩
      obtain ⟨cs, g1, g2, _⟩ := hm1.2 i x hix
      exact ⟨cs, g1, g2⟩
end Go.Proofs.Ytjhlammjnggghaa
