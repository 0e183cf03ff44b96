/-
  Stripe: the contract of the law's marks.
-/
import Derived.Test.YtjhlammjnggghaaMark2
import Derived.Test.YtjhlammjnggghaaNTrail
import Derived.Test.YtjhlammjnggghaaTStripe
namespace Go.Proofs.Ytjhlammjnggghaa
open Go.ChangeShapes Go.WideShapes Go.ChangeAt Go.RowKit
set_option linter.unusedVariables false
set_option maxRecDepth 100000

def stripeCnt (x : StripeD) : Nat := 1 + cntL trailCnt x.l
def mkStripe (x : StripeD) (q : Int) : StripeD := ⟨q, markL mkTrail trailCnt x.l (q + 1)⟩
set_option maxHeartbeats 4000000 in
theorem mMarkStripeS (l : List StripeD) (S : Nat → Prop) (v : Value) (k : Int) (w : World) (h0 : 0 < k) (h1 : k + cntL stripeCnt l + 4 ≤ 1099511627776) (ha : LOw 2 stripeO w S v l) :
    Calls Try.prog 28 #[v, .int .i64 k] w fun e w' => e = .returned (.int .i64 (k + cntL stripeCnt l)) ∧ Turn S w w' ∧ LOw 2 stripeO w' S v (markL mkStripe stripeCnt l k) := by
  obtain ⟨a, cap, rfl, hl, h⟩ := ha
  rcases h with rfl | ⟨b, o, T, rfl, hS, hw, hT, hd, hx⟩
  · go_enter Try.func28, Try.ntmps28
    go_wp2
    go_loopw [1, 5] (fun kk i wk => kk = .int .i64 k ∧ i = .int .i64 0 ∧ wk = w) (fun _ _ _ => 0)
    case atStart => exact ⟨rfl, rfl, rfl⟩
    case round =>
      obtain ⟨rfl, rfl, rfl⟩ := hrel
      go_wp2
      go_ret
      exact ⟨by simp [cntL], Turn.refl _ _, LOw.nil _ _ _ _ _ _⟩
  have HS := hide hS
  have HT := hide (And.intro hT hd)
  have hm0 : Hid (OwRow 2 stripeO w b o T (partL mkStripe stripeCnt l k 0)) := by
    rw [partL_zero]
    exact hide ⟨hw, fun i x hix => by obtain ⟨cs, g1, g2⟩ := hx i x hix; exact ⟨cs, g1, g2, stripeO_len g1⟩⟩
  clear hS hw hT hd hx
  go_enter Try.func28, Try.ntmps28
  go_wp2
  go_loopw [1, 5] (fun kk i wk => ∃ j : Nat, j ≤ l.length ∧ i = .int .i64 j ∧ kk = .int .i64 (k + cntL stripeCnt (l.take j)) ∧ Hid (OwRow 2 stripeO wk b o T (partL mkStripe stripeCnt l k j)) ∧ Hid (Turn S w wk)) (fun _ i _ => l.length - (intOf i).toNat)
  case atStart => exact ⟨0, Nat.zero_le _, rfl, by simp [cntL], hm0, hide (Turn.refl _ _)⟩
  case round =>
    obtain ⟨j, hj, rfl, rfl, hm, htn⟩ := hrel
    clear hm0
    have hle := cntL_le stripeCnt l j
    by_cases hlt : j < l.length
    · have hji : (j : Int) < (l.length : Int) := by omega
      have hsn := cntL_snoc stripeCnt l j hlt
      have hle2 := cntL_le stripeCnt l (j + 1)
      have hpl := partL_len mkStripe stripeCnt l k j hj
      obtain ⟨cs, hcs, hin, hcl⟩ := (unhide hm).2 j _ (partL_at mkStripe stripeCnt l k j hlt)
      have hwr := (unhide hm).1
      rw [hpl] at hwr
      have hbs := hwr.1
      have hjn : j * 2 + 2 ≤ l.length * 2 := by omega
      have hq : 0 < k + (cntL stripeCnt (l.take j) : Int) := by omega
      have HST := hide (partL_step mkStripe stripeCnt l k j hlt)
      generalize hX : l[j] = X at *
      have hcx : stripeCnt X = 1 + cntL trailCnt X.l := rfl
      generalize hQ : k + (cntL stripeCnt (l.take j) : Int) = Q at *
      have hbd : Q + 1 + (cntL trailCnt X.l : Nat) + 4 ≤ 1099511627776 := by omega
      have HSN := hide hsn
      have HQ := hide hQ
      have HPL := hide hpl
      clear hX hQ hsn hle hle2 hpl
      obtain ⟨s0, rfl, y0⟩ := hcs
      obtain ⟨a0, k0, rfl⟩ := y0.form
      have cm : wr.cell? ⟨b, o + j * 2 + 1, none⟩ = some (.slice a0 X.l.length k0) := hin 1 _ rfl
      obtain ⟨u0, hu0⟩ := hwr.cell (j * 2 + 0) (by omega)
      have f0 := hwr.free (j * 2 + 0) (by omega)
      rw [show o + (j * 2 + 0) = o + j * 2 by omega] at hu0 f0
      have HW := hide hwr
      have HY := hide y0
      clear hwr y0 hin hcl hcx
      go_wp2_with fail
      generalize hW : World.setCell wr _ _ = w1
      have hp : putL b (o + j * 2) [.int .i64 Q] 0 wr = w1 := hW
      have ht1 := putL_turn b (o + j * 2) [.int .i64 Q] 0 wr
      have hI1 := putL_at (b := b) (o := o + j * 2) [.int .i64 Q] 0 (unhide HW) (by omega) (by simp; omega)
      have hw1 := putL_wr (b := b) (o := o + j * 2) [.int .i64 Q] 0 (unhide HW)
      rw [hp] at ht1 hI1 hw1
      have hc1 : ∀ c, (c < o + j * 2 ∨ o + j * 2 + 1 ≤ c) → w1.cell? ⟨b, c, none⟩ = wr.cell? ⟨b, c, none⟩ := fun c h => by rw [← hp]; exact putL_off _ 0 wr (by simpa using h)
      obtain ⟨hT, hd⟩ := unhide HT
      have hy1 := (unhide HY).turn trailO_keeps ht1 (fun q hq2 e => (hT j q hq2).2 e)
      have HK := hide (And.intro ht1 (And.intro hI1 (And.intro hw1 (And.intro hc1 cm))))
      clear hW hp ht1 hI1 hw1 hc1 hT hd HY HW hu0 f0 cm
      refine (mMarkTrailS X.l (T j) _ (Q + 1) w1 (by omega) (by omega) hy1).mono ?_
      rintro e w2 ⟨rfl, ht2, hy2⟩
      have HK2 := hide (And.intro ht2 hy2)
      clear ht2 hy2 hy1
      go_wp2
      go_roundw
      case rel =>
        obtain ⟨ht1, hI1, hw1, hc1, cm⟩ := unhide HK
        obtain ⟨ht2, hy2⟩ := unhide HK2
        obtain ⟨hT, hd⟩ := unhide HT
        have e := unhide HQ
        have hsn := unhide HSN
        have htb : ¬ T j b := fun h => (hT j b h).2 rfl
        have ht : Turn (fun q => q = b ∨ T j q) wr w2 := (ht1.mono (fun q h => .inl h)).trans (ht2.mono (fun q h => .inr h))
        have hin2 : InB w2 b (o + j * 2) ([.int .i64 Q] ++ [.slice a0 X.l.length k0]) := by
          intro i u hu
          rw [ht2.cell (p := ⟨b, o + j * 2 + i, none⟩) hw1.1 htb]
          by_cases hi : i < 1
          · rw [List.getElem?_append_left (by simpa using hi)] at hu
            exact hI1 i u hu
          · have hi2 : i = 1 := by
              have := (List.getElem?_eq_some_iff.1 hu).1
              simp at this
              omega
            subst hi2
            rw [hc1 _ (.inr (Nat.le_refl _)), cm]
            simpa using hu
        have st := OwRow.step stripeO_keeps (unhide hm) (fun i q h => (hT i q h).2) hd (by rw [unhide HPL]; exact hlt) ht (by rw [unhide HPL]; exact hw1.turn ht2 htb) (fun c hc => by
          rw [ht2.cell (p := ⟨b, c, none⟩) hw1.1 htb]
          exact hc1 c (by omega)) (x' := mkStripe X Q) ⟨_, rfl, hy2⟩ hin2 rfl
        refine ⟨j + 1, by omega, by go_num, ?_, hide ?_, hide ?_⟩
        · congr 1
          have hcx : stripeCnt X = 1 + cntL trailCnt X.l := rfl
          omega
        · rw [unhide HST]; exact st
        · have htS := ht.mono (T := S) (fun q h => h.elim (fun e => e ▸ unhide HS) (fun e => (hT j q e).1))
          exact (unhide htn).trans htS
      case measure => simp [intOf]; omega
    · have hji : ¬ (j : Int) < (l.length : Int) := by omega
      obtain rfl : j = l.length := by omega
      rw [List.take_length]
      go_wp2
      go_ret
      obtain ⟨hT, hd⟩ := unhide HT
      have hm1 := unhide hm
      rw [partL_all] at hm1
      refine ⟨rfl, unhide htn, some ⟨b, o, none⟩, cap, by rw [markL_len], by rw [markL_len]; exact hl, .inr ⟨b, o, T, rfl, unhide HS, hm1.1, hT, hd, fun i x hix => ?_⟩⟩
      obtain ⟨cs, g1, g2, _⟩ := hm1.2 i x hix
      exact ⟨cs, g1, g2⟩
end Go.Proofs.Ytjhlammjnggghaa
