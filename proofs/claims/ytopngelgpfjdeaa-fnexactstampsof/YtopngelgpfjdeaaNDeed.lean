/-
  Deed: the contract of the law's marks.
-/
import Derived.Test.YtopngelgpfjdeaaMark2
import Derived.Test.YtopngelgpfjdeaaMark3
import Derived.Test.YtopngelgpfjdeaaMAttr
import Derived.Test.YtopngelgpfjdeaaTDeed
namespace Go.Proofs.Ytopngelgpfjdeaa
open Go.ChangeShapes Go.WideShapes Go.ChangeAt Go.RowKit
set_option linter.unusedVariables false
set_option maxRecDepth 100000

def deedCnt (x : DeedD) : Nat := 19 + 4 * x.s.2.2.2.2.2.length
theorem deedS_cnt (l : List DeedD) : cntL deedCnt l ≤ 19 * bulkL deedBulk l := cnt_bulk _ _ 19 (fun x => by
  have := bulkL_len attrBulk x.s.2.2.2.2.2
  unfold deedCnt deedBulk
  omega) l
def mkDeed2 (s : SpanD) (z : Int) (o t : Int) : DeedD := ⟨o, t, s, z, z + 1, z + 1 + 1, ((z + 1 + 1 + 1) % 3 == 0), ((z + 1 + 1 + 1 + 1) % 3 == 0), z + 1 + 1 + 1 + 1 + 1, z + 1 + 1 + 1 + 1 + 1 + 1, z + 1 + 1 + 1 + 1 + 1 + 1 + 1, z + 1 + 1 + 1 + 1 + 1 + 1 + 1 + 1, z + 1 + 1 + 1 + 1 + 1 + 1 + 1 + 1 + 1, z + 1 + 1 + 1 + 1 + 1 + 1 + 1 + 1 + 1 + 1, z + 1 + 1 + 1 + 1 + 1 + 1 + 1 + 1 + 1 + 1 + 1⟩
def mkDeed (x : DeedD) (q : Int) : DeedD := mkDeed2 (q + 1 + 1, q + 1 + 1 + 1, q + 1 + 1 + 1 + 1, q + 1 + 1 + 1 + 1 + 1, ((q + 1 + 1 + 1 + 1 + 1 + 1) % 3 == 0), mkAttrS x.s.2.2.2.2.2.length (q + 1 + 1 + 1 + 1 + 1 + 1 + 1)) (q + 1 + 1 + 1 + 1 + 1 + 1 + 1 + 4 * (x.s.2.2.2.2.2.length : Int)) (q) (q + 1)
set_option maxHeartbeats 8000000 in
theorem mMarkDeedS (l : List DeedD) (S : Nat → Prop) (v : Value) (k : Int) (w : World) (h0 : 0 < k) (h1 : k + cntL deedCnt l + 4 ≤ 1099511627776) (ha : LOw 20 deedO w S v l) :
    Calls Try.prog 27 #[v, .int .i64 k] w fun e w' => e = .returned (.int .i64 (k + cntL deedCnt l)) ∧ Turn S w w' ∧ LOw 20 deedO w' S v (markL mkDeed deedCnt l k) := by
  obtain ⟨a, cap, rfl, hl, h⟩ := ha
  rcases h with rfl | ⟨b, o, T, rfl, hS, hw, hT, hd, hx⟩
  · go_enter Try.func27, Try.ntmps27
    go_wp2
    go_loopw [1, 5] (fun kk i wk => kk = .int .i64 k ∧ i = .int .i64 0 ∧ wk = w) (fun _ _ _ => 0)
    case atStart => exact ⟨rfl, rfl, rfl⟩
    case round =>
      obtain ⟨rfl, rfl, rfl⟩ := hrel
      go_wp2
      go_ret
      exact ⟨by simp [cntL], Turn.refl _ _, LOw.nil _ _ _ _ _ _⟩
  have HS := hide hS
  have HT := hide (And.intro hT hd)
  have hm0 : Hid (OwRow 20 deedO w b o T (partL mkDeed deedCnt l k 0)) := by
    rw [partL_zero]
    exact hide ⟨hw, fun i x hix => by obtain ⟨cs, g1, g2⟩ := hx i x hix; exact ⟨cs, g1, g2, deedO_len g1⟩⟩
  clear hS hw hT hd hx
  go_enter Try.func27, Try.ntmps27
  go_wp2
  go_loopw [1, 5] (fun kk i wk => ∃ j : Nat, j ≤ l.length ∧ i = .int .i64 j ∧ kk = .int .i64 (k + cntL deedCnt (l.take j)) ∧ Hid (OwRow 20 deedO wk b o T (partL mkDeed deedCnt l k j)) ∧ Hid (Turn S w wk)) (fun _ i _ => l.length - (intOf i).toNat)
  case atStart => exact ⟨0, Nat.zero_le _, rfl, by simp [cntL], hm0, hide (Turn.refl _ _)⟩
  case round =>
    obtain ⟨j, hj, rfl, rfl, hm, htn⟩ := hrel
    clear hm0
    have hle := cntL_le deedCnt l j
    by_cases hlt : j < l.length
    · have hji : (j : Int) < (l.length : Int) := by omega
      have hsn := cntL_snoc deedCnt l j hlt
      have hle2 := cntL_le deedCnt l (j + 1)
      have hpl := partL_len mkDeed deedCnt l k j hj
      obtain ⟨cs, hcs, hin, hcl⟩ := (unhide hm).2 j _ (partL_at mkDeed deedCnt l k j hlt)
      have hwr := (unhide hm).1
      rw [hpl] at hwr
      have hbs := hwr.1
      have hjn : j * 20 + 20 ≤ l.length * 20 := by omega
      have hq : 0 < k + (cntL deedCnt (l.take j) : Int) := by omega
      have HST := hide (partL_step mkDeed deedCnt l k j hlt)
      generalize hX : l[j] = X at *
      have hcx : deedCnt X = 19 + 4 * X.s.2.2.2.2.2.length := rfl
      generalize hQ : k + (cntL deedCnt (l.take j) : Int) = Q at *
      have hbd : Q + 19 + (4 * X.s.2.2.2.2.2.length : Nat) + 4 ≤ 1099511627776 := by omega
      have HSN := hide hsn
      have HQ := hide hQ
      have HPL := hide hpl
      clear hX hQ hsn hle hle2 hpl
      obtain ⟨s0, rfl, y0⟩ := hcs
      obtain ⟨a0, k0, rfl⟩ := y0.form
      have cm : wr.cell? ⟨b, o + j * 20 + 7, none⟩ = some (.slice a0 X.s.2.2.2.2.2.length k0) := hin 7 _ rfl
      obtain ⟨u0, hu0⟩ := hwr.cell (j * 20 + 0) (by omega)
      have f0 := hwr.free (j * 20 + 0) (by omega)
      rw [show o + (j * 20 + 0) = o + j * 20 by omega] at hu0 f0
      obtain ⟨u1, hu1⟩ := hwr.cell (j * 20 + 1) (by omega)
      have f1 := hwr.free (j * 20 + 1) (by omega)
      rw [show o + (j * 20 + 1) = o + j * 20 + 1 by omega] at hu1 f1
      obtain ⟨u2, hu2⟩ := hwr.cell (j * 20 + 2) (by omega)
      have f2 := hwr.free (j * 20 + 2) (by omega)
      rw [show o + (j * 20 + 2) = o + j * 20 + 2 by omega] at hu2 f2
      obtain ⟨u3, hu3⟩ := hwr.cell (j * 20 + 3) (by omega)
      have f3 := hwr.free (j * 20 + 3) (by omega)
      rw [show o + (j * 20 + 3) = o + j * 20 + 3 by omega] at hu3 f3
      obtain ⟨u4, hu4⟩ := hwr.cell (j * 20 + 4) (by omega)
      have f4 := hwr.free (j * 20 + 4) (by omega)
      rw [show o + (j * 20 + 4) = o + j * 20 + 4 by omega] at hu4 f4
      obtain ⟨u5, hu5⟩ := hwr.cell (j * 20 + 5) (by omega)
      have f5 := hwr.free (j * 20 + 5) (by omega)
      rw [show o + (j * 20 + 5) = o + j * 20 + 5 by omega] at hu5 f5
      obtain ⟨u6, hu6⟩ := hwr.cell (j * 20 + 6) (by omega)
      have f6 := hwr.free (j * 20 + 6) (by omega)
      rw [show o + (j * 20 + 6) = o + j * 20 + 6 by omega] at hu6 f6
      have HW := hide hwr
      have HY := hide y0
      clear hwr y0 hin hcl hcx
      go_wp2_with fail
      generalize hW : World.setCell (World.setCell (World.setCell (World.setCell (World.setCell (World.setCell (World.setCell wr _ _) _ _) _ _) _ _) _ _) _ _) _ _ = w1
      have hp : putL b (o + j * 20) [.int .i64 Q, .int .i64 (Q + 1), .int .i64 (Q + 1 + 1), .int .i64 (Q + 1 + 1 + 1), .int .i64 (Q + 1 + 1 + 1 + 1), .int .i64 (Q + 1 + 1 + 1 + 1 + 1), .bool ((Q + 1 + 1 + 1 + 1 + 1 + 1) % 3 == 0)] 0 wr = w1 := hW
      have ht1 := putL_turn b (o + j * 20) [.int .i64 Q, .int .i64 (Q + 1), .int .i64 (Q + 1 + 1), .int .i64 (Q + 1 + 1 + 1), .int .i64 (Q + 1 + 1 + 1 + 1), .int .i64 (Q + 1 + 1 + 1 + 1 + 1), .bool ((Q + 1 + 1 + 1 + 1 + 1 + 1) % 3 == 0)] 0 wr
      have hI1 := putL_at (b := b) (o := o + j * 20) [.int .i64 Q, .int .i64 (Q + 1), .int .i64 (Q + 1 + 1), .int .i64 (Q + 1 + 1 + 1), .int .i64 (Q + 1 + 1 + 1 + 1), .int .i64 (Q + 1 + 1 + 1 + 1 + 1), .bool ((Q + 1 + 1 + 1 + 1 + 1 + 1) % 3 == 0)] 0 (unhide HW) (by omega) (by simp; omega)
      have hw1 := putL_wr (b := b) (o := o + j * 20) [.int .i64 Q, .int .i64 (Q + 1), .int .i64 (Q + 1 + 1), .int .i64 (Q + 1 + 1 + 1), .int .i64 (Q + 1 + 1 + 1 + 1), .int .i64 (Q + 1 + 1 + 1 + 1 + 1), .bool ((Q + 1 + 1 + 1 + 1 + 1 + 1) % 3 == 0)] 0 (unhide HW)
      rw [hp] at ht1 hI1 hw1
      have hc1 : ∀ c, (c < o + j * 20 ∨ o + j * 20 + 7 ≤ c) → w1.cell? ⟨b, c, none⟩ = wr.cell? ⟨b, c, none⟩ := fun c h => by rw [← hp]; exact putL_off _ 0 wr (by simpa using h)
      obtain ⟨hT, hd⟩ := unhide HT
      have hy1 := (unhide HY).turn attrO_keeps ht1 (fun q hq2 e => (hT j q hq2).2 e)
      have HK := hide (And.intro ht1 (And.intro hI1 (And.intro hw1 (And.intro hc1 cm))))
      clear hW hp ht1 hI1 hw1 hc1 hT hd HY HW hu0 f0 hu1 f1 hu2 f2 hu3 f3 hu4 f4 hu5 f5 hu6 f6 cm
      refine (mMarkAttrS X.s.2.2.2.2.2 (T j) _ (Q + 1 + 1 + 1 + 1 + 1 + 1 + 1) w1 (by omega) (by omega) hy1).mono ?_
      rintro e w2 ⟨rfl, ht2, hy2⟩
      have htb : ¬ T j b := fun h => ((unhide HT).1 j b h).2 rfl
      have hwr2 := (unhide HK).2.2.1.turn ht2 htb
      have hfz : ∃ Z, Z = Q + 1 + 1 + 1 + 1 + 1 + 1 + 1 + 4 * (X.s.2.2.2.2.2.length : Int) := ⟨_, rfl⟩
      obtain ⟨Z, hZ⟩ := hfz
      have hZ0 : 0 < Z := by omega
      have hZ1 : Z + 12 ≤ 1099511627776 := by omega
      obtain ⟨u8, hu8⟩ := hwr2.cell (j * 20 + 8) (by omega)
      have f8 := hwr2.free (j * 20 + 8) (by omega)
      rw [show o + (j * 20 + 8) = o + j * 20 + 8 by omega] at hu8 f8
      obtain ⟨u9, hu9⟩ := hwr2.cell (j * 20 + 9) (by omega)
      have f9 := hwr2.free (j * 20 + 9) (by omega)
      rw [show o + (j * 20 + 9) = o + j * 20 + 9 by omega] at hu9 f9
      obtain ⟨u10, hu10⟩ := hwr2.cell (j * 20 + 10) (by omega)
      have f10 := hwr2.free (j * 20 + 10) (by omega)
      rw [show o + (j * 20 + 10) = o + j * 20 + 10 by omega] at hu10 f10
      obtain ⟨u11, hu11⟩ := hwr2.cell (j * 20 + 11) (by omega)
      have f11 := hwr2.free (j * 20 + 11) (by omega)
      rw [show o + (j * 20 + 11) = o + j * 20 + 11 by omega] at hu11 f11
      obtain ⟨u12, hu12⟩ := hwr2.cell (j * 20 + 12) (by omega)
      have f12 := hwr2.free (j * 20 + 12) (by omega)
      rw [show o + (j * 20 + 12) = o + j * 20 + 12 by omega] at hu12 f12
      obtain ⟨u13, hu13⟩ := hwr2.cell (j * 20 + 13) (by omega)
      have f13 := hwr2.free (j * 20 + 13) (by omega)
      rw [show o + (j * 20 + 13) = o + j * 20 + 13 by omega] at hu13 f13
      obtain ⟨u14, hu14⟩ := hwr2.cell (j * 20 + 14) (by omega)
      have f14 := hwr2.free (j * 20 + 14) (by omega)
      rw [show o + (j * 20 + 14) = o + j * 20 + 14 by omega] at hu14 f14
      obtain ⟨u15, hu15⟩ := hwr2.cell (j * 20 + 15) (by omega)
      have f15 := hwr2.free (j * 20 + 15) (by omega)
      rw [show o + (j * 20 + 15) = o + j * 20 + 15 by omega] at hu15 f15
      obtain ⟨u16, hu16⟩ := hwr2.cell (j * 20 + 16) (by omega)
      have f16 := hwr2.free (j * 20 + 16) (by omega)
      rw [show o + (j * 20 + 16) = o + j * 20 + 16 by omega] at hu16 f16
      obtain ⟨u17, hu17⟩ := hwr2.cell (j * 20 + 17) (by omega)
      have f17 := hwr2.free (j * 20 + 17) (by omega)
      rw [show o + (j * 20 + 17) = o + j * 20 + 17 by omega] at hu17 f17
      obtain ⟨u18, hu18⟩ := hwr2.cell (j * 20 + 18) (by omega)
      have f18 := hwr2.free (j * 20 + 18) (by omega)
      rw [show o + (j * 20 + 18) = o + j * 20 + 18 by omega] at hu18 f18
      obtain ⟨u19, hu19⟩ := hwr2.cell (j * 20 + 19) (by omega)
      have f19 := hwr2.free (j * 20 + 19) (by omega)
      rw [show o + (j * 20 + 19) = o + j * 20 + 19 by omega] at hu19 f19
      have HW2 := hide hwr2
      have HK2 := hide (And.intro ht2 hy2)
      have HZ := hide hZ
      clear ht2 hy2 hy1 hwr2
      rw [← hZ]
      clear hZ
      go_wp2_with fail
      generalize hW : World.setCell (World.setCell (World.setCell (World.setCell (World.setCell (World.setCell (World.setCell (World.setCell (World.setCell (World.setCell (World.setCell (World.setCell w2 _ _) _ _) _ _) _ _) _ _) _ _) _ _) _ _) _ _) _ _) _ _) _ _ = w3
      have hp : putL b (o + j * 20 + 8) [.int .i64 Z, .int .i64 (Z + 1), .int .i64 (Z + 1 + 1), .bool ((Z + 1 + 1 + 1) % 3 == 0), .bool ((Z + 1 + 1 + 1 + 1) % 3 == 0), .int .i64 (Z + 1 + 1 + 1 + 1 + 1), .int .i64 (Z + 1 + 1 + 1 + 1 + 1 + 1), .int .i64 (Z + 1 + 1 + 1 + 1 + 1 + 1 + 1), .int .i64 (Z + 1 + 1 + 1 + 1 + 1 + 1 + 1 + 1), .int .i64 (Z + 1 + 1 + 1 + 1 + 1 + 1 + 1 + 1 + 1), .int .i64 (Z + 1 + 1 + 1 + 1 + 1 + 1 + 1 + 1 + 1 + 1), .int .i64 (Z + 1 + 1 + 1 + 1 + 1 + 1 + 1 + 1 + 1 + 1 + 1)] 0 w2 = w3 := hW
      have ht3 := putL_turn b (o + j * 20 + 8) [.int .i64 Z, .int .i64 (Z + 1), .int .i64 (Z + 1 + 1), .bool ((Z + 1 + 1 + 1) % 3 == 0), .bool ((Z + 1 + 1 + 1 + 1) % 3 == 0), .int .i64 (Z + 1 + 1 + 1 + 1 + 1), .int .i64 (Z + 1 + 1 + 1 + 1 + 1 + 1), .int .i64 (Z + 1 + 1 + 1 + 1 + 1 + 1 + 1), .int .i64 (Z + 1 + 1 + 1 + 1 + 1 + 1 + 1 + 1), .int .i64 (Z + 1 + 1 + 1 + 1 + 1 + 1 + 1 + 1 + 1), .int .i64 (Z + 1 + 1 + 1 + 1 + 1 + 1 + 1 + 1 + 1 + 1), .int .i64 (Z + 1 + 1 + 1 + 1 + 1 + 1 + 1 + 1 + 1 + 1 + 1)] 0 w2
      have hI3 := putL_at (b := b) (o := o + j * 20 + 8) [.int .i64 Z, .int .i64 (Z + 1), .int .i64 (Z + 1 + 1), .bool ((Z + 1 + 1 + 1) % 3 == 0), .bool ((Z + 1 + 1 + 1 + 1) % 3 == 0), .int .i64 (Z + 1 + 1 + 1 + 1 + 1), .int .i64 (Z + 1 + 1 + 1 + 1 + 1 + 1), .int .i64 (Z + 1 + 1 + 1 + 1 + 1 + 1 + 1), .int .i64 (Z + 1 + 1 + 1 + 1 + 1 + 1 + 1 + 1), .int .i64 (Z + 1 + 1 + 1 + 1 + 1 + 1 + 1 + 1 + 1), .int .i64 (Z + 1 + 1 + 1 + 1 + 1 + 1 + 1 + 1 + 1 + 1), .int .i64 (Z + 1 + 1 + 1 + 1 + 1 + 1 + 1 + 1 + 1 + 1 + 1)] 0 (unhide HW2) (by omega) (by simp; omega)
      have hw3 := putL_wr (b := b) (o := o + j * 20 + 8) [.int .i64 Z, .int .i64 (Z + 1), .int .i64 (Z + 1 + 1), .bool ((Z + 1 + 1 + 1) % 3 == 0), .bool ((Z + 1 + 1 + 1 + 1) % 3 == 0), .int .i64 (Z + 1 + 1 + 1 + 1 + 1), .int .i64 (Z + 1 + 1 + 1 + 1 + 1 + 1), .int .i64 (Z + 1 + 1 + 1 + 1 + 1 + 1 + 1), .int .i64 (Z + 1 + 1 + 1 + 1 + 1 + 1 + 1 + 1), .int .i64 (Z + 1 + 1 + 1 + 1 + 1 + 1 + 1 + 1 + 1), .int .i64 (Z + 1 + 1 + 1 + 1 + 1 + 1 + 1 + 1 + 1 + 1), .int .i64 (Z + 1 + 1 + 1 + 1 + 1 + 1 + 1 + 1 + 1 + 1 + 1)] 0 (unhide HW2)
      rw [hp] at ht3 hI3 hw3
      have hc3 : ∀ c, (c < o + j * 20 + 8 ∨ o + j * 20 + 20 ≤ c) → w3.cell? ⟨b, c, none⟩ = w2.cell? ⟨b, c, none⟩ := fun c h => by rw [← hp]; exact putL_off _ 0 w2 (by simpa using h)
      have HK3 := hide (And.intro ht3 (And.intro hI3 (And.intro hw3 hc3)))
      clear hW hp ht3 hI3 hw3 hc3 HW2 hu8 f8 hu9 f9 hu10 f10 hu11 f11 hu12 f12 hu13 f13 hu14 f14 hu15 f15 hu16 f16 hu17 f17 hu18 f18 hu19 f19 htb
      go_wp2
      go_roundw
      case rel =>
        obtain ⟨ht1, hI1, hw1, hc1, cm⟩ := unhide HK
        obtain ⟨ht2, hy2⟩ := unhide HK2
        obtain ⟨ht3, hI3, hw3, hc3⟩ := unhide HK3
        obtain ⟨hT, hd⟩ := unhide HT
        have e := unhide HQ
        have hsn := unhide HSN
        have hZ := unhide HZ
        have htb : ¬ T j b := fun h => (hT j b h).2 rfl
        have ht : Turn (fun q => q = b ∨ T j q) wr w3 := ((ht1.mono (fun q h => .inl h)).trans (ht2.mono (fun q h => .inr h))).trans (ht3.mono (fun q h => .inl h))
        have hy3 := hy2.turn attrO_keeps ht3 (fun q hq2 e => (hT j q hq2).2 e)
        have hin2 : InB w3 b (o + j * 20) ([.int .i64 Q, .int .i64 (Q + 1), .int .i64 (Q + 1 + 1), .int .i64 (Q + 1 + 1 + 1), .int .i64 (Q + 1 + 1 + 1 + 1), .int .i64 (Q + 1 + 1 + 1 + 1 + 1), .bool ((Q + 1 + 1 + 1 + 1 + 1 + 1) % 3 == 0)] ++ [.slice a0 X.s.2.2.2.2.2.length k0] ++ [.int .i64 Z, .int .i64 (Z + 1), .int .i64 (Z + 1 + 1), .bool ((Z + 1 + 1 + 1) % 3 == 0), .bool ((Z + 1 + 1 + 1 + 1) % 3 == 0), .int .i64 (Z + 1 + 1 + 1 + 1 + 1), .int .i64 (Z + 1 + 1 + 1 + 1 + 1 + 1), .int .i64 (Z + 1 + 1 + 1 + 1 + 1 + 1 + 1), .int .i64 (Z + 1 + 1 + 1 + 1 + 1 + 1 + 1 + 1), .int .i64 (Z + 1 + 1 + 1 + 1 + 1 + 1 + 1 + 1 + 1), .int .i64 (Z + 1 + 1 + 1 + 1 + 1 + 1 + 1 + 1 + 1 + 1), .int .i64 (Z + 1 + 1 + 1 + 1 + 1 + 1 + 1 + 1 + 1 + 1 + 1)]) := by
          intro i u hu
          by_cases hi8 : i < 8
          · rw [hc3 _ (.inl (by omega))]
            rw [List.getElem?_append_left (by simpa using hi8)] at hu
            rw [ht2.cell (p := ⟨b, o + j * 20 + i, none⟩) hw1.1 htb]
            by_cases hi : i < 7
            · rw [List.getElem?_append_left (by simpa using hi)] at hu
              exact hI1 i u hu
            · have hi2 : i = 7 := by omega
              subst hi2
              rw [hc1 _ (.inr (Nat.le_refl _)), cm]
              simpa using hu
          · rw [List.getElem?_append_right (by simp; omega)] at hu
            have h3 := hI3 (i - 8) u (by simpa using hu)
            rw [show o + j * 20 + 8 + 0 + (i - 8) = o + j * 20 + i by omega] at h3
            exact h3
        have st := OwRow.step deedO_keeps (unhide hm) (fun i q h => (hT i q h).2) hd (by rw [unhide HPL]; exact hlt) ht (by rw [unhide HPL]; exact hw3) (fun c hc => by
          rw [hc3 c (by omega), ht2.cell (p := ⟨b, c, none⟩) hw1.1 htb]
          exact hc1 c (by omega)) (x' := mkDeed X Q) (cs' := [.int .i64 Q, .int .i64 (Q + 1), .int .i64 (Q + 1 + 1), .int .i64 (Q + 1 + 1 + 1), .int .i64 (Q + 1 + 1 + 1 + 1), .int .i64 (Q + 1 + 1 + 1 + 1 + 1), .bool ((Q + 1 + 1 + 1 + 1 + 1 + 1) % 3 == 0)] ++ [.slice a0 X.s.2.2.2.2.2.length k0] ++ [.int .i64 Z, .int .i64 (Z + 1), .int .i64 (Z + 1 + 1), .bool ((Z + 1 + 1 + 1) % 3 == 0), .bool ((Z + 1 + 1 + 1 + 1) % 3 == 0), .int .i64 (Z + 1 + 1 + 1 + 1 + 1), .int .i64 (Z + 1 + 1 + 1 + 1 + 1 + 1), .int .i64 (Z + 1 + 1 + 1 + 1 + 1 + 1 + 1), .int .i64 (Z + 1 + 1 + 1 + 1 + 1 + 1 + 1 + 1), .int .i64 (Z + 1 + 1 + 1 + 1 + 1 + 1 + 1 + 1 + 1), .int .i64 (Z + 1 + 1 + 1 + 1 + 1 + 1 + 1 + 1 + 1 + 1), .int .i64 (Z + 1 + 1 + 1 + 1 + 1 + 1 + 1 + 1 + 1 + 1 + 1)]) (by
            unfold mkDeed
            rw [← hZ]
            exact ⟨_, rfl, hy3⟩) hin2 rfl
        refine ⟨j + 1, by omega, by go_num, ?_, hide ?_, hide ?_⟩
        · congr 1
          have hcx : deedCnt X = 19 + 4 * X.s.2.2.2.2.2.length := rfl
          omega
        · rw [unhide HST]; exact st
        · have htS := ht.mono (T := S) (fun q h => h.elim (fun e => e ▸ unhide HS) (fun e => (hT j q e).1))
          exact (unhide htn).trans htS
      case measure => simp [intOf]; omega
    · have hji : ¬ (j : Int) < (l.length : Int) := by omega
      obtain rfl : j = l.length := by omega
      rw [List.take_length]
      go_wp2
      go_ret
      obtain ⟨hT, hd⟩ := unhide HT
      have hm1 := unhide hm
      rw [partL_all] at hm1
      refine ⟨rfl, unhide htn, some ⟨b, o, none⟩, cap, by rw [markL_len], by rw [markL_len]; exact hl, .inr ⟨b, o, T, rfl, unhide HS, hm1.1, hT, hd, fun i x hix => ?_⟩⟩
      obtain ⟨cs, g1, g2, _⟩ := hm1.2 i x hix
      exact ⟨cs, g1, g2⟩
end Go.Proofs.Ytopngelgpfjdeaa
