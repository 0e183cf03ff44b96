/-
  Attr: contracts of the law's marks.
-/
import Derived.Test.YtjhlammjnggghaaMark
import Derived.Test.YtjhlammjnggghaaMText
import Derived.Test.YtjhlammjnggghaaTAttr
namespace Go.Proofs.Ytjhlammjnggghaa
open Go.ChangeShapes Go.WideShapes Go.ChangeAt Go.RowKit
set_option linter.unusedVariables false
set_option maxRecDepth 100000

def mkAttr (q : Int) : AttrD := (markT q, ((q + 1) % 3 == 0), q + 1 + 1, markT (q + 1 + 1 + 1))
def mkAttrC (q : Int) : List Value := [.string (markT q), .bool ((q + 1) % 3 == 0), .int .i64 (q + 1 + 1), .string (markT (q + 1 + 1 + 1))]
def mkAttrS (n : Nat) (k : Int) : List AttrD := byPlace (fun i => mkAttr (k + 4 * (min i n : Nat))) n
set_option maxHeartbeats 2000000 in
theorem mMarkAttrS (l : List AttrD) (S : Nat → Prop) (v : Value) (k : Int) (w : World) (h0 : 0 < k) (h1 : k + 4 * l.length + 4 ≤ 1099511627776) (ha : LOw 4 attrO w S v l) :
    Calls Try.prog 106 #[v, .int .i64 k] w fun e w' => e = .returned (.int .i64 (k + 4 * l.length)) ∧ Turn S w w' ∧ LOw 4 attrO w' S v (mkAttrS l.length k) := by
  obtain ⟨a, cap, rfl, hl, h⟩ := ha
  rcases h with rfl | ⟨b, o, T, rfl, hS, hw, _, _, _⟩
  · go_enter Try.func106, Try.ntmps106
    go_wp2
    go_loopw [1, 5] (fun kk i wk => kk = .int .i64 k ∧ i = .int .i64 0 ∧ wk = w) (fun _ _ _ => 0)
    case atStart => exact ⟨rfl, rfl, rfl⟩
    case round =>
      obtain ⟨rfl, rfl, rfl⟩ := hrel
      go_wp2
      go_ret
      exact ⟨by simp, Turn.refl _ _, LOw.nil _ _ _ _ _ _⟩
  have HS := hide hS
  have hm0 := hide (MarkedTo.start (f := fun i => mkAttrC (k + 4 * ((min i l.length : Nat) : Int))) hw)
  clear hS hw
  go_enter Try.func106, Try.ntmps106
  go_wp2
  go_loopw [1, 5] (fun kk i wk => ∃ j : Nat, j ≤ l.length ∧ i = .int .i64 j ∧ kk = .int .i64 (k + 4 * j) ∧ Hid (MarkedTo 4 (fun i => mkAttrC (k + 4 * ((min i l.length : Nat) : Int))) w wk b o l.length j)) (fun _ i _ => l.length - (intOf i).toNat)
  case atStart => exact ⟨0, Nat.zero_le _, rfl, by simp, hm0⟩
  case round =>
    obtain ⟨j, hj, rfl, rfl, hm⟩ := hrel
    clear hm0
    by_cases hlt : j < l.length
    · have hji : (j : Int) < (l.length : Int) := by omega
      have hbd : k + 4 * (j : Int) + 4 ≤ 1099511627776 := by omega
      have hjn : j * 4 + 4 ≤ l.length * 4 := by omega
      have hq : 0 < k + 4 * (j : Int) := by omega
      have HE := hide (show mkAttrC (k + 4 * ((min j l.length : Nat) : Int)) = mkAttrC (k + 4 * (j : Int)) by rw [Nat.min_eq_left (by omega)])
      generalize hQ : k + 4 * (j : Int) = Q at *
      have HQ := hide hQ
      clear hQ
      go_wp2_with fail
      refine (mMarkText Q hq (by omega) _).mono ?_
      rintro e w1 ⟨rfl, hb1⟩
      have hm1 := hide ((unhide hm).keep hb1)
      have hwr := (unhide hm1).2.1
      have hbs := hwr.1
      obtain ⟨u0, hu0⟩ := hwr.cell (j * 4 + 0) (by omega)
      have f0 := hwr.free (j * 4 + 0) (by omega)
      rw [show o + (j * 4 + 0) = o + j * 4 by omega] at hu0 f0
      obtain ⟨u1, hu1⟩ := hwr.cell (j * 4 + 1) (by omega)
      have f1 := hwr.free (j * 4 + 1) (by omega)
      rw [show o + (j * 4 + 1) = o + j * 4 + 1 by omega] at hu1 f1
      obtain ⟨u2, hu2⟩ := hwr.cell (j * 4 + 2) (by omega)
      have f2 := hwr.free (j * 4 + 2) (by omega)
      rw [show o + (j * 4 + 2) = o + j * 4 + 2 by omega] at hu2 f2
      have HI := hide (putL_at (b := b) (o := o + j * 4) [.string (markT Q), .bool ((Q + 1) % 3 == 0), .int .i64 (Q + 1 + 1)] 0 hwr (by omega) (by simp; omega))
      have hm2 := hide ((((unhide hm1).put (fun _ => rfl) 0 (.string (markT Q))).put (fun _ => rfl) 1 (.bool ((Q + 1) % 3 == 0))).put (fun _ => rfl) 2 (.int .i64 (Q + 1 + 1)))
      clear hwr hb1
      go_wp2_with fail
      generalize hWa : World.setCell (World.setCell (World.setCell w1 _ _) _ _) _ _ = w2
      have hm3 : MarkedTo 4 (fun i => mkAttrC (k + 4 * ((min i l.length : Nat) : Int))) w w2 b o l.length j := by rw [← hWa]; exact unhide hm2
      have hI3 : InB w2 b (o + j * 4) [.string (markT Q), .bool ((Q + 1) % 3 == 0), .int .i64 (Q + 1 + 1)] := by rw [← hWa]; exact unhide HI
      clear hWa hm2 HI hm1 hu0 hu1 hu2 f0 f1 f2
      refine (mMarkText (Q + 1 + 1 + 1) (by omega) (by omega) _).mono ?_
      rintro e w3 ⟨rfl, hb3⟩
      have hI4 := hide (hI3.turn hm3.2.1.1 (Below.turn hb3) (fun e => e))
      have hm4 := hide (hm3.keep hb3)
      have hwr := (unhide hm4).2.1
      have hbs := hwr.1
      obtain ⟨u3, hu3⟩ := hwr.cell (j * 4 + 3) (by omega)
      have f3 := hwr.free (j * 4 + 3) (by omega)
      rw [show o + (j * 4 + 3) = o + j * 4 + 3 by omega] at hu3 f3
      have HU := hide (show (w3.cell? ⟨b, o + j * 4 + 3, none⟩).isSome = true by rw [hu3]; rfl)
      clear hwr hb3 hm3 hI3
      go_wp2
      go_roundw
      case rel =>
        have e := unhide HQ
        have st := ((unhide hm4).put (fun _ => rfl) 3 (.string (markT (Q + 1 + 1 + 1)))).next (by
          have h := (unhide hI4).snoc (.string (markT (Q + 1 + 1 + 1))) (unhide HU)
          show InB _ b (o + j * 4) (mkAttrC (k + 4 * ((min j l.length : Nat) : Int)))
          rw [unhide HE]
          exact h)
        refine ⟨j + 1, by omega, by go_num, ?_, hide st⟩
        congr 1
        omega
      case measure => simp [intOf]; omega
    · have hji : ¬ (j : Int) < (l.length : Int) := by omega
      obtain rfl : j = l.length := by omega
      go_wp2
      go_ret
      have hm1 := unhide hm
      refine ⟨rfl, hm1.1.mono (fun q e => by rw [e]; exact unhide HS), hm1.done (unhide HS) hl (fun i => ?_)⟩
      have hmin := Nat.min_le_right i l.length
      exact ⟨rfl, markT_size _ (by omega) (by omega), markT_size _ (by omega) (by omega)⟩
end Go.Proofs.Ytjhlammjnggghaa
