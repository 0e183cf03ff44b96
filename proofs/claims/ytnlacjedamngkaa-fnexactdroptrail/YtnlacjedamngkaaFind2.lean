/-
  FindTrail of the program.
-/
import Derived.Test.YtnlacjedamngkaaFind0
import Derived.Test.YtnlacjedamngkaaTrl2
namespace Go.Proofs.Ytnlacjedamngkaa
open Go.ChangeShapes Go.WideShapes Go.ChangeAt Go.RowKit
set_option linter.unusedVariables false
set_option maxRecDepth 100000

def stripeAt (l : List StripeD) (id : Int) : Int := if l.length = 0 then 0 else stripev id l.length
set_option maxHeartbeats 2000000 in
theorem implfindTrail (l : List StripeD) (id : Int) (S : Nat → Prop) (v : Value) (w : World) (h0 : LAt 2 stripeR w S v l) (b0 : bulkL stripeBulk l ≤ 1048576) :
    Calls Try.prog 47 #[v, .int .i64 id] w fun e w' => e = .returned (.tuple #[.int .i64 (stripeAt l id), .int .i64 (placeAt l id)]) ∧ Below w.heap.size w w' := by
  obtain ⟨a, cap, rfl⟩ := h0.form
  have hl := h0.len
  by_cases hn : l.length = 0
  · have HNO := hide (at_nil l id hn)
    have HSA : Hid (stripeAt l id = 0) := hide (by rw [stripeAt, if_pos hn])
    have q : ((l.length : Int) == 0) = true := by simp [hn]
    clear hn h0
    go_enter Try.func47, Try.ntmps47
    go_wp2
    go_ret2
    exact ⟨by rw [unhide HNO, unhide HSA]; rfl, Below.refl _ _⟩
  have q : ((l.length : Int) == 0) = false := by simpa using hn
  obtain ⟨j, hj, hje⟩ := stripe_in2 id l.length (by omega)
  have hTA := at_is l id j hj hje
  have hc := implStripeOf id l.length w
  rw [hje] at hc
  have hbl := stripe_bulk_l hj b0
  have HSA : Hid (stripeAt l id = (j : Int)) := hide (by rw [stripeAt, if_neg hn, hje])
  obtain ⟨b, o, cs, rfl, hbk, hSb, hcs, hin⟩ := h0.at j hj
  have HPL : Hid (placeAt l id = atID l[j].l id) := hide (by rw [placeAt, hTA])
  have HC := hide hc
  have hji : (j : Int) < (l.length : Int) := by omega
  have hj0 : ¬ (j : Int) < 0 := by omega
  generalize l[j] = X at *
  obtain ⟨a1, k1, z1, g1⟩ := stripeR_c1 hcs
  have c1 : w.cell? ⟨b, o + j * 2 + 1, none⟩ = some (.slice a1 X.l.length k1) := hin 1 _ z1
  clear hTA hc hn hje z1 hin hcs h0
  go_enter Try.func47, Try.ntmps47
  go_wp2_with fail
  refine (unhide HC).mono ?_
  rintro e w1' ⟨rfl, rfl⟩
  go_wp2_with fail
  refine (implTrailAt X.l id S _ _ g1 hbl).mono ?_
  rintro e w3 ⟨rfl, hb3⟩
  clear c1 g1
  go_wp2
  go_ret2
  exact ⟨by rw [unhide HPL, unhide HSA]; rfl, hb3⟩
end Go.Proofs.Ytnlacjedamngkaa
