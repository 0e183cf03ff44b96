/-
  Trail: the contracts of the law's marks of one, and of its look at them; how many marks there are.
-/
import Derived.Test.YtjhlammjnggghaaKSpan
import Derived.Test.YtjhlammjnggghaaNStripe
import Derived.Test.YtjhlammjnggghaaMark3
import Derived.Test.YtjhlammjnggghaaATrail
namespace Go.Proofs.Ytjhlammjnggghaa
open Go.ChangeShapes Go.WideShapes Go.ChangeAt Go.RowKit
set_option linter.unusedVariables false
set_option maxRecDepth 100000

theorem spanS_cnt2 (l : List SpanD) : cntL spanCnt l ≤ 6 * bulkL spanBulk l := cnt_bulk _ _ 6 (fun x => by
  have := bulkL_len attrBulk x.2.2.2.2.2
  unfold spanCnt spanBulk
  omega) l
theorem trail_cnt (x : TrailD) : trailCnt x ≤ 6 + 6 * trailBulk x := by
  have := spanS_cnt2 x.spans
  unfold trailCnt trailBulk
  omega
theorem trailS_cnt (l : List TrailD) : cntL trailCnt l ≤ 6 * bulkL trailBulk l := cnt_bulk _ _ 6 trail_cnt l
theorem stripeS_cnt (l : List StripeD) : cntL stripeCnt l ≤ 6 * bulkL stripeBulk l := cnt_bulk _ _ 6 (fun x => by
  have := trailS_cnt x.l
  unfold stripeCnt stripeBulk
  omega) l
def mkTrl (x : TrailD) (k : Int) : TrailD := ⟨x.id, x.stamp, x.first, markL mkSpan spanCnt x.spans k⟩
set_option maxHeartbeats 2000000 in
theorem mMarkTrail (x : TrailD) (S : Nat → Prop) (cs : List Value) (k : Int) (w : World) (h0 : 0 < k) (h1 : k + cntL spanCnt x.spans + 4 ≤ 1099511627776) (ha : trailO w S cs x) :
    Calls Try.prog 29 #[.agg cs.toArray, .int .i64 k] w fun e w' => e = .returned (.int .i64 (k + cntL spanCnt x.spans)) ∧ Turn S w w' ∧ trailO w' S cs (mkTrl x k) := by
  obtain ⟨s0, rfl, y0⟩ := ha
  obtain ⟨a0, k0, rfl⟩ := y0.form
  have B0 := bnew w (.cells #[.int .i64 x.id, .int .i64 x.stamp, .int .i64 x.first, .slice a0 x.spans.length k0] 44)
  have P0 := Held.new w [.int .i64 x.id, .int .i64 x.stamp, .int .i64 x.first, .slice a0 x.spans.length k0] 44
  have y1 := y0.keep spanO_keeps B0
  clear y0
  go_enter Try.func29, Try.ntmps29
  go_upto_region 1 with fail
  generalize World.alloc w _ = w0 at *
  have p3 := P0.2 3 _ rfl
  go_wp2_with fail
  refine (mMarkSpanS x.spans S _ k w0 h0 h1 y1).mono ?_
  rintro e w1 ⟨rfl, t1, y2⟩
  clear y1
  go_wp2
  go_ret
  refine ⟨rfl, ((Below.turn B0).mono (fun _ e => e.elim)).trans t1, _, rfl, y2⟩
set_option maxHeartbeats 2000000 in
theorem mHeldTrail (x : TrailD) (S : Nat → Prop) (cs : List Value) (k : Int) (w : World) (h0 : 0 < k) (h1 : k + cntL spanCnt x.spans + 4 ≤ 1099511627776) (ha : trailR w S cs (mkTrl x k)) :
    Calls Try.prog 30 #[.agg cs.toArray, .int .i64 k] w fun e w' => e = .returned (.int .i64 (k + cntL spanCnt x.spans)) ∧ Below w.heap.size w w' := by
  obtain ⟨s0, rfl, y0⟩ := ha
  simp only [mkTrl] at y0 ⊢
  obtain ⟨a0, k0, rfl⟩ := y0.form
  generalize (markL mkSpan spanCnt x.spans k).length = ML at *
  have B0 := bnew w (.cells #[.int .i64 x.id, .int .i64 x.stamp, .int .i64 x.first, .slice a0 ML k0] 44)
  have P0 := Held.new w [.int .i64 x.id, .int .i64 x.stamp, .int .i64 x.first, .slice a0 ML k0] 44
  have y1 := y0.keep spanR_keeps B0
  have hk : ¬ k + (cntL spanCnt x.spans : Int) < 0 := by omega
  clear y0
  go_enter Try.func30, Try.ntmps30
  go_upto_region 1 with fail
  generalize World.alloc w _ = w0 at *
  have p3 := P0.2 3 _ rfl
  go_wp2_with fail
  refine (mHeldSpanS x.spans S _ k w0 h0 h1 y1).mono ?_
  rintro e w1 ⟨rfl, hb1⟩
  clear y1
  go_wp2
  go_ret
  exact ⟨rfl, bthen B0 hb1⟩
end Go.Proofs.Ytjhlammjnggghaa
