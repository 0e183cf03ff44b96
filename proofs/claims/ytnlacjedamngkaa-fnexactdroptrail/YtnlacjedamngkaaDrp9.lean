/-
  What is left of the stripes where a trail is dropped; how many marks that takes.
-/
import Derived.Test.YtnlacjedamngkaaFind2
import Derived.Test.YtnlacjedamngkaaNStripe
import Derived.Test.YtnlacjedamngkaaMark3
namespace Go.Proofs.Ytnlacjedamngkaa
open Go.ChangeShapes Go.WideShapes Go.ChangeAt Go.RowKit
set_option linter.unusedVariables false
set_option maxRecDepth 100000

def dropS (x : StripeD) (k : Nat) : StripeD := ⟨x.held, x.l.eraseIdx k⟩
def dropL (l : List StripeD) (id : Int) : List StripeD :=
  if placeAt l id < 0 then l else match l[(stripeAt l id).toNat]? with
    | some x => l.set (stripeAt l id).toNat (dropS x (placeAt l id).toNat)
    | none => l
theorem drop_no {l : List StripeD} {id : Int} (h : placeAt l id < 0) : dropL l id = l := if_pos h
theorem drop_is {l : List StripeD} {id : Int} {j k : Nat} (hs : stripeAt l id = (j : Int)) (hp : placeAt l id = (k : Int)) (hj : j < l.length) : dropL l id = l.set j (dropS l[j] k) := by
  unfold dropL
  rw [if_neg (by omega), hs, hp, Int.toNat_natCast, Int.toNat_natCast, List.getElem?_eq_getElem hj]
theorem sub_sum {α : Type} (f : α → Nat) {a b : List α} (h : List.Sublist a b) : (a.map f).sum ≤ (b.map f).sum := by
  induction h with
  | slnil => simp
  | cons x _ ih => simp only [List.map_cons, List.sum_cons]; omega
  | cons_cons x _ ih => simp only [List.map_cons, List.sum_cons]; omega
theorem set_sum {α : Type} (f : α → Nat) (y : α) : ∀ (l : List α) (j : Nat) (hj : j < l.length), f y ≤ f l[j] → ((l.set j y).map f).sum ≤ (l.map f).sum := by
  intro l
  induction l with
  | nil => intro j hj; simp at hj
  | cons x r ih =>
    intro j hj h
    cases j with
    | zero => simp only [List.set_cons_zero, List.map_cons, List.sum_cons]; simp only [List.getElem_cons_zero] at h; omega
    | succ j =>
      simp only [List.set_cons_succ, List.map_cons, List.sum_cons]
      have := ih j (by simpa using hj) (by simpa using h)
      omega
theorem dropS_cnt (x : StripeD) (k : Nat) : stripeCnt (dropS x k) ≤ stripeCnt x := by
  have := sub_sum trailCnt (List.eraseIdx_sublist x.l k)
  show 1 + ((x.l.eraseIdx k).map trailCnt).sum ≤ 1 + (x.l.map trailCnt).sum
  omega
theorem drop_cnt (l : List StripeD) (id : Int) : cntL stripeCnt (dropL l id) ≤ cntL stripeCnt l := by
  unfold dropL
  split
  · exact Nat.le_refl _
  · split
    · next x hx =>
      have hj := (List.getElem?_eq_some_iff.1 hx)
      obtain ⟨hlt, e⟩ := hj
      subst e
      exact set_sum stripeCnt _ l _ hlt (dropS_cnt _ _)
    · exact Nat.le_refl _
theorem trail_cnt (x : TrailD) : trailCnt x ≤ 6 + 6 * trailBulk x := by
  have h := cnt_bulk spanCnt spanBulk 6 (fun y => by
    have := bulkL_len attrBulk y.2.2.2.2.2
    unfold spanCnt spanBulk
    omega) x.spans
  unfold trailCnt trailBulk
  omega
theorem stripe_cnt (x : StripeD) : stripeCnt x ≤ 6 + 6 * stripeBulk x := by
  have h := cnt_bulk trailCnt trailBulk 6 trail_cnt x.l
  unfold stripeCnt stripeBulk
  omega
theorem stripeS_cnt (l : List StripeD) : cntL stripeCnt l ≤ 6 * bulkL stripeBulk l := cnt_bulk stripeCnt stripeBulk 6 stripe_cnt l
theorem drop_marks (l : List StripeD) (id : Int) (h : bulkL stripeBulk l ≤ 1048576) : cntL stripeCnt (dropL l id) ≤ 16777216 := by
  have h1 := drop_cnt l id
  have h2 := cnt_bulk stripeCnt stripeBulk 6 stripe_cnt l
  omega
end Go.Proofs.Ytnlacjedamngkaa
