/-
  How many marks the trail takes that was found.
-/
import Derived.Test.YtombdjcgopfieacMTrail
import Derived.Test.YtombdjcgopfieacFind0
namespace Go.Proofs.Ytombdjcgopfieac
open Go.ChangeShapes Go.WideShapes Go.ChangeAt Go.RowKit
set_option linter.unusedVariables false
set_option maxRecDepth 100000

theorem found_cnt (l : List StripeD) (id : Int) (h : bulkL stripeBulk l ≤ 1048576) : cntL spanCnt (foundT l id).spans ≤ 16777216 := by
  have hb : trailBulk (foundT l id) ≤ 1048576 := by
    by_cases hk : placeAt l id < 0
    · rw [(found_no l id hk).1]
      show bulkL spanBulk [] ≤ _
      simp [bulkL]
    · have hn : l.length ≠ 0 := fun e => hk (by rw [at_nil l id e]; omega)
      obtain ⟨j, hj, hje⟩ := stripe_in2 id l.length (by omega)
      have hTA := at_is l id j hj hje
      obtain ⟨k, hkl, hke⟩ := idx_is (p := fun x : TrailD => decide (x.id = id)) (l := trailsAt l id) hk
      rw [(found_is l id k hkl hke).1]
      refine trail_bulk_k hkl ?_
      rw [hTA]
      exact stripe_bulk_l hj h
  have := spanS_cnt2 (foundT l id).spans
  have e : trailBulk (foundT l id) = bulkL spanBulk (foundT l id).spans := rfl
  omega
end Go.Proofs.Ytombdjcgopfieac
