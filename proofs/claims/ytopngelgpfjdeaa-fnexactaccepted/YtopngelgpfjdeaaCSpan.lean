/-
  How many marks spans and items take.
-/
import Derived.Test.YtopngelgpfjdeaaMark3
import Derived.Test.YtopngelgpfjdeaaNSpan
import Derived.Test.YtopngelgpfjdeaaNItem
import Derived.Test.YtopngelgpfjdeaaItems0
namespace Go.Proofs.Ytopngelgpfjdeaa
open Go.ChangeShapes Go.WideShapes Go.ChangeAt Go.RowKit
set_option linter.unusedVariables false
set_option maxRecDepth 100000

theorem span_cnt (x : SpanD) : spanCnt x ≤ 6 + 6 * spanBulk x := by
  have := bulkL_len attrBulk x.2.2.2.2.2
  unfold spanCnt spanBulk
  omega
theorem spanS_cnt (l : List SpanD) : cntL spanCnt l ≤ 6 * bulkL spanBulk l := cnt_bulk _ _ 6 span_cnt l
theorem itemS_cnt (l : List ItemD) : cntL itemCnt l ≤ 6 * bulkL itemBulk l := cnt_bulk _ _ 6 (fun x => by
  have := bulkL_len attrBulk x.s.2.2.2.2.2
  unfold itemCnt itemBulk
  omega) l
theorem itemsOf_bulk (l : List ItemD) (st : Int) : bulkL spanBulk (itemsOf l st) ≤ bulkL itemBulk l := by
  unfold bulkL itemsOf
  induction l with
  | nil => simp
  | cons x r ih =>
    by_cases e : ofStamp st x = true
    · rw [List.filter_cons_of_pos e]
      simp only [List.map_cons, List.sum_cons, List.length_cons]
      have : spanBulk x.s = itemBulk x := rfl
      omega
    · rw [List.filter_cons_of_neg e]
      simp only [List.map_cons, List.sum_cons, List.length_cons]
      omega
theorem itemsOf_cnt (l : List ItemD) (st : Int) (h : bulkL itemBulk l ≤ 1048576) : cntL spanCnt (itemsOf l st) ≤ 16777216 := by
  have := spanS_cnt (itemsOf l st)
  have := itemsOf_bulk l st
  omega
end Go.Proofs.Ytopngelgpfjdeaa
