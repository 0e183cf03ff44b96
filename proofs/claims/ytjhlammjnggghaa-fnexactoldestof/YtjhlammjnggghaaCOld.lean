/-
  How many marks the oldest trail takes.
-/
import Derived.Test.YtjhlammjnggghaaMTrail
import Derived.Test.YtjhlammjnggghaaOld2
namespace Go.Proofs.Ytjhlammjnggghaa
open Go.ChangeShapes Go.WideShapes Go.ChangeAt Go.RowKit
set_option linter.unusedVariables false
set_option maxRecDepth 100000

theorem best_mem (P : TrailD → Prop) : ∀ (ts : List TrailD) (s : Option TrailD), (∀ x, s = some x → P x) → (∀ x ∈ ts, P x) → ∀ x, ts.foldl bstep s = some x → P x
  | [], s, hs, _, x, hx => hs x hx
  | t :: r, s, hs, ht, x, hx => by
    refine best_mem P r (bstep s t) (fun y hy => ?_) (fun y hy => ht y (List.mem_cons_of_mem _ hy)) x hx
    cases s with
    | none =>
      have e : t = y := by simpa [bstep] using hy
      subst e
      exact ht _ (List.mem_cons_self ..)
    | some z =>
      by_cases ho : olderB t z = true
      · have e : t = y := by simpa [bstep, ho] using hy
        subst e
        exact ht _ (List.mem_cons_self ..)
      · have e : z = y := by simpa [bstep, ho] using hy
        subst e
        exact hs _ rfl
theorem old_bulk (l : List StripeD) (h : bulkL stripeBulk l ≤ 1048576) : trailBulk (oldT l) ≤ 1048576 := by
  unfold oldT
  cases ho : oldO l with
  | none => simp [trailBulk, bulkL]
  | some x =>
    refine best_mem (fun x => trailBulk x ≤ 1048576) (l.flatMap StripeD.l) none (fun x hx => by cases hx) (fun y hy => ?_) x ho
    obtain ⟨s, hs, hys⟩ := List.mem_flatMap.1 hy
    have h1 := bulkL_mem stripeBulk hs
    have h2 := bulkL_mem trailBulk hys
    have e : stripeBulk s = bulkL trailBulk s.l := rfl
    omega
theorem old_cnt (l : List StripeD) (h : bulkL stripeBulk l ≤ 1048576) : cntL spanCnt (oldT l).spans ≤ 16777216 := by
  have hb := old_bulk l h
  have := spanS_cnt2 (oldT l).spans
  have e : trailBulk (oldT l) = bulkL spanBulk (oldT l).spans := rfl
  omega
end Go.Proofs.Ytjhlammjnggghaa
