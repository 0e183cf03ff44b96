/-
  Verdict: what lies in memory, read and owned; contracts of the law's own sizes, copies and comparisons.
-/
import Derived.Test.YtjhlammjnggghaaMem
import Derived.Deep.CutRange
namespace Go.Proofs.Ytjhlammjnggghaa
open Go.ChangeShapes Go.WideShapes Go.ChangeAt Go.RowKit
set_option linter.unusedVariables false
set_option maxRecDepth 100000

structure VerdictD where
  trace : Int
  stamp : Int
  keep : Bool
def verdictBulk (x : VerdictD) : Nat := 0
def verdictR (w : World) (S : Nat → Prop) (cs : List Value) (x : VerdictD) : Prop := cs = [.int .i64 x.trace, .int .i64 x.stamp, .bool x.keep]
def verdictO (w : World) (S : Nat → Prop) (cs : List Value) (x : VerdictD) : Prop := cs = [.int .i64 x.trace, .int .i64 x.stamp, .bool x.keep]
theorem verdictR_keeps : Keeps verdictR := fun _ _ _ _ _ _ _ _ h => h
theorem verdictR_widens : Widens verdictR := fun _ _ _ _ _ _ h => h
theorem verdictO_keeps : Keeps verdictO := fun _ _ _ _ _ _ _ _ h => h
theorem verdictO_widens : Widens verdictO := fun _ _ _ _ _ _ h => h
theorem verdictO_read (w : World) (S : Nat → Prop) (cs : List Value) (x : VerdictD) (h : verdictO w S cs x) : verdictR w S cs x := h
theorem verdictO_len {w : World} {S : Nat → Prop} {cs : List Value} {x : VerdictD} (h : verdictO w S cs x) : cs.length = 3 := by
  rw [show cs = _ from h]; rfl

theorem mInfoVerdict : (Try.prog.info? 59).map (fun i => (i.zero, i.size, i.bytes)) = some (some (.agg #[.int .i64 0, .int .i64 0, .bool false]), 3, 24) := by kernel_rfl
theorem mMakeVerdict (n : Nat) (hn : n ≤ 1048576) (w : World) : ∃ w0, (Instr.makeSlice 57 (.int .i64 n) (.int .i64 n)).run Try.prog w = .ok (.slice (some ⟨w.heap.size, 0, none⟩) n n) w0 ∧ WrAt w0 w.heap.size 0 (n * 3) ∧ Below w.heap.size w w0 := by
  obtain ⟨i0, hi, hz0, hz1, hz2⟩ := info_parts mInfoVerdict
  have h := run_make (P := Try.prog) w 57 59 i0 _ Try.underlying57 hi hz0 .i64 .i64 n n (by omega) (by omega) (by rw [hz2]; omega) (by omega)
  refine ⟨_, h, ?_, bnew _ _⟩
  rw [hz1]
  exact WrAt.new _ _ _ _ (by rw [size_madeCells]; simp)

end Go.Proofs.Ytjhlammjnggghaa
