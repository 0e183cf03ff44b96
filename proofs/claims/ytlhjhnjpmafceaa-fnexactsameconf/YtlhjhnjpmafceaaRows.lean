/-
  NARROWER THAN 'FOR EVERY INPUT', by the rows' own cells (each row's printed sentence says how): FnExactPolCount: loops · FnExactHasRate: loops · FnExactSamePol: loops · FnExactPolOk: loops · FnExactWants: loops · FnExactSameConf: loops.
  DERIVED. THE GIVEN ROWS OF THIS SEAT. 6 by the template 'for every input the law returns true; each argument reads behind the call as it read before'; 0 by the template 'total and deterministic' (their statements: YtlhjhnjpmafceaaTotals.lean).
  GIVEN WITH THE SEED: the statements are not yours to turn. If you find one false, say at which input.
  Laid BY PROGRAM, IN A SANDBOX (cutbox-rows.mjs): the forced cells as the released guide's own fill.sh prints them over the translation 29a9899b66511fec… (all of the seat's roots in one cut). By AI agents, Wed Nov 11 2026. No macro, syntax, notation, axiom, sorry.
-/
import Derived.Test.YtlhjhnjpmafceaaChecked
import GoSem.Claim
import GoSem.ClaimJoined
import GoSem.ClaimMapViews
import Derived.JoinedTies
import Derived.KernelRfl
namespace Go.Proofs.Ytlhjhnjpmafceaa
/- THE CELL 'sum', in the pinned program and in every row, IS THE sha256 OF THE DUMP (.gsa) THAT YtlhjhnjpmafceaaProg.lean LOADS. Nothing in Lean hashes anything: it is a label: what it is worth is what the hold of that sum in a sandbox is worth. -/
noncomputable def Try.pinned : Pinned := { name := "ytlhjhnjpmafceaa", sum := "29a9899b66511fecdcd618f3fb8c7bd66b1411fca1e3bdd2d65a382a8b4e3b79", checked := Try.checked }
namespace Rows
def none {H : Type} : Left H := { results := [], args := [] }

/-- 'laws.FnExactPolCount': WHATEVER THE INPUT: true; the input reads as it did. -/
def fnExactPolCountSpec : ChangeSpec := { name := "fnExactPolCount", fn := fun _ => fun
  | [d] => { results := [.lit (.bool true)], args := [d] }
  | _ => none }
def fnExactPolCountRow : OpenClaim := { program := "ytlhjhnjpmafceaa", sum := "29a9899b66511fecdcd618f3fb8c7bd66b1411fca1e3bdd2d65a382a8b4e3b79", func := "loop.example/g00488/laws.FnExactPolCount", spec := "fnExactPolCount", recurses := true, loops := true, apart := false }
def FnExactPolCountSaid : Prop := fnExactPolCountRow.holds Try.pinned (OpenSpec.ofChange fnExactPolCountSpec)

/-- ITS FALSE NEIGHBOUR: 'it returns false'. Refute it at one input. -/
def fnExactPolCountWrong : ChangeSpec := { name := "fnExactPolCount", fn := fun _ => fun
  | [d] => { results := [.lit (.bool false)], args := [d] }
  | _ => none }
def FnExactPolCountWrongFalsely : Prop := fnExactPolCountRow.holds Try.pinned (OpenSpec.ofChange fnExactPolCountWrong)

/-- 'laws.FnExactHasRate': WHATEVER THE INPUT: true; the input reads as it did. -/
def fnExactHasRateSpec : ChangeSpec := { name := "fnExactHasRate", fn := fun _ => fun
  | [d] => { results := [.lit (.bool true)], args := [d] }
  | _ => none }
def fnExactHasRateRow : OpenClaim := { program := "ytlhjhnjpmafceaa", sum := "29a9899b66511fecdcd618f3fb8c7bd66b1411fca1e3bdd2d65a382a8b4e3b79", func := "loop.example/g00488/laws.FnExactHasRate", spec := "fnExactHasRate", recurses := true, loops := true, apart := false }
def FnExactHasRateSaid : Prop := fnExactHasRateRow.holds Try.pinned (OpenSpec.ofChange fnExactHasRateSpec)

/-- ITS FALSE NEIGHBOUR: 'it returns false'. Refute it at one input. -/
def fnExactHasRateWrong : ChangeSpec := { name := "fnExactHasRate", fn := fun _ => fun
  | [d] => { results := [.lit (.bool false)], args := [d] }
  | _ => none }
def FnExactHasRateWrongFalsely : Prop := fnExactHasRateRow.holds Try.pinned (OpenSpec.ofChange fnExactHasRateWrong)

/-- 'laws.FnExactSamePol': WHATEVER THE INPUT: true; the input reads as it did. -/
def fnExactSamePolSpec : ChangeSpec := { name := "fnExactSamePol", fn := fun _ => fun
  | [d1, d2] => { results := [.lit (.bool true)], args := [d1, d2] }
  | _ => none }
def fnExactSamePolRow : OpenClaim := { program := "ytlhjhnjpmafceaa", sum := "29a9899b66511fecdcd618f3fb8c7bd66b1411fca1e3bdd2d65a382a8b4e3b79", func := "loop.example/g00488/laws.FnExactSamePol", spec := "fnExactSamePol", recurses := true, loops := true, apart := false }
def FnExactSamePolSaid : Prop := fnExactSamePolRow.holds Try.pinned (OpenSpec.ofChange fnExactSamePolSpec)

/-- ITS FALSE NEIGHBOUR: 'it returns false'. Refute it at one input. -/
def fnExactSamePolWrong : ChangeSpec := { name := "fnExactSamePol", fn := fun _ => fun
  | [d1, d2] => { results := [.lit (.bool false)], args := [d1, d2] }
  | _ => none }
def FnExactSamePolWrongFalsely : Prop := fnExactSamePolRow.holds Try.pinned (OpenSpec.ofChange fnExactSamePolWrong)

/-- 'laws.FnExactPolOk': WHATEVER THE INPUT: true; the input reads as it did. -/
def fnExactPolOkSpec : ChangeSpec := { name := "fnExactPolOk", fn := fun _ => fun
  | [d] => { results := [.lit (.bool true)], args := [d] }
  | _ => none }
def fnExactPolOkRow : OpenClaim := { program := "ytlhjhnjpmafceaa", sum := "29a9899b66511fecdcd618f3fb8c7bd66b1411fca1e3bdd2d65a382a8b4e3b79", func := "loop.example/g00488/laws.FnExactPolOk", spec := "fnExactPolOk", unfollowed := true, recurses := true, loops := true, apart := false }
def FnExactPolOkSaid : Prop := fnExactPolOkRow.holds Try.pinned (OpenSpec.ofChange fnExactPolOkSpec)

/-- ITS FALSE NEIGHBOUR: 'it returns false'. Refute it at one input. -/
def fnExactPolOkWrong : ChangeSpec := { name := "fnExactPolOk", fn := fun _ => fun
  | [d] => { results := [.lit (.bool false)], args := [d] }
  | _ => none }
def FnExactPolOkWrongFalsely : Prop := fnExactPolOkRow.holds Try.pinned (OpenSpec.ofChange fnExactPolOkWrong)

/-- 'laws.FnExactWants': WHATEVER THE INPUT: true; the input reads as it did. -/
def fnExactWantsSpec : ChangeSpec := { name := "fnExactWants", fn := fun _ => fun
  | [d1, d2, d3] => { results := [.lit (.bool true)], args := [d1, d2, d3] }
  | _ => none }
def fnExactWantsRow : OpenClaim := { program := "ytlhjhnjpmafceaa", sum := "29a9899b66511fecdcd618f3fb8c7bd66b1411fca1e3bdd2d65a382a8b4e3b79", func := "loop.example/g00488/laws.FnExactWants", spec := "fnExactWants", unfollowed := true, recurses := true, loops := true, apart := false }
def FnExactWantsSaid : Prop := fnExactWantsRow.holds Try.pinned (OpenSpec.ofChange fnExactWantsSpec)

/-- ITS FALSE NEIGHBOUR: 'it returns false'. Refute it at one input. -/
def fnExactWantsWrong : ChangeSpec := { name := "fnExactWants", fn := fun _ => fun
  | [d1, d2, d3] => { results := [.lit (.bool false)], args := [d1, d2, d3] }
  | _ => none }
def FnExactWantsWrongFalsely : Prop := fnExactWantsRow.holds Try.pinned (OpenSpec.ofChange fnExactWantsWrong)

/-- 'laws.FnExactSameConf': WHATEVER THE INPUT: true; the input reads as it did. -/
def fnExactSameConfSpec : ChangeSpec := { name := "fnExactSameConf", fn := fun _ => fun
  | [d1, d2] => { results := [.lit (.bool true)], args := [d1, d2] }
  | _ => none }
def fnExactSameConfRow : OpenClaim := { program := "ytlhjhnjpmafceaa", sum := "29a9899b66511fecdcd618f3fb8c7bd66b1411fca1e3bdd2d65a382a8b4e3b79", func := "loop.example/g00488/laws.FnExactSameConf", spec := "fnExactSameConf", recurses := true, loops := true, apart := false }
def FnExactSameConfSaid : Prop := fnExactSameConfRow.holds Try.pinned (OpenSpec.ofChange fnExactSameConfSpec)

/-- ITS FALSE NEIGHBOUR: 'it returns false'. Refute it at one input. -/
def fnExactSameConfWrong : ChangeSpec := { name := "fnExactSameConf", fn := fun _ => fun
  | [d1, d2] => { results := [.lit (.bool false)], args := [d1, d2] }
  | _ => none }
def FnExactSameConfWrongFalsely : Prop := fnExactSameConfRow.holds Try.pinned (OpenSpec.ofChange fnExactSameConfWrong)

/- THE SECOND FORM. 'bulk': how many values and letters a reading holds, each counted each time it is reached (what is shared counts as often as it is met; a slice's spare places count too). A statement '..UptoSaid' is the law's where the arguments, and the package variables that the reading takes, are together of bulk at most 1048576: NARROWER than '..Said'. Prove '..Said' where nothing that the law and all that it calls make is longer than what came in: it says more and counts as full. Else prove '..UptoSaid'. A law counts once. -/
mutual
def uptoBulk {H : Type} : DataW H → Nat
  | .lit (.string bytes) => bytes.length + 1
  | .lit _ => 1
  | .nil => 1
  | .ptr d => uptoBulk d + 1
  | .slice elems spare => uptoBulkAll elems + uptoBulkAll spare + 1
  | .agg parts => uptoBulkAll parts + 1
  | .iface _ d => uptoBulk d + 1
  | .map entries => uptoBulkEntries entries + 1
  | .held _ => 1
def uptoBulkAll {H : Type} : List (DataW H) → Nat
  | [] => 0
  | d :: r => uptoBulk d + uptoBulkAll r
def uptoBulkEntries {H : Type} : List (Lit × DataW H) → Nat
  | [] => 0
  | x :: r => uptoBulkEntry x + uptoBulkEntries r
def uptoBulkEntry {H : Type} : Lit × DataW H → Nat
  | (.string bytes, d) => bytes.length + uptoBulk d + 1
  | (_, d) => uptoBulk d + 1
 end
def uptoSmall : (H : Type) → List (DataW H) → Bool := fun _ ds => decide (uptoBulkAll ds ≤ 1048576)
def OpenSpec.upto (s : _root_.Go.ChangeSpec) : _root_.Go.OpenSpec := { _root_.Go.OpenSpec.ofChange s with cond := some uptoSmall }

/-- 'laws.FnExactPolCount', WHERE WHAT IT READS IS OF BULK AT MOST 1048576: true; the input reads as it did. -/
def fnExactPolCountUptoRow : OpenClaim := { program := "ytlhjhnjpmafceaa", sum := "29a9899b66511fecdcd618f3fb8c7bd66b1411fca1e3bdd2d65a382a8b4e3b79", func := "loop.example/g00488/laws.FnExactPolCount", spec := "fnExactPolCount", recurses := true, loops := true, apart := false, narrowed := true }
def FnExactPolCountUptoSaid : Prop := fnExactPolCountUptoRow.holds Try.pinned (OpenSpec.upto fnExactPolCountSpec)

/-- 'laws.FnExactHasRate', WHERE WHAT IT READS IS OF BULK AT MOST 1048576: true; the input reads as it did. -/
def fnExactHasRateUptoRow : OpenClaim := { program := "ytlhjhnjpmafceaa", sum := "29a9899b66511fecdcd618f3fb8c7bd66b1411fca1e3bdd2d65a382a8b4e3b79", func := "loop.example/g00488/laws.FnExactHasRate", spec := "fnExactHasRate", recurses := true, loops := true, apart := false, narrowed := true }
def FnExactHasRateUptoSaid : Prop := fnExactHasRateUptoRow.holds Try.pinned (OpenSpec.upto fnExactHasRateSpec)

/-- 'laws.FnExactSamePol', WHERE WHAT IT READS IS OF BULK AT MOST 1048576: true; the input reads as it did. -/
def fnExactSamePolUptoRow : OpenClaim := { program := "ytlhjhnjpmafceaa", sum := "29a9899b66511fecdcd618f3fb8c7bd66b1411fca1e3bdd2d65a382a8b4e3b79", func := "loop.example/g00488/laws.FnExactSamePol", spec := "fnExactSamePol", recurses := true, loops := true, apart := false, narrowed := true }
def FnExactSamePolUptoSaid : Prop := fnExactSamePolUptoRow.holds Try.pinned (OpenSpec.upto fnExactSamePolSpec)

/-- 'laws.FnExactPolOk', WHERE WHAT IT READS IS OF BULK AT MOST 1048576: true; the input reads as it did. -/
def fnExactPolOkUptoRow : OpenClaim := { program := "ytlhjhnjpmafceaa", sum := "29a9899b66511fecdcd618f3fb8c7bd66b1411fca1e3bdd2d65a382a8b4e3b79", func := "loop.example/g00488/laws.FnExactPolOk", spec := "fnExactPolOk", unfollowed := true, recurses := true, loops := true, apart := false, narrowed := true }
def FnExactPolOkUptoSaid : Prop := fnExactPolOkUptoRow.holds Try.pinned (OpenSpec.upto fnExactPolOkSpec)

/-- 'laws.FnExactWants', WHERE WHAT IT READS IS OF BULK AT MOST 1048576: true; the input reads as it did. -/
def fnExactWantsUptoRow : OpenClaim := { program := "ytlhjhnjpmafceaa", sum := "29a9899b66511fecdcd618f3fb8c7bd66b1411fca1e3bdd2d65a382a8b4e3b79", func := "loop.example/g00488/laws.FnExactWants", spec := "fnExactWants", unfollowed := true, recurses := true, loops := true, apart := false, narrowed := true }
def FnExactWantsUptoSaid : Prop := fnExactWantsUptoRow.holds Try.pinned (OpenSpec.upto fnExactWantsSpec)

/-- 'laws.FnExactSameConf', WHERE WHAT IT READS IS OF BULK AT MOST 1048576: true; the input reads as it did. -/
def fnExactSameConfUptoRow : OpenClaim := { program := "ytlhjhnjpmafceaa", sum := "29a9899b66511fecdcd618f3fb8c7bd66b1411fca1e3bdd2d65a382a8b4e3b79", func := "loop.example/g00488/laws.FnExactSameConf", spec := "fnExactSameConf", recurses := true, loops := true, apart := false, narrowed := true }
def FnExactSameConfUptoSaid : Prop := fnExactSameConfUptoRow.holds Try.pinned (OpenSpec.upto fnExactSameConfSpec)

end Rows
end Go.Proofs.Ytlhjhnjpmafceaa
