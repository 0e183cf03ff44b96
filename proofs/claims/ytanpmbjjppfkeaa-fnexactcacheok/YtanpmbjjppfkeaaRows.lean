/-
  NARROWER THAN 'FOR EVERY INPUT', by the rows' own cells (each row's printed sentence says how): FnExactPolCount: loops · FnExactHasRate: loops · FnExactSamePol: loops.
  DERIVED. THE GIVEN ROWS OF THIS SEAT. 7 by the template 'for every input the law returns true; each argument reads behind the call as it read before'; 0 by the template 'total and deterministic' (their statements: YtanpmbjjppfkeaaTotals.lean).
  GIVEN WITH THE SEED: the statements are not yours to turn. If you find one false, say at which input.
  Laid BY PROGRAM, IN A SANDBOX (cutbox-rows.mjs): the forced cells as the released guide's own fill.sh prints them over the translation 31062a3b1fa42353… (all of the seat's roots in one cut). By AI agents, Wed Nov 11 2026. No macro, syntax, notation, axiom, sorry.
-/
import Derived.Test.YtanpmbjjppfkeaaChecked
import GoSem.Claim
import GoSem.ClaimJoined
import GoSem.ClaimMapViews
import Derived.JoinedTies
import Derived.KernelRfl
namespace Go.Proofs.Ytanpmbjjppfkeaa
/- THE CELL 'sum', in the pinned program and in every row, IS THE sha256 OF THE DUMP (.gsa) THAT YtanpmbjjppfkeaaProg.lean LOADS. Nothing in Lean hashes anything: it is a label: what it is worth is what the hold of that sum in a sandbox is worth. -/
noncomputable def Try.pinned : Pinned := { name := "ytanpmbjjppfkeaa", sum := "31062a3b1fa42353579752cf0afef50490373fefb993f382b0443cf20b9d7921", checked := Try.checked }
namespace Rows
def none {H : Type} : Left H := { results := [], args := [] }

/-- 'laws.FnExactDueBy': WHATEVER THE INPUT: true; the input reads as it did. -/
def fnExactDueBySpec : ChangeSpec := { name := "fnExactDueBy", fn := fun _ => fun
  | [d1, d2] => { results := [.lit (.bool true)], args := [d1, d2] }
  | _ => none }
def fnExactDueByRow : OpenClaim := { program := "ytanpmbjjppfkeaa", sum := "31062a3b1fa42353579752cf0afef50490373fefb993f382b0443cf20b9d7921", func := "loop.example/g00488/laws.FnExactDueBy", spec := "fnExactDueBy", unfollowed := true, recurses := true, apart := false }
def FnExactDueBySaid : Prop := fnExactDueByRow.holds Try.pinned (OpenSpec.ofChange fnExactDueBySpec)

/-- ITS FALSE NEIGHBOUR: 'it returns false'. Refute it at one input. -/
def fnExactDueByWrong : ChangeSpec := { name := "fnExactDueBy", fn := fun _ => fun
  | [d1, d2] => { results := [.lit (.bool false)], args := [d1, d2] }
  | _ => none }
def FnExactDueByWrongFalsely : Prop := fnExactDueByRow.holds Try.pinned (OpenSpec.ofChange fnExactDueByWrong)

/-- 'laws.FnExactCacheOk': WHATEVER THE INPUT: true; the input reads as it did. -/
def fnExactCacheOkSpec : ChangeSpec := { name := "fnExactCacheOk", fn := fun _ => fun
  | [d1, d2] => { results := [.lit (.bool true)], args := [d1, d2] }
  | _ => none }
def fnExactCacheOkRow : OpenClaim := { program := "ytanpmbjjppfkeaa", sum := "31062a3b1fa42353579752cf0afef50490373fefb993f382b0443cf20b9d7921", func := "loop.example/g00488/laws.FnExactCacheOk", spec := "fnExactCacheOk", unfollowed := true, recurses := true, apart := false }
def FnExactCacheOkSaid : Prop := fnExactCacheOkRow.holds Try.pinned (OpenSpec.ofChange fnExactCacheOkSpec)

/-- ITS FALSE NEIGHBOUR: 'it returns false'. Refute it at one input. -/
def fnExactCacheOkWrong : ChangeSpec := { name := "fnExactCacheOk", fn := fun _ => fun
  | [d1, d2] => { results := [.lit (.bool false)], args := [d1, d2] }
  | _ => none }
def FnExactCacheOkWrongFalsely : Prop := fnExactCacheOkRow.holds Try.pinned (OpenSpec.ofChange fnExactCacheOkWrong)

/-- 'laws.FnExactRemember': WHATEVER THE INPUT: true; the input reads as it did. -/
def fnExactRememberSpec : ChangeSpec := { name := "fnExactRemember", fn := fun _ => fun
  | [d1, d2, d3] => { results := [.lit (.bool true)], args := [d1, d2, d3] }
  | _ => none }
def fnExactRememberRow : OpenClaim := { program := "ytanpmbjjppfkeaa", sum := "31062a3b1fa42353579752cf0afef50490373fefb993f382b0443cf20b9d7921", func := "loop.example/g00488/laws.FnExactRemember", spec := "fnExactRemember", apart := false }
def FnExactRememberSaid : Prop := fnExactRememberRow.holds Try.pinned (OpenSpec.ofChange fnExactRememberSpec)

/-- ITS FALSE NEIGHBOUR: 'it returns false'. Refute it at one input. -/
def fnExactRememberWrong : ChangeSpec := { name := "fnExactRemember", fn := fun _ => fun
  | [d1, d2, d3] => { results := [.lit (.bool false)], args := [d1, d2, d3] }
  | _ => none }
def FnExactRememberWrongFalsely : Prop := fnExactRememberRow.holds Try.pinned (OpenSpec.ofChange fnExactRememberWrong)

/-- 'laws.FnExactPolCount': WHATEVER THE INPUT: true; the input reads as it did. -/
def fnExactPolCountSpec : ChangeSpec := { name := "fnExactPolCount", fn := fun _ => fun
  | [d] => { results := [.lit (.bool true)], args := [d] }
  | _ => none }
def fnExactPolCountRow : OpenClaim := { program := "ytanpmbjjppfkeaa", sum := "31062a3b1fa42353579752cf0afef50490373fefb993f382b0443cf20b9d7921", func := "loop.example/g00488/laws.FnExactPolCount", spec := "fnExactPolCount", recurses := true, loops := true, apart := false }
def FnExactPolCountSaid : Prop := fnExactPolCountRow.holds Try.pinned (OpenSpec.ofChange fnExactPolCountSpec)

/-- ITS FALSE NEIGHBOUR: 'it returns false'. Refute it at one input. -/
def fnExactPolCountWrong : ChangeSpec := { name := "fnExactPolCount", fn := fun _ => fun
  | [d] => { results := [.lit (.bool false)], args := [d] }
  | _ => none }
def FnExactPolCountWrongFalsely : Prop := fnExactPolCountRow.holds Try.pinned (OpenSpec.ofChange fnExactPolCountWrong)

/-- 'laws.FnExactHasRate': WHATEVER THE INPUT: true; the input reads as it did. -/
def fnExactHasRateSpec : ChangeSpec := { name := "fnExactHasRate", fn := fun _ => fun
  | [d] => { results := [.lit (.bool true)], args := [d] }
  | _ => none }
def fnExactHasRateRow : OpenClaim := { program := "ytanpmbjjppfkeaa", sum := "31062a3b1fa42353579752cf0afef50490373fefb993f382b0443cf20b9d7921", func := "loop.example/g00488/laws.FnExactHasRate", spec := "fnExactHasRate", recurses := true, loops := true, apart := false }
def FnExactHasRateSaid : Prop := fnExactHasRateRow.holds Try.pinned (OpenSpec.ofChange fnExactHasRateSpec)

/-- ITS FALSE NEIGHBOUR: 'it returns false'. Refute it at one input. -/
def fnExactHasRateWrong : ChangeSpec := { name := "fnExactHasRate", fn := fun _ => fun
  | [d] => { results := [.lit (.bool false)], args := [d] }
  | _ => none }
def FnExactHasRateWrongFalsely : Prop := fnExactHasRateRow.holds Try.pinned (OpenSpec.ofChange fnExactHasRateWrong)

/-- 'laws.FnExactSamePol': WHATEVER THE INPUT: true; the input reads as it did. -/
def fnExactSamePolSpec : ChangeSpec := { name := "fnExactSamePol", fn := fun _ => fun
  | [d1, d2] => { results := [.lit (.bool true)], args := [d1, d2] }
  | _ => none }
def fnExactSamePolRow : OpenClaim := { program := "ytanpmbjjppfkeaa", sum := "31062a3b1fa42353579752cf0afef50490373fefb993f382b0443cf20b9d7921", func := "loop.example/g00488/laws.FnExactSamePol", spec := "fnExactSamePol", recurses := true, loops := true, apart := false }
def FnExactSamePolSaid : Prop := fnExactSamePolRow.holds Try.pinned (OpenSpec.ofChange fnExactSamePolSpec)

/-- ITS FALSE NEIGHBOUR: 'it returns false'. Refute it at one input. -/
def fnExactSamePolWrong : ChangeSpec := { name := "fnExactSamePol", fn := fun _ => fun
  | [d1, d2] => { results := [.lit (.bool false)], args := [d1, d2] }
  | _ => none }
def FnExactSamePolWrongFalsely : Prop := fnExactSamePolRow.holds Try.pinned (OpenSpec.ofChange fnExactSamePolWrong)

/-- 'laws.FnExactWheelOk': WHATEVER THE INPUT: true; the input reads as it did. -/
def fnExactWheelOkSpec : ChangeSpec := { name := "fnExactWheelOk", fn := fun _ => fun
  | [d] => { results := [.lit (.bool true)], args := [d] }
  | _ => none }
def fnExactWheelOkRow : OpenClaim := { program := "ytanpmbjjppfkeaa", sum := "31062a3b1fa42353579752cf0afef50490373fefb993f382b0443cf20b9d7921", func := "loop.example/g00488/laws.FnExactWheelOk", spec := "fnExactWheelOk", unfollowed := true, recurses := true, apart := false }
def FnExactWheelOkSaid : Prop := fnExactWheelOkRow.holds Try.pinned (OpenSpec.ofChange fnExactWheelOkSpec)

/-- ITS FALSE NEIGHBOUR: 'it returns false'. Refute it at one input. -/
def fnExactWheelOkWrong : ChangeSpec := { name := "fnExactWheelOk", fn := fun _ => fun
  | [d] => { results := [.lit (.bool false)], args := [d] }
  | _ => none }
def FnExactWheelOkWrongFalsely : Prop := fnExactWheelOkRow.holds Try.pinned (OpenSpec.ofChange fnExactWheelOkWrong)

/- THE SECOND FORM. 'bulk': how many values and letters a reading holds, each counted each time it is reached (what is shared counts as often as it is met; a slice's spare places count too). A statement '..UptoSaid' is the law's where the arguments, and the package variables that the reading takes, are together of bulk at most 1048576: NARROWER than '..Said'. Prove '..Said' where nothing that the law and all that it calls make is longer than what came in: it says more and counts as full. Else prove '..UptoSaid'. A law counts once. -/
mutual
def uptoBulk {H : Type} : DataW H → Nat
  | .lit (.string bytes) => bytes.length + 1
  | .lit _ => 1
  | .nil => 1
  | .ptr d => uptoBulk d + 1
  | .slice elems spare => uptoBulkAll elems + uptoBulkAll spare + 1
  | .agg parts => uptoBulkAll parts + 1
  | .iface _ d => uptoBulk d + 1
  | .map entries => uptoBulkEntries entries + 1
  | .held _ => 1
def uptoBulkAll {H : Type} : List (DataW H) → Nat
  | [] => 0
  | d :: r => uptoBulk d + uptoBulkAll r
def uptoBulkEntries {H : Type} : List (Lit × DataW H) → Nat
  | [] => 0
  | x :: r => uptoBulkEntry x + uptoBulkEntries r
def uptoBulkEntry {H : Type} : Lit × DataW H → Nat
  | (.string bytes, d) => bytes.length + uptoBulk d + 1
  | (_, d) => uptoBulk d + 1
 end
def uptoSmall : (H : Type) → List (DataW H) → Bool := fun _ ds => decide (uptoBulkAll ds ≤ 1048576)
def OpenSpec.upto (s : _root_.Go.ChangeSpec) : _root_.Go.OpenSpec := { _root_.Go.OpenSpec.ofChange s with cond := some uptoSmall }

/-- 'laws.FnExactDueBy', WHERE WHAT IT READS IS OF BULK AT MOST 1048576: true; the input reads as it did. -/
def fnExactDueByUptoRow : OpenClaim := { program := "ytanpmbjjppfkeaa", sum := "31062a3b1fa42353579752cf0afef50490373fefb993f382b0443cf20b9d7921", func := "loop.example/g00488/laws.FnExactDueBy", spec := "fnExactDueBy", unfollowed := true, recurses := true, apart := false, narrowed := true }
def FnExactDueByUptoSaid : Prop := fnExactDueByUptoRow.holds Try.pinned (OpenSpec.upto fnExactDueBySpec)

/-- 'laws.FnExactCacheOk', WHERE WHAT IT READS IS OF BULK AT MOST 1048576: true; the input reads as it did. -/
def fnExactCacheOkUptoRow : OpenClaim := { program := "ytanpmbjjppfkeaa", sum := "31062a3b1fa42353579752cf0afef50490373fefb993f382b0443cf20b9d7921", func := "loop.example/g00488/laws.FnExactCacheOk", spec := "fnExactCacheOk", unfollowed := true, recurses := true, apart := false, narrowed := true }
def FnExactCacheOkUptoSaid : Prop := fnExactCacheOkUptoRow.holds Try.pinned (OpenSpec.upto fnExactCacheOkSpec)

/-- 'laws.FnExactRemember', WHERE WHAT IT READS IS OF BULK AT MOST 1048576: true; the input reads as it did. -/
def fnExactRememberUptoRow : OpenClaim := { program := "ytanpmbjjppfkeaa", sum := "31062a3b1fa42353579752cf0afef50490373fefb993f382b0443cf20b9d7921", func := "loop.example/g00488/laws.FnExactRemember", spec := "fnExactRemember", apart := false, narrowed := true }
def FnExactRememberUptoSaid : Prop := fnExactRememberUptoRow.holds Try.pinned (OpenSpec.upto fnExactRememberSpec)

/-- 'laws.FnExactPolCount', WHERE WHAT IT READS IS OF BULK AT MOST 1048576: true; the input reads as it did. -/
def fnExactPolCountUptoRow : OpenClaim := { program := "ytanpmbjjppfkeaa", sum := "31062a3b1fa42353579752cf0afef50490373fefb993f382b0443cf20b9d7921", func := "loop.example/g00488/laws.FnExactPolCount", spec := "fnExactPolCount", recurses := true, loops := true, apart := false, narrowed := true }
def FnExactPolCountUptoSaid : Prop := fnExactPolCountUptoRow.holds Try.pinned (OpenSpec.upto fnExactPolCountSpec)

/-- 'laws.FnExactHasRate', WHERE WHAT IT READS IS OF BULK AT MOST 1048576: true; the input reads as it did. -/
def fnExactHasRateUptoRow : OpenClaim := { program := "ytanpmbjjppfkeaa", sum := "31062a3b1fa42353579752cf0afef50490373fefb993f382b0443cf20b9d7921", func := "loop.example/g00488/laws.FnExactHasRate", spec := "fnExactHasRate", recurses := true, loops := true, apart := false, narrowed := true }
def FnExactHasRateUptoSaid : Prop := fnExactHasRateUptoRow.holds Try.pinned (OpenSpec.upto fnExactHasRateSpec)

/-- 'laws.FnExactSamePol', WHERE WHAT IT READS IS OF BULK AT MOST 1048576: true; the input reads as it did. -/
def fnExactSamePolUptoRow : OpenClaim := { program := "ytanpmbjjppfkeaa", sum := "31062a3b1fa42353579752cf0afef50490373fefb993f382b0443cf20b9d7921", func := "loop.example/g00488/laws.FnExactSamePol", spec := "fnExactSamePol", recurses := true, loops := true, apart := false, narrowed := true }
def FnExactSamePolUptoSaid : Prop := fnExactSamePolUptoRow.holds Try.pinned (OpenSpec.upto fnExactSamePolSpec)

/-- 'laws.FnExactWheelOk', WHERE WHAT IT READS IS OF BULK AT MOST 1048576: true; the input reads as it did. -/
def fnExactWheelOkUptoRow : OpenClaim := { program := "ytanpmbjjppfkeaa", sum := "31062a3b1fa42353579752cf0afef50490373fefb993f382b0443cf20b9d7921", func := "loop.example/g00488/laws.FnExactWheelOk", spec := "fnExactWheelOk", unfollowed := true, recurses := true, apart := false, narrowed := true }
def FnExactWheelOkUptoSaid : Prop := fnExactWheelOkUptoRow.holds Try.pinned (OpenSpec.upto fnExactWheelOkSpec)

end Rows
end Go.Proofs.Ytanpmbjjppfkeaa
