/-
  No cell of these rows narrows 'for every input' (looked for: loops, veiled, ifaces, maps, wideKeys, modest, calm, conditions, laid).
  DERIVED. THE GIVEN ROWS OF THIS SEAT. 5 by the template 'for every input the law returns true; each argument reads behind the call as it read before'; 0 by the template 'total and deterministic' (their statements: YtnlacjedamngkaaTotals.lean).
  GIVEN WITH THE SEED: the statements are not yours to turn. If you find one false, say at which input.
  Laid BY PROGRAM, IN A SANDBOX (cutbox-rows.mjs): the forced cells as the released guide's own fill.sh prints them over the translation 15608ec1c3c67393… (all of the seat's roots in one cut). By AI agents, Wed Nov 11 2026. No macro, syntax, notation, axiom, sorry.
-/
import Derived.Test.YtnlacjedamngkaaChecked
import GoSem.Claim
import GoSem.ClaimJoined
import GoSem.ClaimMapViews
import Derived.JoinedTies
import Derived.KernelRfl
namespace Go.Proofs.Ytnlacjedamngkaa
/- THE CELL 'sum', in the pinned program and in every row, IS THE sha256 OF THE DUMP (.gsa) THAT YtnlacjedamngkaaProg.lean LOADS. Nothing in Lean hashes anything: it is a label: what it is worth is what the hold of that sum in a sandbox is worth. -/
noncomputable def Try.pinned : Pinned := { name := "ytnlacjedamngkaa", sum := "15608ec1c3c67393a53db056db2e08f2fe1323d8223a79e308519ca8bec57299", checked := Try.checked }
namespace Rows
def none {H : Type} : Left H := { results := [], args := [] }

/-- 'laws.FnExactDropTrail': WHATEVER THE INPUT: true; the input reads as it did. -/
def fnExactDropTrailSpec : ChangeSpec := { name := "fnExactDropTrail", fn := fun _ => fun
  | [d1, d2] => { results := [.lit (.bool true)], args := [d1, d2] }
  | _ => none }
def fnExactDropTrailRow : OpenClaim := { program := "ytnlacjedamngkaa", sum := "15608ec1c3c67393a53db056db2e08f2fe1323d8223a79e308519ca8bec57299", func := "loop.example/g00488/laws.FnExactDropTrail", spec := "fnExactDropTrail", unfollowed := true, recurses := true, apart := false }
def FnExactDropTrailSaid : Prop := fnExactDropTrailRow.holds Try.pinned (OpenSpec.ofChange fnExactDropTrailSpec)

/-- ITS FALSE NEIGHBOUR: 'it returns false'. Refute it at one input. -/
def fnExactDropTrailWrong : ChangeSpec := { name := "fnExactDropTrail", fn := fun _ => fun
  | [d1, d2] => { results := [.lit (.bool false)], args := [d1, d2] }
  | _ => none }
def FnExactDropTrailWrongFalsely : Prop := fnExactDropTrailRow.holds Try.pinned (OpenSpec.ofChange fnExactDropTrailWrong)

/-- 'laws.FnExactAddTo': WHATEVER THE INPUT: true; the input reads as it did. -/
def fnExactAddToSpec : ChangeSpec := { name := "fnExactAddTo", fn := fun _ => fun
  | [d1, d2, d3, d4] => { results := [.lit (.bool true)], args := [d1, d2, d3, d4] }
  | _ => none }
def fnExactAddToRow : OpenClaim := { program := "ytnlacjedamngkaa", sum := "15608ec1c3c67393a53db056db2e08f2fe1323d8223a79e308519ca8bec57299", func := "loop.example/g00488/laws.FnExactAddTo", spec := "fnExactAddTo", unfollowed := true, recurses := true, apart := false }
def FnExactAddToSaid : Prop := fnExactAddToRow.holds Try.pinned (OpenSpec.ofChange fnExactAddToSpec)

/-- ITS FALSE NEIGHBOUR: 'it returns false'. Refute it at one input. -/
def fnExactAddToWrong : ChangeSpec := { name := "fnExactAddTo", fn := fun _ => fun
  | [d1, d2, d3, d4] => { results := [.lit (.bool false)], args := [d1, d2, d3, d4] }
  | _ => none }
def FnExactAddToWrongFalsely : Prop := fnExactAddToRow.holds Try.pinned (OpenSpec.ofChange fnExactAddToWrong)

/-- 'laws.FnExactOldestOf': WHATEVER THE INPUT: true; the input reads as it did. -/
def fnExactOldestOfSpec : ChangeSpec := { name := "fnExactOldestOf", fn := fun _ => fun
  | [d] => { results := [.lit (.bool true)], args := [d] }
  | _ => none }
def fnExactOldestOfRow : OpenClaim := { program := "ytnlacjedamngkaa", sum := "15608ec1c3c67393a53db056db2e08f2fe1323d8223a79e308519ca8bec57299", func := "loop.example/g00488/laws.FnExactOldestOf", spec := "fnExactOldestOf", unfollowed := true, recurses := true, apart := false }
def FnExactOldestOfSaid : Prop := fnExactOldestOfRow.holds Try.pinned (OpenSpec.ofChange fnExactOldestOfSpec)

/-- ITS FALSE NEIGHBOUR: 'it returns false'. Refute it at one input. -/
def fnExactOldestOfWrong : ChangeSpec := { name := "fnExactOldestOf", fn := fun _ => fun
  | [d] => { results := [.lit (.bool false)], args := [d] }
  | _ => none }
def FnExactOldestOfWrongFalsely : Prop := fnExactOldestOfRow.holds Try.pinned (OpenSpec.ofChange fnExactOldestOfWrong)

/-- 'laws.FnExactOpenTrails': WHATEVER THE INPUT: true; the input reads as it did. -/
def fnExactOpenTrailsSpec : ChangeSpec := { name := "fnExactOpenTrails", fn := fun _ => fun
  | [d] => { results := [.lit (.bool true)], args := [d] }
  | _ => none }
def fnExactOpenTrailsRow : OpenClaim := { program := "ytnlacjedamngkaa", sum := "15608ec1c3c67393a53db056db2e08f2fe1323d8223a79e308519ca8bec57299", func := "loop.example/g00488/laws.FnExactOpenTrails", spec := "fnExactOpenTrails", unfollowed := true, recurses := true, apart := false }
def FnExactOpenTrailsSaid : Prop := fnExactOpenTrailsRow.holds Try.pinned (OpenSpec.ofChange fnExactOpenTrailsSpec)

/-- ITS FALSE NEIGHBOUR: 'it returns false'. Refute it at one input. -/
def fnExactOpenTrailsWrong : ChangeSpec := { name := "fnExactOpenTrails", fn := fun _ => fun
  | [d] => { results := [.lit (.bool false)], args := [d] }
  | _ => none }
def FnExactOpenTrailsWrongFalsely : Prop := fnExactOpenTrailsRow.holds Try.pinned (OpenSpec.ofChange fnExactOpenTrailsWrong)

/-- 'laws.FnSeen': WHATEVER THE INPUT: true; the input reads as it did. -/
def fnSeenSpec : ChangeSpec := { name := "fnSeen", fn := fun _ => fun
  | [d] => { results := [.lit (.bool true)], args := [d] }
  | _ => none }
def fnSeenRow : OpenClaim := { program := "ytnlacjedamngkaa", sum := "15608ec1c3c67393a53db056db2e08f2fe1323d8223a79e308519ca8bec57299", func := "loop.example/g00488/laws.FnSeen", spec := "fnSeen", apart := false }
def FnSeenSaid : Prop := fnSeenRow.holds Try.pinned (OpenSpec.ofChange fnSeenSpec)

/-- ITS FALSE NEIGHBOUR: 'it returns false'. Refute it at one input. -/
def fnSeenWrong : ChangeSpec := { name := "fnSeen", fn := fun _ => fun
  | [d] => { results := [.lit (.bool false)], args := [d] }
  | _ => none }
def FnSeenWrongFalsely : Prop := fnSeenRow.holds Try.pinned (OpenSpec.ofChange fnSeenWrong)

/- THE SECOND FORM. 'bulk': how many values and letters a reading holds, each counted each time it is reached (what is shared counts as often as it is met; a slice's spare places count too). A statement '..UptoSaid' is the law's where the arguments, and the package variables that the reading takes, are together of bulk at most 1048576: NARROWER than '..Said'. Prove '..Said' where nothing that the law and all that it calls make is longer than what came in: it says more and counts as full. Else prove '..UptoSaid'. A law counts once. -/
mutual
def uptoBulk {H : Type} : DataW H → Nat
  | .lit (.string bytes) => bytes.length + 1
  | .lit _ => 1
  | .nil => 1
  | .ptr d => uptoBulk d + 1
  | .slice elems spare => uptoBulkAll elems + uptoBulkAll spare + 1
  | .agg parts => uptoBulkAll parts + 1
  | .iface _ d => uptoBulk d + 1
  | .map entries => uptoBulkEntries entries + 1
  | .held _ => 1
def uptoBulkAll {H : Type} : List (DataW H) → Nat
  | [] => 0
  | d :: r => uptoBulk d + uptoBulkAll r
def uptoBulkEntries {H : Type} : List (Lit × DataW H) → Nat
  | [] => 0
  | x :: r => uptoBulkEntry x + uptoBulkEntries r
def uptoBulkEntry {H : Type} : Lit × DataW H → Nat
  | (.string bytes, d) => bytes.length + uptoBulk d + 1
  | (_, d) => uptoBulk d + 1
 end
def uptoSmall : (H : Type) → List (DataW H) → Bool := fun _ ds => decide (uptoBulkAll ds ≤ 1048576)
def OpenSpec.upto (s : _root_.Go.ChangeSpec) : _root_.Go.OpenSpec := { _root_.Go.OpenSpec.ofChange s with cond := some uptoSmall }

/-- 'laws.FnExactDropTrail', WHERE WHAT IT READS IS OF BULK AT MOST 1048576: true; the input reads as it did. -/
def fnExactDropTrailUptoRow : OpenClaim := { program := "ytnlacjedamngkaa", sum := "15608ec1c3c67393a53db056db2e08f2fe1323d8223a79e308519ca8bec57299", func := "loop.example/g00488/laws.FnExactDropTrail", spec := "fnExactDropTrail", unfollowed := true, recurses := true, apart := false, narrowed := true }
def FnExactDropTrailUptoSaid : Prop := fnExactDropTrailUptoRow.holds Try.pinned (OpenSpec.upto fnExactDropTrailSpec)

/-- 'laws.FnExactAddTo', WHERE WHAT IT READS IS OF BULK AT MOST 1048576: true; the input reads as it did. -/
def fnExactAddToUptoRow : OpenClaim := { program := "ytnlacjedamngkaa", sum := "15608ec1c3c67393a53db056db2e08f2fe1323d8223a79e308519ca8bec57299", func := "loop.example/g00488/laws.FnExactAddTo", spec := "fnExactAddTo", unfollowed := true, recurses := true, apart := false, narrowed := true }
def FnExactAddToUptoSaid : Prop := fnExactAddToUptoRow.holds Try.pinned (OpenSpec.upto fnExactAddToSpec)

/-- 'laws.FnExactOldestOf', WHERE WHAT IT READS IS OF BULK AT MOST 1048576: true; the input reads as it did. -/
def fnExactOldestOfUptoRow : OpenClaim := { program := "ytnlacjedamngkaa", sum := "15608ec1c3c67393a53db056db2e08f2fe1323d8223a79e308519ca8bec57299", func := "loop.example/g00488/laws.FnExactOldestOf", spec := "fnExactOldestOf", unfollowed := true, recurses := true, apart := false, narrowed := true }
def FnExactOldestOfUptoSaid : Prop := fnExactOldestOfUptoRow.holds Try.pinned (OpenSpec.upto fnExactOldestOfSpec)

/-- 'laws.FnExactOpenTrails', WHERE WHAT IT READS IS OF BULK AT MOST 1048576: true; the input reads as it did. -/
def fnExactOpenTrailsUptoRow : OpenClaim := { program := "ytnlacjedamngkaa", sum := "15608ec1c3c67393a53db056db2e08f2fe1323d8223a79e308519ca8bec57299", func := "loop.example/g00488/laws.FnExactOpenTrails", spec := "fnExactOpenTrails", unfollowed := true, recurses := true, apart := false, narrowed := true }
def FnExactOpenTrailsUptoSaid : Prop := fnExactOpenTrailsUptoRow.holds Try.pinned (OpenSpec.upto fnExactOpenTrailsSpec)

/-- 'laws.FnSeen', WHERE WHAT IT READS IS OF BULK AT MOST 1048576: true; the input reads as it did. -/
def fnSeenUptoRow : OpenClaim := { program := "ytnlacjedamngkaa", sum := "15608ec1c3c67393a53db056db2e08f2fe1323d8223a79e308519ca8bec57299", func := "loop.example/g00488/laws.FnSeen", spec := "fnSeen", apart := false, narrowed := true }
def FnSeenUptoSaid : Prop := fnSeenUptoRow.holds Try.pinned (OpenSpec.upto fnSeenSpec)

end Rows
end Go.Proofs.Ytnlacjedamngkaa
