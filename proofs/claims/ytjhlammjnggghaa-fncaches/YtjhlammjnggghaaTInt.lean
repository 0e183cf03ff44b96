/-
  Lists of ints: what lies in memory, and the contracts of the law's comparison, marks and look at them.
-/
import Derived.Test.YtjhlammjnggghaaMark
import Derived.Test.YtjhlammjnggghaaInts
namespace Go.Proofs.Ytjhlammjnggghaa
open Go.ChangeShapes Go.WideShapes Go.ChangeAt Go.RowKit
set_option linter.unusedVariables false
set_option maxRecDepth 100000

def intR (w : World) (S : Nat → Prop) (cs : List Value) (x : Int) : Prop := cs = [.int .i64 x]
def intO (w : World) (S : Nat → Prop) (cs : List Value) (x : Int) : Prop := cs = [.int .i64 x]
theorem intR_keeps : Keeps intR := fun _ _ _ _ _ _ _ _ h => h
theorem intR_widens : Widens intR := fun _ _ _ _ _ _ h => h
theorem intO_keeps : Keeps intO := fun _ _ _ _ _ _ _ _ h => h
theorem intO_widens : Widens intO := fun _ _ _ _ _ _ h => h
theorem intO_read (w : World) (S : Nat → Prop) (cs : List Value) (x : Int) (h : intO w S cs x) : intR w S cs x := h
theorem ints_at {w : World} {S : Nat → Prop} {v : Value} {l : List Int} (h : LAt 1 intR w S v l) : IntsAt w v l := by
  obtain ⟨a, cap, rfl, hl, h⟩ := h
  refine ⟨a, cap, rfl, hl, ?_⟩
  rcases h with h | ⟨b, o, h1, h2, h3, h4⟩
  · exact .inl h
  · refine .inr ⟨b, o, h1, h2, fun i hi => ?_⟩
    obtain ⟨cs, rfl, hin⟩ := h4 i l[i] (List.getElem?_eq_getElem hi)
    have := hin 0 _ rfl
    rw [Nat.mul_one, Nat.add_zero] at this
    rw [this]
    simp [List.getD, hi]
def mkIntS (n : Nat) (k : Int) : List Int := byPlace (fun i => k + (i : Int)) n
end Go.Proofs.Ytjhlammjnggghaa
