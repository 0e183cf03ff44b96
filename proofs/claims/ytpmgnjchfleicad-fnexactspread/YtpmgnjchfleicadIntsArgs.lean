/-
  What a law's walk is told of arguments that are lists of ints.
-/
import Derived.Test.YtpmgnjchfleicadArgs
import Derived.Test.YtpmgnjchfleicadInts
namespace Go.Proofs.Ytpmgnjchfleicad
open Go.ChangeShapes Go.WideShapes Go.ChangeAt Go.RowKit Go.Joins Go.Deep
set_option linter.unusedVariables false

def IsInts (w : World) (v : Value) : Prop := ∃ l, IntsAt w v l
theorem openIsInts {H : Type} {enc : TypeId × Value → H} {W : World} {base : Nat} {r : Reach} {b0 : Nat} {sp : Nat → Bool} {held : Bool} {v : Value} {d : DataW H} {ps : List MemPlace}
    (hv : Value.okWide Try.prog W r b0 22 v) (h : DataW.Trod enc Try.prog W base sp held 22 v d ps) : IsInts W v := by
  obtain ⟨a, len, cap, rfl⟩ := okWide_slice Try.underlying22 hv
  obtain ⟨fuel, hf⟩ := h
  obtain ⟨a', len', cap', e, hm, hh⟩ := openSlice (c := 1) (v := .slice a len cap) Try.underlying22 (by kernel_rfl) (by omega) (by simpa [Value.cells] using hf)
  injection e with e1 e2 e3
  subst e1 e2 e3
  rcases hh with rfl | ⟨b, o, rfl, hb, hx⟩
  · exact ⟨[], a, cap, rfl, by simp, .inl rfl⟩
  · obtain ⟨l, hl, hp⟩ := list_of (0 : Int) len (fun i y => W.cell? ⟨b, o + i, none⟩ = some (.int .i64 y)) (fun i hi => by
      obtain ⟨cs, n, z, g1, g2, g3⟩ := hx i hi
      match cs, g1 with
      | [c], _ =>
        obtain ⟨y, e, _, _⟩ := DataW.trod_int Try.underlying3 g3
        simp only [List.cons.injEq, and_true] at e
        subst e
        exact ⟨y, by simpa using g2 0 (by omega)⟩)
    subst hl
    exact ⟨l, _, cap, rfl, hm, .inr ⟨b, o, rfl, hb, fun i hi => hp i hi⟩⟩

end Go.Proofs.Ytpmgnjchfleicad
