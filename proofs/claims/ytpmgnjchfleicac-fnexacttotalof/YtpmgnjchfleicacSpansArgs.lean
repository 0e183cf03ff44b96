/-
  What a law's walk is told of arguments that hold lists of things.
-/
import Derived.Test.YtpmgnjchfleicacAttrsArgs
import Derived.Test.YtpmgnjchfleicacSpans
namespace Go.Proofs.Ytpmgnjchfleicac
open Go.ChangeShapes Go.WideShapes Go.ChangeAt Go.RowKit Go.Joins Go.Deep
set_option linter.unusedVariables false

theorem openSpansC {H : Type} {enc : TypeId × Value → H} {W : World} {base : Nat} {sp : Nat → Bool} {held : Bool} {fuel : Nat} {v : Value} {x : DataW H × List MemPlace}
    (h : DataW.trod enc Try.prog W base sp held fuel 35 [v] = some x) : ∃ l, SpansAt W v l := by
  obtain ⟨a, len, cap, rfl, hm, hh⟩ := openSlice (c := 6) Try.underlying35 (by kernel_rfl) (by omega) h
  rcases hh with rfl | ⟨b, o, rfl, hb, hx⟩
  · exact ⟨[], a, cap, rfl, by simp, .inl rfl⟩
  · obtain ⟨l, hl, hp⟩ := list_of dS len (fun i y => SpanIn W b (o + i * 6) y) (fun i hi => by
      obtain ⟨cs, n, z, g1, g2, g3⟩ := hx i hi
      obtain ⟨tr, id, st, en, er, l, sl, rfl, hw⟩ := openSpanCs g3 g1
      exact ⟨(tr, id, st, en, er, l), sl, by simpa using g2 0 (by omega), by simpa using g2 1 (by omega), by simpa using g2 2 (by omega), by simpa using g2 3 (by omega), by simpa using g2 4 (by omega), by simpa using g2 5 (by omega), hw⟩)
    subst hl
    exact ⟨l, _, cap, rfl, hm, .inr ⟨b, o, rfl, hb, fun i hi => hp i hi⟩⟩
def IsSpans (w : World) (v : Value) : Prop := ∃ l, SpansAt w v l
theorem openIsSpans {H : Type} {enc : TypeId × Value → H} {W : World} {base : Nat} {r : Reach} {b0 : Nat} {sp : Nat → Bool} {held : Bool} {v : Value} {d : DataW H} {ps : List MemPlace}
    (hv : Value.okWide Try.prog W r b0 35 v) (h : DataW.Trod enc Try.prog W base sp held 35 v d ps) : IsSpans W v := by
  obtain ⟨a, len, cap, rfl⟩ := okWide_slice Try.underlying35 hv
  obtain ⟨fuel, hf⟩ := h
  exact openSpansC (v := .slice a len cap) (by simpa [Value.cells] using hf)

end Go.Proofs.Ytpmgnjchfleicac
