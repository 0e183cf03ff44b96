/-
  What a law's walk is told of arguments that hold lists of Attrs.
-/
import Derived.Test.YtpmgnjchfleicabArgs
import Derived.Test.YtpmgnjchfleicabAttrs
namespace Go.Proofs.Ytpmgnjchfleicab
open Go.ChangeShapes Go.WideShapes Go.ChangeAt Go.RowKit Go.Joins Go.Deep
set_option linter.unusedVariables false

theorem openAttrCs {H : Type} {enc : TypeId × Value → H} {W : World} {base : Nat} {sp : Nat → Bool} {held : Bool} {fuel : Nat} {cs : List Value} {x : DataW H × List MemPlace}
    (h : DataW.trod enc Try.prog W base sp held fuel 31 cs = some x) (hl : cs.length = 4) : ∃ y : AttrD, cs = [.string y.1, .bool y.2.1, .int .i64 y.2.2.1, .string y.2.2.2] ∧ AttrWf y := by
  obtain ⟨y0, y1, y2, y3, n, _, _, h0, h1, h2, h3⟩ := trod_struct4 Try.underlying31 h
  match cs, hl with
  | [v0, v1, v2, v3], _ =>
    obtain ⟨k, e0, _, w0⟩ := DataW.trod_string Try.underlying9 h0
    obtain ⟨b, e1, _⟩ := DataW.trod_bool Try.underlying4 h1
    obtain ⟨n2, e2, _, w2⟩ := DataW.trod_int Try.underlying3 h2
    obtain ⟨t, e3, _, w3⟩ := DataW.trod_string Try.underlying9 h3
    have k0 : Try.prog.cellsOf 9 = 1 := by kernel_rfl
    have k1 : Try.prog.cellsOf 4 = 1 := by kernel_rfl
    have k2 : Try.prog.cellsOf 3 = 1 := by kernel_rfl
    simp [k0, k1, k2] at e0 e1 e2 e3
    subst e0 e1 e2 e3
    exact ⟨(k, b, n2, t), rfl, w0, w3⟩
theorem openAttrsC {H : Type} {enc : TypeId × Value → H} {W : World} {base : Nat} {sp : Nat → Bool} {held : Bool} {fuel : Nat} {v : Value} {x : DataW H × List MemPlace}
    (h : DataW.trod enc Try.prog W base sp held fuel 38 [v] = some x) : ∃ l, AttrsAt W v l := by
  obtain ⟨a, len, cap, rfl, hm, hh⟩ := openSlice (c := 4) Try.underlying38 (by kernel_rfl) (by omega) h
  rcases hh with rfl | ⟨b, o, rfl, hb, hx⟩
  · exact ⟨[], a, cap, rfl, by simp, by simp, .inl rfl⟩
  · obtain ⟨l, hl, hp⟩ := list_of dA len (fun i y => AttrAt W b (o + i * 4) y ∧ AttrWf y) (fun i hi => by
      obtain ⟨cs, n, z, g1, g2, g3⟩ := hx i hi
      obtain ⟨y, rfl, hw⟩ := openAttrCs g3 g1
      exact ⟨y, ⟨by simpa using g2 0 (by omega), by simpa using g2 1 (by omega), by simpa using g2 2 (by omega), by simpa using g2 3 (by omega)⟩, hw⟩)
    subst hl
    refine ⟨l, _, cap, rfl, hm, fun x hx => ?_, .inr ⟨b, o, rfl, hb, fun i hi => (hp i hi).1⟩⟩
    obtain ⟨j, hj, rfl⟩ := List.mem_iff_getElem.1 hx
    have := (hp j hj).2
    simpa [List.getD, hj] using this
def IsAttrs (w : World) (v : Value) : Prop := ∃ l, AttrsAt w v l
theorem openIsAttrs {H : Type} {enc : TypeId × Value → H} {W : World} {base : Nat} {r : Reach} {b0 : Nat} {sp : Nat → Bool} {held : Bool} {v : Value} {d : DataW H} {ps : List MemPlace}
    (hv : Value.okWide Try.prog W r b0 38 v) (h : DataW.Trod enc Try.prog W base sp held 38 v d ps) : IsAttrs W v := by
  obtain ⟨a, len, cap, rfl⟩ := okWide_slice Try.underlying38 hv
  obtain ⟨fuel, hf⟩ := h
  exact openAttrsC (v := .slice a len cap) (by simpa [Value.cells] using hf)
def IsStr (w : World) (v : Value) : Prop := ∃ s : ByteArray, v = .string s ∧ s.size ≤ maxLen
theorem openIsStr {H : Type} {enc : TypeId × Value → H} {W : World} {base : Nat} {r : Reach} {b0 : Nat} {sp : Nat → Bool} {held : Bool} {v : Value} {d : DataW H} {ps : List MemPlace}
    (hv : Value.okWide Try.prog W r b0 9 v) (h : DataW.Trod enc Try.prog W base sp held 9 v d ps) : IsStr W v := by
  obtain ⟨s, rfl, _, _, hs⟩ := Go.ChangeMaps.open_string Try.underlying9 hv h
  exact ⟨s, rfl, hs⟩

end Go.Proofs.Ytpmgnjchfleicab
