/-
  What a law's walk is told of arguments that hold lists of Attrs.
-/
import Derived.Test.YtpmgnjchfleicacArgs
import Derived.Test.YtpmgnjchfleicacAttrs
namespace Go.Proofs.Ytpmgnjchfleicac
open Go.ChangeShapes Go.WideShapes Go.ChangeAt Go.RowKit Go.Joins Go.Deep
set_option linter.unusedVariables false

theorem openAttrCs {H : Type} {enc : TypeId × Value → H} {W : World} {base : Nat} {sp : Nat → Bool} {held : Bool} {fuel : Nat} {cs : List Value} {x : DataW H × List MemPlace}
    (h : DataW.trod enc Try.prog W base sp held fuel 52 cs = some x) (hl : cs.length = 4) : ∃ y : AttrD, cs = [.string y.1, .bool y.2.1, .int .i64 y.2.2.1, .string y.2.2.2] ∧ AttrWf y := by
  obtain ⟨y0, y1, y2, y3, n, _, _, h0, h1, h2, h3⟩ := trod_struct4 Try.underlying52 h
  match cs, hl with
  | [v0, v1, v2, v3], _ =>
    obtain ⟨k, e0, _, w0⟩ := DataW.trod_string Try.underlying9 h0
    obtain ⟨b, e1, _⟩ := DataW.trod_bool Try.underlying4 h1
    obtain ⟨n2, e2, _, w2⟩ := DataW.trod_int Try.underlying3 h2
    obtain ⟨t, e3, _, w3⟩ := DataW.trod_string Try.underlying9 h3
    have k0 : Try.prog.cellsOf 9 = 1 := by kernel_rfl
    have k1 : Try.prog.cellsOf 4 = 1 := by kernel_rfl
    have k2 : Try.prog.cellsOf 3 = 1 := by kernel_rfl
    simp [k0, k1, k2] at e0 e1 e2 e3
    subst e0 e1 e2 e3
    exact ⟨(k, b, n2, t), rfl, w0, w3⟩
theorem openAttrsC {H : Type} {enc : TypeId × Value → H} {W : World} {base : Nat} {sp : Nat → Bool} {held : Bool} {fuel : Nat} {v : Value} {x : DataW H × List MemPlace}
    (h : DataW.trod enc Try.prog W base sp held fuel 22 [v] = some x) : ∃ l, AttrsAt W v l := by
  obtain ⟨a, len, cap, rfl, hm, hh⟩ := openSlice (c := 4) Try.underlying22 (by kernel_rfl) (by omega) h
  rcases hh with rfl | ⟨b, o, rfl, hb, hx⟩
  · exact ⟨[], a, cap, rfl, by simp, by simp, .inl rfl⟩
  · obtain ⟨l, hl, hp⟩ := list_of dA len (fun i y => AttrAt W b (o + i * 4) y ∧ AttrWf y) (fun i hi => by
      obtain ⟨cs, n, z, g1, g2, g3⟩ := hx i hi
      obtain ⟨y, rfl, hw⟩ := openAttrCs g3 g1
      exact ⟨y, ⟨by simpa using g2 0 (by omega), by simpa using g2 1 (by omega), by simpa using g2 2 (by omega), by simpa using g2 3 (by omega)⟩, hw⟩)
    subst hl
    refine ⟨l, _, cap, rfl, hm, fun x hx => ?_, .inr ⟨b, o, rfl, hb, fun i hi => (hp i hi).1⟩⟩
    obtain ⟨j, hj, rfl⟩ := List.mem_iff_getElem.1 hx
    have := (hp j hj).2
    simpa [List.getD, hj] using this
def IsAttrs (w : World) (v : Value) : Prop := ∃ l, AttrsAt w v l
theorem openIsAttrs {H : Type} {enc : TypeId × Value → H} {W : World} {base : Nat} {r : Reach} {b0 : Nat} {sp : Nat → Bool} {held : Bool} {v : Value} {d : DataW H} {ps : List MemPlace}
    (hv : Value.okWide Try.prog W r b0 22 v) (h : DataW.Trod enc Try.prog W base sp held 22 v d ps) : IsAttrs W v := by
  obtain ⟨a, len, cap, rfl⟩ := okWide_slice Try.underlying22 hv
  obtain ⟨fuel, hf⟩ := h
  exact openAttrsC (v := .slice a len cap) (by simpa [Value.cells] using hf)
def IsStr (w : World) (v : Value) : Prop := ∃ s : ByteArray, v = .string s ∧ s.size ≤ maxLen
theorem openIsStr {H : Type} {enc : TypeId × Value → H} {W : World} {base : Nat} {r : Reach} {b0 : Nat} {sp : Nat → Bool} {held : Bool} {v : Value} {d : DataW H} {ps : List MemPlace}
    (hv : Value.okWide Try.prog W r b0 9 v) (h : DataW.Trod enc Try.prog W base sp held 9 v d ps) : IsStr W v := by
  obtain ⟨s, rfl, _, _, hs⟩ := Go.ChangeMaps.open_string Try.underlying9 hv h
  exact ⟨s, rfl, hs⟩

def SpanAt (w : World) (v : Value) (tr id st en : Int) (er : Bool) (l : List AttrD) : Prop := ∃ sl, v = .agg #[.int .i64 tr, .int .i64 id, .int .i64 st, .int .i64 en, .bool er, sl] ∧ AttrsAt w sl l
def IsSpan (w : World) (v : Value) : Prop := ∃ (tr id st en : Int) (er : Bool) (l : List AttrD), SpanAt w v tr id st en er l
theorem openSpanCs {H : Type} {enc : TypeId × Value → H} {W : World} {base : Nat} {sp : Nat → Bool} {held : Bool} {fuel : Nat} {cs : List Value} {x : DataW H × List MemPlace}
    (h : DataW.trod enc Try.prog W base sp held fuel 24 cs = some x) (hl : cs.length = 6) :
    ∃ (tr id st en : Int) (er : Bool) (l : List AttrD) (sl : Value), cs = [.int .i64 tr, .int .i64 id, .int .i64 st, .int .i64 en, .bool er, sl] ∧ AttrsAt W sl l := by
  obtain ⟨xs, n, _, _, _, hlen, hf⟩ := DataW.trod_struct Try.underlying24 h
  match cs, hl, xs, hlen with
  | [v0, v1, v2, v3, v4, v5], _, [y0, y1, y2, y3, y4, y5], _ =>
    have k0 : Try.prog.cellsOf 22 = 1 := by kernel_rfl
    have k1 : Try.prog.cellsOf 4 = 1 := by kernel_rfl
    have k2 : Try.prog.cellsOf 3 = 1 := by kernel_rfl
    have h0 := hf 0 _ rfl
    have h1 := hf 1 _ rfl
    have h2 := hf 2 _ rfl
    have h3 := hf 3 _ rfl
    have h4 := hf 4 _ rfl
    have h5 := hf 5 _ rfl
    simp [k0, k1, k2] at h0 h1 h2 h3 h4 h5
    obtain ⟨n0, e0, _, _⟩ := DataW.trod_int Try.underlying3 h0
    obtain ⟨n1, e1, _, _⟩ := DataW.trod_int Try.underlying3 h1
    obtain ⟨n2, e2, _, _⟩ := DataW.trod_int Try.underlying3 h2
    obtain ⟨n3, e3, _, _⟩ := DataW.trod_int Try.underlying3 h3
    obtain ⟨n4, e4, _⟩ := DataW.trod_bool Try.underlying4 h4
    obtain ⟨l, hl⟩ := openAttrsC h5
    simp only [List.cons.injEq, and_true] at e0 e1 e2 e3 e4
    subst e0 e1 e2 e3 e4
    exact ⟨n0, n1, n2, n3, n4, l, v5, rfl, hl⟩
theorem openIsSpan {H : Type} {enc : TypeId × Value → H} {W : World} {base : Nat} {r : Reach} {b0 : Nat} {sp : Nat → Bool} {held : Bool} {v : Value} {d : DataW H} {ps : List MemPlace}
    (hv : Value.okWide Try.prog W r b0 24 v) (h : DataW.Trod enc Try.prog W base sp held 24 v d ps) : IsSpan W v := by
  obtain ⟨cs, rfl, hsz⟩ := okWide_struct Try.underlying24 hv
  obtain ⟨fuel, hf⟩ := h
  have hn : Try.prog.cellsOf 24 = 6 := by kernel_rfl
  rw [hn] at hsz
  obtain ⟨tr, id, st, en, er, l, sl, e, hl⟩ := openSpanCs (cs := cs.toList) (by simpa [Value.cells] using hf) (by simpa using hsz)
  refine ⟨tr, id, st, en, er, l, sl, ?_, hl⟩
  congr 1
  exact Array.toList_inj.1 e

end Go.Proofs.Ytpmgnjchfleicac
