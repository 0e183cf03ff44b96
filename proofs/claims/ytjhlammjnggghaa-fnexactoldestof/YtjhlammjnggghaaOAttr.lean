/-
  Attr: an argument of a law that can be read lies in memory so.
-/
import Derived.Test.YtjhlammjnggghaaArgs
import Derived.Test.YtjhlammjnggghaaTAttr
namespace Go.Proofs.Ytjhlammjnggghaa
open Go.ChangeShapes Go.WideShapes Go.ChangeAt Go.RowKit Go.Joins Go.Deep
set_option linter.unusedVariables false
set_option maxRecDepth 100000

set_option maxHeartbeats 1000000 in
theorem oAttr {H : Type} {enc : TypeId × Value → H} {W : World} {base : Nat} {sp : Nat → Bool} {held : Bool} {fuel : Nat} {cs : List Value} {y : DataW H × List MemPlace} (h : DataW.trod enc Try.prog W base sp held fuel 203 cs = some y) (hl : cs.length = 4) : ∃ x : AttrD, attrR W All1 cs x := by
  obtain ⟨xs, n, _, _, _, hlen, hf⟩ := DataW.trod_struct Try.underlying203 h
  match cs, hl, xs, hlen with
  | [v0, v1, v2, v3], _, [y0, y1, y2, y3], _ =>
    have k0 : Try.prog.cellsOf 9 = 1 := by kernel_rfl
    have k1 : Try.prog.cellsOf 4 = 1 := by kernel_rfl
    have k2 : Try.prog.cellsOf 3 = 1 := by kernel_rfl
    have h0 := hf 0 _ rfl
    have h1 := hf 1 _ rfl
    have h2 := hf 2 _ rfl
    have h3 := hf 3 _ rfl
    simp [k0, k1, k2] at h0 h1 h2 h3
    obtain ⟨n0, e0, _, q0⟩ := DataW.trod_string Try.underlying9 h0
    obtain ⟨n1, e1, _⟩ := DataW.trod_bool Try.underlying4 h1
    obtain ⟨n2, e2, _, _⟩ := DataW.trod_int Try.underlying3 h2
    obtain ⟨n3, e3, _, q3⟩ := DataW.trod_string Try.underlying9 h3
    simp only [List.cons.injEq, and_true] at e0 e1 e2 e3
    subst e0
    subst e1
    subst e2
    subst e3
    exact ⟨((n0, n1, n2, n3) : AttrD), rfl, q0, q3⟩
theorem oAttrS {H : Type} {enc : TypeId × Value → H} {W : World} {base : Nat} {sp : Nat → Bool} {held : Bool} {fuel : Nat} {v : Value} {y : DataW H × List MemPlace} (h : DataW.trod enc Try.prog W base sp held fuel 23 [v] = some y) : ∃ l : List AttrD, LAt 4 attrR W All1 v l := by
  obtain ⟨a, len, cap, rfl, hm, hh⟩ := openSlice (c := 4) Try.underlying23 (by kernel_rfl) (by omega) h
  rcases hh with rfl | ⟨b, o, rfl, hb, hx⟩
  · exact ⟨[], a, cap, rfl, by simp, .inl rfl⟩
  · obtain ⟨l, hl, hp⟩ := list_of1 len (fun i (x : AttrD) => ∃ cs, attrR W All1 cs x ∧ InB W b (o + i * 4) cs) (fun i hi => by
      obtain ⟨cs, n, z, g1, g2, g3⟩ := hx i hi
      obtain ⟨x, hx⟩ := oAttr g3 g1
      refine ⟨x, cs, hx, fun j v hv => ?_⟩
      have hj : j < 4 := by
        rcases Nat.lt_or_ge j cs.length with h | h
        · omega
        · rw [List.getElem?_eq_none h] at hv; cases hv
      rw [g2 j hj]; exact hv)
    subst hl
    exact ⟨l, _, cap, rfl, hm, .inr ⟨b, o, rfl, hb, trivial, hp⟩⟩
def AtAttr (w : World) (v : Value) : Prop := ∃ (cs : List Value) (x : AttrD), v = .agg cs.toArray ∧ attrR w All1 cs x
theorem openAtAttr {H : Type} {enc : TypeId × Value → H} {W : World} {base : Nat} {r : Reach} {b0 : Nat} {sp : Nat → Bool} {held : Bool} {v : Value} {d : DataW H} {ps : List MemPlace}
    (hv : Value.okWide Try.prog W r b0 203 v) (h : DataW.Trod enc Try.prog W base sp held 203 v d ps) : AtAttr W v := by
  obtain ⟨cs, rfl, hsz⟩ := okWide_struct Try.underlying203 hv
  obtain ⟨fuel, hf⟩ := h
  have hn : Try.prog.cellsOf 203 = 4 := by kernel_rfl
  rw [hn] at hsz
  obtain ⟨x, hx⟩ := oAttr (cs := cs.toList) (by simpa [Value.cells] using hf) (by simpa using hsz)
  exact ⟨cs.toList, x, by simp, hx⟩
def AtAttrS (w : World) (v : Value) : Prop := ∃ l : List AttrD, LAt 4 attrR w All1 v l
theorem openAtAttrS {H : Type} {enc : TypeId × Value → H} {W : World} {base : Nat} {r : Reach} {b0 : Nat} {sp : Nat → Bool} {held : Bool} {v : Value} {d : DataW H} {ps : List MemPlace}
    (hv : Value.okWide Try.prog W r b0 23 v) (h : DataW.Trod enc Try.prog W base sp held 23 v d ps) : AtAttrS W v := by
  obtain ⟨a, len, cap, rfl⟩ := okWide_slice Try.underlying23 hv
  obtain ⟨fuel, hf⟩ := h
  exact oAttrS (v := .slice a len cap) (by simpa [Value.cells] using hf)
end Go.Proofs.Ytjhlammjnggghaa
