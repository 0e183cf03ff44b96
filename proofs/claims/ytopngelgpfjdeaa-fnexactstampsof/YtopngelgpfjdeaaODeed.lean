/-
  Deed: an argument of a law that can be read lies in memory so.
-/
import Derived.Test.YtopngelgpfjdeaaArgs
import Derived.Test.YtopngelgpfjdeaaTDeed
import Derived.Test.YtopngelgpfjdeaaOSpan
namespace Go.Proofs.Ytopngelgpfjdeaa
open Go.ChangeShapes Go.WideShapes Go.ChangeAt Go.RowKit Go.Joins Go.Deep
set_option linter.unusedVariables false
set_option maxRecDepth 100000

set_option maxHeartbeats 1000000 in
theorem oDeed {H : Type} {enc : TypeId × Value → H} {W : World} {base : Nat} {sp : Nat → Bool} {held : Bool} {fuel : Nat} {cs : List Value} {y : DataW H × List MemPlace} (h : DataW.trod enc Try.prog W base sp held fuel 128 cs = some y) (hl : cs.length = 20) : ∃ x : DeedD, deedR W All1 cs x := by
  obtain ⟨xs, n, _, _, _, hlen, hf⟩ := DataW.trod_struct Try.underlying128 h
  match cs, hl, xs, hlen with
  | [v0, v1, v2, v3, v4, v5, v6, v7, v8, v9, v10, v11, v12, v13, v14, v15, v16, v17, v18, v19], _, [y0, y1, y2, y3, y4, y5, y6, y7, y8, y9, y10, y11, y12, y13, y14], _ =>
    have k0 : Try.prog.cellsOf 3 = 1 := by kernel_rfl
    have k1 : Try.prog.cellsOf 126 = 6 := by kernel_rfl
    have k2 : Try.prog.cellsOf 4 = 1 := by kernel_rfl
    have h0 := hf 0 _ rfl
    have h1 := hf 1 _ rfl
    have h2 := hf 2 _ rfl
    have h3 := hf 3 _ rfl
    have h4 := hf 4 _ rfl
    have h5 := hf 5 _ rfl
    have h6 := hf 6 _ rfl
    have h7 := hf 7 _ rfl
    have h8 := hf 8 _ rfl
    have h9 := hf 9 _ rfl
    have h10 := hf 10 _ rfl
    have h11 := hf 11 _ rfl
    have h12 := hf 12 _ rfl
    have h13 := hf 13 _ rfl
    have h14 := hf 14 _ rfl
    simp [k0, k1, k2] at h0 h1 h2 h3 h4 h5 h6 h7 h8 h9 h10 h11 h12 h13 h14
    obtain ⟨n0, e0, _, _⟩ := DataW.trod_int Try.underlying3 h0
    obtain ⟨n1, e1, _, _⟩ := DataW.trod_int Try.underlying3 h1
    obtain ⟨n2, z2⟩ := oSpan h2 rfl
    obtain ⟨u2_0, e2, g2_0⟩ := z2
    obtain ⟨n3, e3, _, _⟩ := DataW.trod_int Try.underlying3 h3
    obtain ⟨n4, e4, _, _⟩ := DataW.trod_int Try.underlying3 h4
    obtain ⟨n5, e5, _, _⟩ := DataW.trod_int Try.underlying3 h5
    obtain ⟨n6, e6, _⟩ := DataW.trod_bool Try.underlying4 h6
    obtain ⟨n7, e7, _⟩ := DataW.trod_bool Try.underlying4 h7
    obtain ⟨n8, e8, _, _⟩ := DataW.trod_int Try.underlying3 h8
    obtain ⟨n9, e9, _, _⟩ := DataW.trod_int Try.underlying3 h9
    obtain ⟨n10, e10, _, _⟩ := DataW.trod_int Try.underlying3 h10
    obtain ⟨n11, e11, _, _⟩ := DataW.trod_int Try.underlying3 h11
    obtain ⟨n12, e12, _, _⟩ := DataW.trod_int Try.underlying3 h12
    obtain ⟨n13, e13, _, _⟩ := DataW.trod_int Try.underlying3 h13
    obtain ⟨n14, e14, _, _⟩ := DataW.trod_int Try.underlying3 h14
    simp only [List.cons.injEq, and_true] at e0 e1 e2 e3 e4 e5 e6 e7 e8 e9 e10 e11 e12 e13 e14
    subst e0
    subst e1
    subst e3
    subst e4
    subst e5
    subst e6
    subst e7
    subst e8
    subst e9
    subst e10
    subst e11
    subst e12
    subst e13
    subst e14
    obtain ⟨rfl, rfl, rfl, rfl, rfl, rfl⟩ := e2
    exact ⟨(⟨n0, n1, n2, n3, n4, n5, n6, n7, n8, n9, n10, n11, n12, n13, n14⟩ : DeedD), _, rfl, g2_0⟩
theorem oDeedS {H : Type} {enc : TypeId × Value → H} {W : World} {base : Nat} {sp : Nat → Bool} {held : Bool} {fuel : Nat} {v : Value} {y : DataW H × List MemPlace} (h : DataW.trod enc Try.prog W base sp held fuel 37 [v] = some y) : ∃ l : List DeedD, LAt 20 deedR W All1 v l := by
  obtain ⟨a, len, cap, rfl, hm, hh⟩ := openSlice (c := 20) Try.underlying37 (by kernel_rfl) (by omega) h
  rcases hh with rfl | ⟨b, o, rfl, hb, hx⟩
  · exact ⟨[], a, cap, rfl, by simp, .inl rfl⟩
  · obtain ⟨l, hl, hp⟩ := list_of1 len (fun i (x : DeedD) => ∃ cs, deedR W All1 cs x ∧ InB W b (o + i * 20) cs) (fun i hi => by
      obtain ⟨cs, n, z, g1, g2, g3⟩ := hx i hi
      obtain ⟨x, hx⟩ := oDeed g3 g1
      refine ⟨x, cs, hx, fun j v hv => ?_⟩
      have hj : j < 20 := by
        rcases Nat.lt_or_ge j cs.length with h | h
        · omega
        · rw [List.getElem?_eq_none h] at hv; cases hv
      rw [g2 j hj]; exact hv)
    subst hl
    exact ⟨l, _, cap, rfl, hm, .inr ⟨b, o, rfl, hb, trivial, hp⟩⟩
def AtDeed (w : World) (v : Value) : Prop := ∃ (cs : List Value) (x : DeedD), v = .agg cs.toArray ∧ deedR w All1 cs x
theorem openAtDeed {H : Type} {enc : TypeId × Value → H} {W : World} {base : Nat} {r : Reach} {b0 : Nat} {sp : Nat → Bool} {held : Bool} {v : Value} {d : DataW H} {ps : List MemPlace}
    (hv : Value.okWide Try.prog W r b0 128 v) (h : DataW.Trod enc Try.prog W base sp held 128 v d ps) : AtDeed W v := by
  obtain ⟨cs, rfl, hsz⟩ := okWide_struct Try.underlying128 hv
  obtain ⟨fuel, hf⟩ := h
  have hn : Try.prog.cellsOf 128 = 20 := by kernel_rfl
  rw [hn] at hsz
  obtain ⟨x, hx⟩ := oDeed (cs := cs.toList) (by simpa [Value.cells] using hf) (by simpa using hsz)
  exact ⟨cs.toList, x, by simp, hx⟩
def AtDeedS (w : World) (v : Value) : Prop := ∃ l : List DeedD, LAt 20 deedR w All1 v l
theorem openAtDeedS {H : Type} {enc : TypeId × Value → H} {W : World} {base : Nat} {r : Reach} {b0 : Nat} {sp : Nat → Bool} {held : Bool} {v : Value} {d : DataW H} {ps : List MemPlace}
    (hv : Value.okWide Try.prog W r b0 37 v) (h : DataW.Trod enc Try.prog W base sp held 37 v d ps) : AtDeedS W v := by
  obtain ⟨a, len, cap, rfl⟩ := okWide_slice Try.underlying37 hv
  obtain ⟨fuel, hf⟩ := h
  exact oDeedS (v := .slice a len cap) (by simpa [Value.cells] using hf)
end Go.Proofs.Ytopngelgpfjdeaa
