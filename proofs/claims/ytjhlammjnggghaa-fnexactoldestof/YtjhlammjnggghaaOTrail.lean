/-
  Trail: an argument of a law that can be read lies in memory so.
-/
import Derived.Test.YtjhlammjnggghaaArgs
import Derived.Test.YtjhlammjnggghaaTTrail
import Derived.Test.YtjhlammjnggghaaOSpan
namespace Go.Proofs.Ytjhlammjnggghaa
open Go.ChangeShapes Go.WideShapes Go.ChangeAt Go.RowKit Go.Joins Go.Deep
set_option linter.unusedVariables false
set_option maxRecDepth 100000

set_option maxHeartbeats 1000000 in
theorem oTrail {H : Type} {enc : TypeId × Value → H} {W : World} {base : Nat} {sp : Nat → Bool} {held : Bool} {fuel : Nat} {cs : List Value} {y : DataW H × List MemPlace} (h : DataW.trod enc Try.prog W base sp held fuel 123 cs = some y) (hl : cs.length = 4) : ∃ x : TrailD, trailR W All1 cs x := by
  obtain ⟨xs, n, _, _, _, hlen, hf⟩ := DataW.trod_struct Try.underlying123 h
  match cs, hl, xs, hlen with
  | [v0, v1, v2, v3], _, [y0, y1, y2, y3], _ =>
    have k0 : Try.prog.cellsOf 3 = 1 := by kernel_rfl
    have k1 : Try.prog.cellsOf 108 = 1 := by kernel_rfl
    have h0 := hf 0 _ rfl
    have h1 := hf 1 _ rfl
    have h2 := hf 2 _ rfl
    have h3 := hf 3 _ rfl
    simp [k0, k1] at h0 h1 h2 h3
    obtain ⟨n0, e0, _, _⟩ := DataW.trod_int Try.underlying3 h0
    obtain ⟨n1, e1, _, _⟩ := DataW.trod_int Try.underlying3 h1
    obtain ⟨n2, e2, _, _⟩ := DataW.trod_int Try.underlying3 h2
    obtain ⟨n3, g3⟩ := oSpanS h3
    simp only [List.cons.injEq, and_true] at e0 e1 e2
    subst e0
    subst e1
    subst e2
    exact ⟨(⟨n0, n1, n2, n3⟩ : TrailD), _, rfl, g3⟩
theorem oTrailS {H : Type} {enc : TypeId × Value → H} {W : World} {base : Nat} {sp : Nat → Bool} {held : Bool} {fuel : Nat} {v : Value} {y : DataW H × List MemPlace} (h : DataW.trod enc Try.prog W base sp held fuel 22 [v] = some y) : ∃ l : List TrailD, LAt 4 trailR W All1 v l := by
  obtain ⟨a, len, cap, rfl, hm, hh⟩ := openSlice (c := 4) Try.underlying22 (by kernel_rfl) (by omega) h
  rcases hh with rfl | ⟨b, o, rfl, hb, hx⟩
  · exact ⟨[], a, cap, rfl, by simp, .inl rfl⟩
  · obtain ⟨l, hl, hp⟩ := list_of1 len (fun i (x : TrailD) => ∃ cs, trailR W All1 cs x ∧ InB W b (o + i * 4) cs) (fun i hi => by
      obtain ⟨cs, n, z, g1, g2, g3⟩ := hx i hi
      obtain ⟨x, hx⟩ := oTrail g3 g1
      refine ⟨x, cs, hx, fun j v hv => ?_⟩
      have hj : j < 4 := by
        rcases Nat.lt_or_ge j cs.length with h | h
        · omega
        · rw [List.getElem?_eq_none h] at hv; cases hv
      rw [g2 j hj]; exact hv)
    subst hl
    exact ⟨l, _, cap, rfl, hm, .inr ⟨b, o, rfl, hb, trivial, hp⟩⟩
def AtTrail (w : World) (v : Value) : Prop := ∃ (cs : List Value) (x : TrailD), v = .agg cs.toArray ∧ trailR w All1 cs x
theorem openAtTrail {H : Type} {enc : TypeId × Value → H} {W : World} {base : Nat} {r : Reach} {b0 : Nat} {sp : Nat → Bool} {held : Bool} {v : Value} {d : DataW H} {ps : List MemPlace}
    (hv : Value.okWide Try.prog W r b0 123 v) (h : DataW.Trod enc Try.prog W base sp held 123 v d ps) : AtTrail W v := by
  obtain ⟨cs, rfl, hsz⟩ := okWide_struct Try.underlying123 hv
  obtain ⟨fuel, hf⟩ := h
  have hn : Try.prog.cellsOf 123 = 4 := by kernel_rfl
  rw [hn] at hsz
  obtain ⟨x, hx⟩ := oTrail (cs := cs.toList) (by simpa [Value.cells] using hf) (by simpa using hsz)
  exact ⟨cs.toList, x, by simp, hx⟩
def AtTrailS (w : World) (v : Value) : Prop := ∃ l : List TrailD, LAt 4 trailR w All1 v l
theorem openAtTrailS {H : Type} {enc : TypeId × Value → H} {W : World} {base : Nat} {r : Reach} {b0 : Nat} {sp : Nat → Bool} {held : Bool} {v : Value} {d : DataW H} {ps : List MemPlace}
    (hv : Value.okWide Try.prog W r b0 22 v) (h : DataW.Trod enc Try.prog W base sp held 22 v d ps) : AtTrailS W v := by
  obtain ⟨a, len, cap, rfl⟩ := okWide_slice Try.underlying22 hv
  obtain ⟨fuel, hf⟩ := h
  exact oTrailS (v := .slice a len cap) (by simpa [Value.cells] using hf)
end Go.Proofs.Ytjhlammjnggghaa
