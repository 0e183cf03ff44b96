/-
  Verdict: an argument of a law that can be read lies in memory so.
-/
import Derived.Test.YtlhjhnjpmafceabArgs
import Derived.Test.YtlhjhnjpmafceabTVerdict
namespace Go.Proofs.Ytlhjhnjpmafceab
open Go.ChangeShapes Go.WideShapes Go.ChangeAt Go.RowKit Go.Joins Go.Deep
set_option linter.unusedVariables false
set_option maxRecDepth 100000

set_option maxHeartbeats 1000000 in
theorem oVerdict {H : Type} {enc : TypeId × Value → H} {W : World} {base : Nat} {sp : Nat → Bool} {held : Bool} {fuel : Nat} {cs : List Value} {y : DataW H × List MemPlace} (h : DataW.trod enc Try.prog W base sp held fuel 72 cs = some y) (hl : cs.length = 3) : ∃ x : VerdictD, verdictR W All1 cs x := by
  obtain ⟨xs, n, _, _, _, hlen, hf⟩ := DataW.trod_struct Try.underlying72 h
  match cs, hl, xs, hlen with
  | [v0, v1, v2], _, [y0, y1, y2], _ =>
    have k0 : Try.prog.cellsOf 3 = 1 := by kernel_rfl
    have k1 : Try.prog.cellsOf 4 = 1 := by kernel_rfl
    have h0 := hf 0 _ rfl
    have h1 := hf 1 _ rfl
    have h2 := hf 2 _ rfl
    simp [k0, k1] at h0 h1 h2
    obtain ⟨n0, e0, _, _⟩ := DataW.trod_int Try.underlying3 h0
    obtain ⟨n1, e1, _, _⟩ := DataW.trod_int Try.underlying3 h1
    obtain ⟨n2, e2, _⟩ := DataW.trod_bool Try.underlying4 h2
    simp only [List.cons.injEq, and_true] at e0 e1 e2
    subst e0
    subst e1
    subst e2
    exact ⟨(⟨n0, n1, n2⟩ : VerdictD), rfl⟩
theorem oVerdictS {H : Type} {enc : TypeId × Value → H} {W : World} {base : Nat} {sp : Nat → Bool} {held : Bool} {fuel : Nat} {v : Value} {y : DataW H × List MemPlace} (h : DataW.trod enc Try.prog W base sp held fuel 70 [v] = some y) : ∃ l : List VerdictD, LAt 3 verdictR W All1 v l := by
  obtain ⟨a, len, cap, rfl, hm, hh⟩ := openSlice (c := 3) Try.underlying70 (by kernel_rfl) (by omega) h
  rcases hh with rfl | ⟨b, o, rfl, hb, hx⟩
  · exact ⟨[], a, cap, rfl, by simp, .inl rfl⟩
  · obtain ⟨l, hl, hp⟩ := list_of1 len (fun i (x : VerdictD) => ∃ cs, verdictR W All1 cs x ∧ InB W b (o + i * 3) cs) (fun i hi => by
      obtain ⟨cs, n, z, g1, g2, g3⟩ := hx i hi
      obtain ⟨x, hx⟩ := oVerdict g3 g1
      refine ⟨x, cs, hx, fun j v hv => ?_⟩
      have hj : j < 3 := by
        rcases Nat.lt_or_ge j cs.length with h | h
        · omega
        · rw [List.getElem?_eq_none h] at hv; cases hv
      rw [g2 j hj]; exact hv)
    subst hl
    exact ⟨l, _, cap, rfl, hm, .inr ⟨b, o, rfl, hb, trivial, hp⟩⟩
def AtVerdict (w : World) (v : Value) : Prop := ∃ (cs : List Value) (x : VerdictD), v = .agg cs.toArray ∧ verdictR w All1 cs x
theorem openAtVerdict {H : Type} {enc : TypeId × Value → H} {W : World} {base : Nat} {r : Reach} {b0 : Nat} {sp : Nat → Bool} {held : Bool} {v : Value} {d : DataW H} {ps : List MemPlace}
    (hv : Value.okWide Try.prog W r b0 72 v) (h : DataW.Trod enc Try.prog W base sp held 72 v d ps) : AtVerdict W v := by
  obtain ⟨cs, rfl, hsz⟩ := okWide_struct Try.underlying72 hv
  obtain ⟨fuel, hf⟩ := h
  have hn : Try.prog.cellsOf 72 = 3 := by kernel_rfl
  rw [hn] at hsz
  obtain ⟨x, hx⟩ := oVerdict (cs := cs.toList) (by simpa [Value.cells] using hf) (by simpa using hsz)
  exact ⟨cs.toList, x, by simp, hx⟩
def AtVerdictS (w : World) (v : Value) : Prop := ∃ l : List VerdictD, LAt 3 verdictR w All1 v l
theorem openAtVerdictS {H : Type} {enc : TypeId × Value → H} {W : World} {base : Nat} {r : Reach} {b0 : Nat} {sp : Nat → Bool} {held : Bool} {v : Value} {d : DataW H} {ps : List MemPlace}
    (hv : Value.okWide Try.prog W r b0 70 v) (h : DataW.Trod enc Try.prog W base sp held 70 v d ps) : AtVerdictS W v := by
  obtain ⟨a, len, cap, rfl⟩ := okWide_slice Try.underlying70 hv
  obtain ⟨fuel, hf⟩ := h
  exact oVerdictS (v := .slice a len cap) (by simpa [Value.cells] using hf)
end Go.Proofs.Ytlhjhnjpmafceab
