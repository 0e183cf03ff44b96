/-
  Task: an argument of a law that can be read lies in memory so.
-/
import Derived.Test.YtigkhilgnaecjabArgs
import Derived.Test.YtigkhilgnaecjabTTask
import Derived.Test.YtigkhilgnaecjabOSpan
import Derived.Test.YtigkhilgnaecjabOItem
namespace Go.Proofs.Ytigkhilgnaecjab
open Go.ChangeShapes Go.WideShapes Go.ChangeAt Go.RowKit Go.Joins Go.Deep
set_option linter.unusedVariables false
set_option maxRecDepth 100000

set_option maxHeartbeats 1000000 in
theorem oTask {H : Type} {enc : TypeId × Value → H} {W : World} {base : Nat} {sp : Nat → Bool} {held : Bool} {fuel : Nat} {cs : List Value} {y : DataW H × List MemPlace} (h : DataW.trod enc Try.prog W base sp held fuel 165 cs = some y) (hl : cs.length = 12) : ∃ x : TaskD, taskR W All1 cs x := by
  obtain ⟨xs, n, _, _, _, hlen, hf⟩ := DataW.trod_struct Try.underlying165 h
  match cs, hl, xs, hlen with
  | [v0, v1, v2, v3, v4, v5, v6, v7, v8, v9, v10, v11], _, [y0, y1, y2, y3, y4, y5, y6], _ =>
    have k0 : Try.prog.cellsOf 3 = 1 := by kernel_rfl
    have k1 : Try.prog.cellsOf 142 = 6 := by kernel_rfl
    have k2 : Try.prog.cellsOf 35 = 1 := by kernel_rfl
    have h0 := hf 0 _ rfl
    have h1 := hf 1 _ rfl
    have h2 := hf 2 _ rfl
    have h3 := hf 3 _ rfl
    have h4 := hf 4 _ rfl
    have h5 := hf 5 _ rfl
    have h6 := hf 6 _ rfl
    simp [k0, k1, k2] at h0 h1 h2 h3 h4 h5 h6
    obtain ⟨n0, e0, _, _⟩ := DataW.trod_int Try.underlying3 h0
    obtain ⟨n1, e1, _, _⟩ := DataW.trod_int Try.underlying3 h1
    obtain ⟨n2, z2⟩ := oSpan h2 rfl
    obtain ⟨u2_0, e2, g2_0⟩ := z2
    obtain ⟨n3, e3, _, _⟩ := DataW.trod_int Try.underlying3 h3
    obtain ⟨n4, e4, _, _⟩ := DataW.trod_int Try.underlying3 h4
    obtain ⟨n5, g5⟩ := oItemS h5
    obtain ⟨n6, e6, _, _⟩ := DataW.trod_int Try.underlying3 h6
    simp only [List.cons.injEq, and_true] at e0 e1 e2 e3 e4 e6
    subst e0
    subst e1
    subst e3
    subst e4
    subst e6
    obtain ⟨rfl, rfl, rfl, rfl, rfl, rfl⟩ := e2
    exact ⟨(⟨n0, n1, n2, n3, n4, n5, n6⟩ : TaskD), _, _, rfl, g2_0, g5⟩
theorem oTaskS {H : Type} {enc : TypeId × Value → H} {W : World} {base : Nat} {sp : Nat → Bool} {held : Bool} {fuel : Nat} {v : Value} {y : DataW H × List MemPlace} (h : DataW.trod enc Try.prog W base sp held fuel 36 [v] = some y) : ∃ l : List TaskD, LAt 12 taskR W All1 v l := by
  obtain ⟨a, len, cap, rfl, hm, hh⟩ := openSlice (c := 12) Try.underlying36 (by kernel_rfl) (by omega) h
  rcases hh with rfl | ⟨b, o, rfl, hb, hx⟩
  · exact ⟨[], a, cap, rfl, by simp, .inl rfl⟩
  · obtain ⟨l, hl, hp⟩ := list_of1 len (fun i (x : TaskD) => ∃ cs, taskR W All1 cs x ∧ InB W b (o + i * 12) cs) (fun i hi => by
      obtain ⟨cs, n, z, g1, g2, g3⟩ := hx i hi
      obtain ⟨x, hx⟩ := oTask g3 g1
      refine ⟨x, cs, hx, fun j v hv => ?_⟩
      have hj : j < 12 := by
        rcases Nat.lt_or_ge j cs.length with h | h
        · omega
        · rw [List.getElem?_eq_none h] at hv; cases hv
      rw [g2 j hj]; exact hv)
    subst hl
    exact ⟨l, _, cap, rfl, hm, .inr ⟨b, o, rfl, hb, trivial, hp⟩⟩
def AtTask (w : World) (v : Value) : Prop := ∃ (cs : List Value) (x : TaskD), v = .agg cs.toArray ∧ taskR w All1 cs x
theorem openAtTask {H : Type} {enc : TypeId × Value → H} {W : World} {base : Nat} {r : Reach} {b0 : Nat} {sp : Nat → Bool} {held : Bool} {v : Value} {d : DataW H} {ps : List MemPlace}
    (hv : Value.okWide Try.prog W r b0 165 v) (h : DataW.Trod enc Try.prog W base sp held 165 v d ps) : AtTask W v := by
  obtain ⟨cs, rfl, hsz⟩ := okWide_struct Try.underlying165 hv
  obtain ⟨fuel, hf⟩ := h
  have hn : Try.prog.cellsOf 165 = 12 := by kernel_rfl
  rw [hn] at hsz
  obtain ⟨x, hx⟩ := oTask (cs := cs.toList) (by simpa [Value.cells] using hf) (by simpa using hsz)
  exact ⟨cs.toList, x, by simp, hx⟩
def AtTaskS (w : World) (v : Value) : Prop := ∃ l : List TaskD, LAt 12 taskR w All1 v l
theorem openAtTaskS {H : Type} {enc : TypeId × Value → H} {W : World} {base : Nat} {r : Reach} {b0 : Nat} {sp : Nat → Bool} {held : Bool} {v : Value} {d : DataW H} {ps : List MemPlace}
    (hv : Value.okWide Try.prog W r b0 36 v) (h : DataW.Trod enc Try.prog W base sp held 36 v d ps) : AtTaskS W v := by
  obtain ⟨a, len, cap, rfl⟩ := okWide_slice Try.underlying36 hv
  obtain ⟨fuel, hf⟩ := h
  exact oTaskS (v := .slice a len cap) (by simpa [Value.cells] using hf)
end Go.Proofs.Ytigkhilgnaecjab
