/-
  Task: an argument of a law that can be read lies in memory so.
-/
import Derived.Test.YtmlgpgejfnlfmaaDoorArgs
import Derived.Test.YtmlgpgejfnlfmaaDoorTTask
import Derived.Test.YtmlgpgejfnlfmaaDoorOSpan
import Derived.Test.YtmlgpgejfnlfmaaDoorOItem
namespace Go.Proofs.YtmlgpgejfnlfmaaDoor
open Go.ChangeShapes Go.WideShapes Go.ChangeAt Go.RowKit Go.Joins Go.Deep
set_option linter.unusedVariables false
set_option maxRecDepth 100000

set_option maxHeartbeats 1000000 in
theorem oTask {H : Type} {enc : TypeId × Value → H} {W : World} {base : Nat} {sp : Nat → Bool} {held : Bool} {fuel : Nat} {cs : List Value} {y : DataW H × List MemPlace} (h : DataW.trod enc Tryd.prog W base sp held fuel 27 cs = some y) (hl : cs.length = 12) : ∃ x : TaskD, taskR W All1 cs x := by
  obtain ⟨xs, n, _, _, _, hlen, hf⟩ := DataW.trod_struct Tryd.underlying27 h
  match cs, hl, xs, hlen with
  | [v0, v1, v2, v3, v4, v5, v6, v7, v8, v9, v10, v11], _, [y0, y1, y2, y3, y4, y5, y6], _ =>
    have k0 : Tryd.prog.cellsOf 3 = 1 := by kernel_rfl
    have k1 : Tryd.prog.cellsOf 24 = 6 := by kernel_rfl
    have k2 : Tryd.prog.cellsOf 25 = 1 := by kernel_rfl
    have h0 := hf 0 _ rfl
    have h1 := hf 1 _ rfl
    have h2 := hf 2 _ rfl
    have h3 := hf 3 _ rfl
    have h4 := hf 4 _ rfl
    have h5 := hf 5 _ rfl
    have h6 := hf 6 _ rfl
    simp [k0, k1, k2] at h0 h1 h2 h3 h4 h5 h6
    obtain ⟨n0, e0, _, _⟩ := DataW.trod_int Tryd.underlying3 h0
    obtain ⟨n1, e1, _, _⟩ := DataW.trod_int Tryd.underlying3 h1
    obtain ⟨n2, z2⟩ := oSpan h2 rfl
    obtain ⟨u2_0, e2, g2_0⟩ := z2
    obtain ⟨n3, e3, _, _⟩ := DataW.trod_int Tryd.underlying3 h3
    obtain ⟨n4, e4, _, _⟩ := DataW.trod_int Tryd.underlying3 h4
    obtain ⟨n5, g5⟩ := oItemS h5
    obtain ⟨n6, e6, _, _⟩ := DataW.trod_int Tryd.underlying3 h6
    simp only [List.cons.injEq, and_true] at e0 e1 e2 e3 e4 e6
    subst e0
    subst e1
    subst e3
    subst e4
    subst e6
    obtain ⟨rfl, rfl, rfl, rfl, rfl, rfl⟩ := e2
    exact ⟨(⟨n0, n1, n2, n3, n4, n5, n6⟩ : TaskD), _, _, rfl, g2_0, g5⟩
def AtTask (w : World) (v : Value) : Prop := ∃ (cs : List Value) (x : TaskD), v = .agg cs.toArray ∧ taskR w All1 cs x
theorem openAtTask {H : Type} {enc : TypeId × Value → H} {W : World} {base : Nat} {r : Reach} {b0 : Nat} {sp : Nat → Bool} {held : Bool} {v : Value} {d : DataW H} {ps : List MemPlace}
    (hv : Value.okWide Tryd.prog W r b0 27 v) (h : DataW.Trod enc Tryd.prog W base sp held 27 v d ps) : AtTask W v := by
  obtain ⟨cs, rfl, hsz⟩ := okWide_struct Tryd.underlying27 hv
  obtain ⟨fuel, hf⟩ := h
  have hn : Tryd.prog.cellsOf 27 = 12 := by kernel_rfl
  rw [hn] at hsz
  obtain ⟨x, hx⟩ := oTask (cs := cs.toList) (by simpa [Value.cells] using hf) (by simpa using hsz)
  exact ⟨cs.toList, x, by simp, hx⟩
def AtTaskS (w : World) (v : Value) : Prop := ∃ l : List TaskD, LAt 12 taskR w All1 v l
end Go.Proofs.YtmlgpgejfnlfmaaDoor
