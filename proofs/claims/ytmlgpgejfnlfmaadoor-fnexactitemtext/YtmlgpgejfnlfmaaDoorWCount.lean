/-
  Count: an argument of a law lies in memory so, and its own numbers are ints.
-/
import Derived.Test.YtmlgpgejfnlfmaaDoorOCount
import Derived.Test.YtmlgpgejfnlfmaaDoorACount
import Derived.Test.YtmlgpgejfnlfmaaDoorIn64
namespace Go.Proofs.YtmlgpgejfnlfmaaDoor
open Go.ChangeShapes Go.WideShapes Go.ChangeAt Go.RowKit Go.Joins Go.Deep
set_option linter.unusedVariables false
set_option maxRecDepth 100000

def InCount (x : CountD) : Prop := InI x.came ∧ InI x.went ∧ InI x.moving ∧ InI x.held ∧ InI x.dropped
set_option maxHeartbeats 1000000 in
theorem oCountW {H : Type} {enc : TypeId × Value → H} {W : World} {base : Nat} {sp : Nat → Bool} {held : Bool} {fuel : Nat} {cs : List Value} {y : DataW H × List MemPlace} (h : DataW.trod enc Tryd.prog W base sp held fuel 40 cs = some y) (hl : cs.length = 5) : ∃ x : CountD, countR W All1 cs x ∧ InCount x := by
  obtain ⟨x, hx⟩ := oCount h hl
  refine ⟨x, hx, ?_⟩
  obtain ⟨xs, n, _, _, _, hlen, hf⟩ := DataW.trod_struct Tryd.underlying40 h
  match cs, hl, xs, hlen with
  | [v0, v1, v2, v3, v4], _, [y0, y1, y2, y3, y4], _ =>
    have k0 : Tryd.prog.cellsOf 3 = 1 := by kernel_rfl
    have h0 := hf 0 _ rfl
    have h1 := hf 1 _ rfl
    have h2 := hf 2 _ rfl
    have h3 := hf 3 _ rfl
    have h4 := hf 4 _ rfl
    simp [k0] at h0 h1 h2 h3 h4
    obtain ⟨n0, e0, _, w0⟩ := DataW.trod_int Tryd.underlying3 h0
    have c0 := countR_c0 hx
    have z0 : n0 = x.came := by simp at c0 e0; rw [e0] at c0; simpa using c0
    obtain ⟨n1, e1, _, w1⟩ := DataW.trod_int Tryd.underlying3 h1
    have c1 := countR_c1 hx
    have z1 : n1 = x.went := by simp at c1 e1; rw [e1] at c1; simpa using c1
    obtain ⟨n2, e2, _, w2⟩ := DataW.trod_int Tryd.underlying3 h2
    have c2 := countR_c2 hx
    have z2 : n2 = x.moving := by simp at c2 e2; rw [e2] at c2; simpa using c2
    obtain ⟨n3, e3, _, w3⟩ := DataW.trod_int Tryd.underlying3 h3
    have c3 := countR_c3 hx
    have z3 : n3 = x.held := by simp at c3 e3; rw [e3] at c3; simpa using c3
    obtain ⟨n4, e4, _, w4⟩ := DataW.trod_int Tryd.underlying3 h4
    have c4 := countR_c4 hx
    have z4 : n4 = x.dropped := by simp at c4 e4; rw [e4] at c4; simpa using c4
    exact ⟨z0 ▸ inI_wf w0, z1 ▸ inI_wf w1, z2 ▸ inI_wf w2, z3 ▸ inI_wf w3, z4 ▸ inI_wf w4⟩
def AtCountW (w : World) (v : Value) : Prop := ∃ (cs : List Value) (x : CountD), v = .agg cs.toArray ∧ countR w All1 cs x ∧ InCount x
theorem openAtCountW {H : Type} {enc : TypeId × Value → H} {W : World} {base : Nat} {r : Reach} {b0 : Nat} {sp : Nat → Bool} {held : Bool} {v : Value} {d : DataW H} {ps : List MemPlace}
    (hv : Value.okWide Tryd.prog W r b0 40 v) (h : DataW.Trod enc Tryd.prog W base sp held 40 v d ps) : AtCountW W v := by
  obtain ⟨cs, rfl, hsz⟩ := okWide_struct Tryd.underlying40 hv
  obtain ⟨fuel, hf⟩ := h
  have hn : Tryd.prog.cellsOf 40 = 5 := by kernel_rfl
  rw [hn] at hsz
  obtain ⟨x, hx, hi⟩ := oCountW (cs := cs.toList) (by simpa [Value.cells] using hf) (by simpa using hsz)
  exact ⟨cs.toList, x, by simp, hx, hi⟩
end Go.Proofs.YtmlgpgejfnlfmaaDoor
