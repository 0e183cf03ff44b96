/-
  Task: an argument of a law lies in memory so, and its own numbers are ints.
-/
import Derived.Test.YtmlgpgejfnlfmaaDoorOTask
import Derived.Test.YtmlgpgejfnlfmaaDoorATask
import Derived.Test.YtmlgpgejfnlfmaaDoorIn64
namespace Go.Proofs.YtmlgpgejfnlfmaaDoor
open Go.ChangeShapes Go.WideShapes Go.ChangeAt Go.RowKit Go.Joins Go.Deep
set_option linter.unusedVariables false
set_option maxRecDepth 100000

def InTask (x : TaskD) : Prop := InI x.op ∧ InI x.pc ∧ InI x.trace ∧ InI x.stamp ∧ InI x.h
set_option maxHeartbeats 1000000 in
theorem oTaskW {H : Type} {enc : TypeId × Value → H} {W : World} {base : Nat} {sp : Nat → Bool} {held : Bool} {fuel : Nat} {cs : List Value} {y : DataW H × List MemPlace} (h : DataW.trod enc Tryd.prog W base sp held fuel 27 cs = some y) (hl : cs.length = 12) : ∃ x : TaskD, taskR W All1 cs x ∧ InTask x := by
  obtain ⟨x, hx⟩ := oTask h hl
  refine ⟨x, hx, ?_⟩
  obtain ⟨xs, n, _, _, _, hlen, hf⟩ := DataW.trod_struct Tryd.underlying27 h
  match cs, hl, xs, hlen with
  | [v0, v1, v2, v3, v4, v5, v6, v7, v8, v9, v10, v11], _, [y0, y1, y2, y3, y4, y5, y6], _ =>
    have k0 : Tryd.prog.cellsOf 3 = 1 := by kernel_rfl
    have k1 : Tryd.prog.cellsOf 24 = 6 := by kernel_rfl
    have k2 : Tryd.prog.cellsOf 25 = 1 := by kernel_rfl
    have h0 := hf 0 _ rfl
    have h1 := hf 1 _ rfl
    have h2 := hf 2 _ rfl
    have h3 := hf 3 _ rfl
    have h4 := hf 4 _ rfl
    have h5 := hf 5 _ rfl
    have h6 := hf 6 _ rfl
    simp [k0, k1, k2] at h0 h1 h2 h3 h4 h5 h6
    obtain ⟨n0, e0, _, w0⟩ := DataW.trod_int Tryd.underlying3 h0
    have c0 := taskR_c0 hx
    have z0 : n0 = x.op := by simp at c0 e0; rw [e0] at c0; simpa using c0
    obtain ⟨n1, e1, _, w1⟩ := DataW.trod_int Tryd.underlying3 h1
    have c1 := taskR_c1 hx
    have z1 : n1 = x.pc := by simp at c1 e1; rw [e1] at c1; simpa using c1
    obtain ⟨n3, e3, _, w3⟩ := DataW.trod_int Tryd.underlying3 h3
    have c3 := taskR_c8 hx
    have z3 : n3 = x.trace := by simp at c3 e3; rw [e3] at c3; simpa using c3
    obtain ⟨n4, e4, _, w4⟩ := DataW.trod_int Tryd.underlying3 h4
    have c4 := taskR_c9 hx
    have z4 : n4 = x.stamp := by simp at c4 e4; rw [e4] at c4; simpa using c4
    obtain ⟨n6, e6, _, w6⟩ := DataW.trod_int Tryd.underlying3 h6
    have c6 := taskR_c11 hx
    have z6 : n6 = x.h := by simp at c6 e6; rw [e6] at c6; simpa using c6
    exact ⟨z0 ▸ inI_wf w0, z1 ▸ inI_wf w1, z3 ▸ inI_wf w3, z4 ▸ inI_wf w4, z6 ▸ inI_wf w6⟩
def AtTaskW (w : World) (v : Value) : Prop := ∃ (cs : List Value) (x : TaskD), v = .agg cs.toArray ∧ taskR w All1 cs x ∧ InTask x
theorem openAtTaskW {H : Type} {enc : TypeId × Value → H} {W : World} {base : Nat} {r : Reach} {b0 : Nat} {sp : Nat → Bool} {held : Bool} {v : Value} {d : DataW H} {ps : List MemPlace}
    (hv : Value.okWide Tryd.prog W r b0 27 v) (h : DataW.Trod enc Tryd.prog W base sp held 27 v d ps) : AtTaskW W v := by
  obtain ⟨cs, rfl, hsz⟩ := okWide_struct Tryd.underlying27 hv
  obtain ⟨fuel, hf⟩ := h
  have hn : Tryd.prog.cellsOf 27 = 12 := by kernel_rfl
  rw [hn] at hsz
  obtain ⟨x, hx, hi⟩ := oTaskW (cs := cs.toList) (by simpa [Value.cells] using hf) (by simpa using hsz)
  exact ⟨cs.toList, x, by simp, hx, hi⟩
end Go.Proofs.YtmlgpgejfnlfmaaDoor
