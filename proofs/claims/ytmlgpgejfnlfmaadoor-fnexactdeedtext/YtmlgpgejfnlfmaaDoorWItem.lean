/-
  Item: an argument of a law lies in memory so, and its own numbers are ints.
-/
import Derived.Test.YtmlgpgejfnlfmaaDoorOItem
import Derived.Test.YtmlgpgejfnlfmaaDoorAItem
import Derived.Test.YtmlgpgejfnlfmaaDoorIn64
namespace Go.Proofs.YtmlgpgejfnlfmaaDoor
open Go.ChangeShapes Go.WideShapes Go.ChangeAt Go.RowKit Go.Joins Go.Deep
set_option linter.unusedVariables false
set_option maxRecDepth 100000

def InItem (x : ItemD) : Prop := InI x.stamp
set_option maxHeartbeats 1000000 in
theorem oItemW {H : Type} {enc : TypeId × Value → H} {W : World} {base : Nat} {sp : Nat → Bool} {held : Bool} {fuel : Nat} {cs : List Value} {y : DataW H × List MemPlace} (h : DataW.trod enc Tryd.prog W base sp held fuel 46 cs = some y) (hl : cs.length = 7) : ∃ x : ItemD, itemR W All1 cs x ∧ InItem x := by
  obtain ⟨x, hx⟩ := oItem h hl
  refine ⟨x, hx, ?_⟩
  obtain ⟨xs, n, _, _, _, hlen, hf⟩ := DataW.trod_struct Tryd.underlying46 h
  match cs, hl, xs, hlen with
  | [v0, v1, v2, v3, v4, v5, v6], _, [y0, y1], _ =>
    have k0 : Tryd.prog.cellsOf 3 = 1 := by kernel_rfl
    have k1 : Tryd.prog.cellsOf 24 = 6 := by kernel_rfl
    have h0 := hf 0 _ rfl
    have h1 := hf 1 _ rfl
    simp [k0, k1] at h0 h1
    obtain ⟨n0, e0, _, w0⟩ := DataW.trod_int Tryd.underlying3 h0
    have c0 := itemR_c0 hx
    have z0 : n0 = x.stamp := by simp at c0 e0; rw [e0] at c0; simpa using c0
    exact (show InI x.stamp from z0 ▸ inI_wf w0)
def AtItemW (w : World) (v : Value) : Prop := ∃ (cs : List Value) (x : ItemD), v = .agg cs.toArray ∧ itemR w All1 cs x ∧ InItem x
theorem openAtItemW {H : Type} {enc : TypeId × Value → H} {W : World} {base : Nat} {r : Reach} {b0 : Nat} {sp : Nat → Bool} {held : Bool} {v : Value} {d : DataW H} {ps : List MemPlace}
    (hv : Value.okWide Tryd.prog W r b0 46 v) (h : DataW.Trod enc Tryd.prog W base sp held 46 v d ps) : AtItemW W v := by
  obtain ⟨cs, rfl, hsz⟩ := okWide_struct Tryd.underlying46 hv
  obtain ⟨fuel, hf⟩ := h
  have hn : Tryd.prog.cellsOf 46 = 7 := by kernel_rfl
  rw [hn] at hsz
  obtain ⟨x, hx, hi⟩ := oItemW (cs := cs.toList) (by simpa [Value.cells] using hf) (by simpa using hsz)
  exact ⟨cs.toList, x, by simp, hx, hi⟩
end Go.Proofs.YtmlgpgejfnlfmaaDoor
