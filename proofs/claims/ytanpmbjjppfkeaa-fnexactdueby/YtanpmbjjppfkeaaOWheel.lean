/-
  Wheel: an argument of a law that can be read lies in memory so.
-/
import Derived.Test.YtanpmbjjppfkeaaArgs
import Derived.Test.YtanpmbjjppfkeaaTWheel
import Derived.Test.YtanpmbjjppfkeaaOTimerS
import Derived.Test.YtanpmbjjppfkeaaOTimer
namespace Go.Proofs.Ytanpmbjjppfkeaa
open Go.ChangeShapes Go.WideShapes Go.ChangeAt Go.RowKit Go.Joins Go.Deep
set_option linter.unusedVariables false
set_option maxRecDepth 100000

set_option maxHeartbeats 1000000 in
theorem oWheel {H : Type} {enc : TypeId × Value → H} {W : World} {base : Nat} {sp : Nat → Bool} {held : Bool} {fuel : Nat} {cs : List Value} {y : DataW H × List MemPlace} (h : DataW.trod enc Try.prog W base sp held fuel 25 cs = some y) (hl : cs.length = 4) : ∃ x : WheelD, wheelR W All1 cs x := by
  obtain ⟨xs, n, _, _, _, hlen, hf⟩ := DataW.trod_struct Try.underlying25 h
  match cs, hl, xs, hlen with
  | [v0, v1, v2, v3], _, [y0, y1, y2, y3], _ =>
    have k0 : Try.prog.cellsOf 3 = 1 := by kernel_rfl
    have k1 : Try.prog.cellsOf 22 = 1 := by kernel_rfl
    have k2 : Try.prog.cellsOf 23 = 1 := by kernel_rfl
    have h0 := hf 0 _ rfl
    have h1 := hf 1 _ rfl
    have h2 := hf 2 _ rfl
    have h3 := hf 3 _ rfl
    simp [k0, k1, k2] at h0 h1 h2 h3
    obtain ⟨n0, e0, _, _⟩ := DataW.trod_int Try.underlying3 h0
    obtain ⟨n1, g1⟩ := oTimerSS h1
    obtain ⟨n2, g2⟩ := oTimerSS h2
    obtain ⟨n3, g3⟩ := oTimerS h3
    simp only [List.cons.injEq, and_true] at e0
    subst e0
    exact ⟨(⟨n0, n1, n2, n3⟩ : WheelD), _, _, _, rfl, g1, g2, g3⟩
def AtWheel (w : World) (v : Value) : Prop := ∃ (cs : List Value) (x : WheelD), v = .agg cs.toArray ∧ wheelR w All1 cs x
theorem openAtWheel {H : Type} {enc : TypeId × Value → H} {W : World} {base : Nat} {r : Reach} {b0 : Nat} {sp : Nat → Bool} {held : Bool} {v : Value} {d : DataW H} {ps : List MemPlace}
    (hv : Value.okWide Try.prog W r b0 25 v) (h : DataW.Trod enc Try.prog W base sp held 25 v d ps) : AtWheel W v := by
  obtain ⟨cs, rfl, hsz⟩ := okWide_struct Try.underlying25 hv
  obtain ⟨fuel, hf⟩ := h
  have hn : Try.prog.cellsOf 25 = 4 := by kernel_rfl
  rw [hn] at hsz
  obtain ⟨x, hx⟩ := oWheel (cs := cs.toList) (by simpa [Value.cells] using hf) (by simpa using hsz)
  exact ⟨cs.toList, x, by simp, hx⟩
def AtWheelS (w : World) (v : Value) : Prop := ∃ l : List WheelD, LAt 4 wheelR w All1 v l
end Go.Proofs.Ytanpmbjjppfkeaa
