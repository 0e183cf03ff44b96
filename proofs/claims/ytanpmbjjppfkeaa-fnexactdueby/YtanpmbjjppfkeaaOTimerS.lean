/-
  TimerS: an argument of a law that can be read lies in memory so.
-/
import Derived.Test.YtanpmbjjppfkeaaArgs
import Derived.Test.YtanpmbjjppfkeaaTTimerS
import Derived.Test.YtanpmbjjppfkeaaOTimer
namespace Go.Proofs.Ytanpmbjjppfkeaa
open Go.ChangeShapes Go.WideShapes Go.ChangeAt Go.RowKit Go.Joins Go.Deep
set_option linter.unusedVariables false
set_option maxRecDepth 100000

theorem oXTimerS {H : Type} {enc : TypeId × Value → H} {W : World} {base : Nat} {sp : Nat → Bool} {held : Bool} {fuel : Nat} {cs : List Value} {y : DataW H × List MemPlace} (h : DataW.trod enc Try.prog W base sp held fuel 23 cs = some y) (hl : cs.length = 1) : ∃ x : List TimerD, timerSR W All1 cs x := by
  match cs, hl with
  | [v], _ =>
    obtain ⟨l, hl⟩ := oTimerS h
    exact ⟨l, v, rfl, hl⟩
theorem oTimerSS {H : Type} {enc : TypeId × Value → H} {W : World} {base : Nat} {sp : Nat → Bool} {held : Bool} {fuel : Nat} {v : Value} {y : DataW H × List MemPlace} (h : DataW.trod enc Try.prog W base sp held fuel 22 [v] = some y) : ∃ l : List (List TimerD), LAt 1 timerSR W All1 v l := by
  obtain ⟨a, len, cap, rfl, hm, hh⟩ := openSlice (c := 1) Try.underlying22 (by kernel_rfl) (by omega) h
  rcases hh with rfl | ⟨b, o, rfl, hb, hx⟩
  · exact ⟨[], a, cap, rfl, by simp, .inl rfl⟩
  · obtain ⟨l, hl, hp⟩ := list_of1 len (fun i (x : List TimerD) => ∃ cs, timerSR W All1 cs x ∧ InB W b (o + i * 1) cs) (fun i hi => by
      obtain ⟨cs, n, z, g1, g2, g3⟩ := hx i hi
      obtain ⟨x, hx⟩ := oXTimerS g3 g1
      refine ⟨x, cs, hx, fun j v hv => ?_⟩
      have hj : j < 1 := by
        rcases Nat.lt_or_ge j cs.length with h | h
        · omega
        · rw [List.getElem?_eq_none h] at hv; cases hv
      rw [g2 j hj]; exact hv)
    subst hl
    exact ⟨l, _, cap, rfl, hm, .inr ⟨b, o, rfl, hb, trivial, hp⟩⟩
def AtTimerSS (w : World) (v : Value) : Prop := ∃ l : List (List TimerD), LAt 1 timerSR w All1 v l
theorem openAtTimerSS {H : Type} {enc : TypeId × Value → H} {W : World} {base : Nat} {r : Reach} {b0 : Nat} {sp : Nat → Bool} {held : Bool} {v : Value} {d : DataW H} {ps : List MemPlace}
    (hv : Value.okWide Try.prog W r b0 22 v) (h : DataW.Trod enc Try.prog W base sp held 22 v d ps) : AtTimerSS W v := by
  obtain ⟨a, len, cap, rfl⟩ := okWide_slice Try.underlying22 hv
  obtain ⟨fuel, hf⟩ := h
  exact oTimerSS (v := .slice a len cap) (by simpa [Value.cells] using hf)
end Go.Proofs.Ytanpmbjjppfkeaa
