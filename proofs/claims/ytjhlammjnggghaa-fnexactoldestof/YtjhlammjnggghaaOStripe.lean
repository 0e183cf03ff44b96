/-
  Stripe: an argument of a law that can be read lies in memory so.
-/
import Derived.Test.YtjhlammjnggghaaArgs
import Derived.Test.YtjhlammjnggghaaTStripe
import Derived.Test.YtjhlammjnggghaaOTrail
namespace Go.Proofs.Ytjhlammjnggghaa
open Go.ChangeShapes Go.WideShapes Go.ChangeAt Go.RowKit Go.Joins Go.Deep
set_option linter.unusedVariables false
set_option maxRecDepth 100000

set_option maxHeartbeats 1000000 in
theorem oStripe {H : Type} {enc : TypeId × Value → H} {W : World} {base : Nat} {sp : Nat → Bool} {held : Bool} {fuel : Nat} {cs : List Value} {y : DataW H × List MemPlace} (h : DataW.trod enc Try.prog W base sp held fuel 138 cs = some y) (hl : cs.length = 2) : ∃ x : StripeD, stripeR W All1 cs x := by
  obtain ⟨xs, n, _, _, _, hlen, hf⟩ := DataW.trod_struct Try.underlying138 h
  match cs, hl, xs, hlen with
  | [v0, v1], _, [y0, y1], _ =>
    have k0 : Try.prog.cellsOf 3 = 1 := by kernel_rfl
    have k1 : Try.prog.cellsOf 22 = 1 := by kernel_rfl
    have h0 := hf 0 _ rfl
    have h1 := hf 1 _ rfl
    simp [k0, k1] at h0 h1
    obtain ⟨n0, e0, _, _⟩ := DataW.trod_int Try.underlying3 h0
    obtain ⟨n1, g1⟩ := oTrailS h1
    simp only [List.cons.injEq, and_true] at e0
    subst e0
    exact ⟨(⟨n0, n1⟩ : StripeD), _, rfl, g1⟩
theorem oStripeS {H : Type} {enc : TypeId × Value → H} {W : World} {base : Nat} {sp : Nat → Bool} {held : Bool} {fuel : Nat} {v : Value} {y : DataW H × List MemPlace} (h : DataW.trod enc Try.prog W base sp held fuel 40 [v] = some y) : ∃ l : List StripeD, LAt 2 stripeR W All1 v l := by
  obtain ⟨a, len, cap, rfl, hm, hh⟩ := openSlice (c := 2) Try.underlying40 (by kernel_rfl) (by omega) h
  rcases hh with rfl | ⟨b, o, rfl, hb, hx⟩
  · exact ⟨[], a, cap, rfl, by simp, .inl rfl⟩
  · obtain ⟨l, hl, hp⟩ := list_of1 len (fun i (x : StripeD) => ∃ cs, stripeR W All1 cs x ∧ InB W b (o + i * 2) cs) (fun i hi => by
      obtain ⟨cs, n, z, g1, g2, g3⟩ := hx i hi
      obtain ⟨x, hx⟩ := oStripe g3 g1
      refine ⟨x, cs, hx, fun j v hv => ?_⟩
      have hj : j < 2 := by
        rcases Nat.lt_or_ge j cs.length with h | h
        · omega
        · rw [List.getElem?_eq_none h] at hv; cases hv
      rw [g2 j hj]; exact hv)
    subst hl
    exact ⟨l, _, cap, rfl, hm, .inr ⟨b, o, rfl, hb, trivial, hp⟩⟩
def AtStripe (w : World) (v : Value) : Prop := ∃ (cs : List Value) (x : StripeD), v = .agg cs.toArray ∧ stripeR w All1 cs x
theorem openAtStripe {H : Type} {enc : TypeId × Value → H} {W : World} {base : Nat} {r : Reach} {b0 : Nat} {sp : Nat → Bool} {held : Bool} {v : Value} {d : DataW H} {ps : List MemPlace}
    (hv : Value.okWide Try.prog W r b0 138 v) (h : DataW.Trod enc Try.prog W base sp held 138 v d ps) : AtStripe W v := by
  obtain ⟨cs, rfl, hsz⟩ := okWide_struct Try.underlying138 hv
  obtain ⟨fuel, hf⟩ := h
  have hn : Try.prog.cellsOf 138 = 2 := by kernel_rfl
  rw [hn] at hsz
  obtain ⟨x, hx⟩ := oStripe (cs := cs.toList) (by simpa [Value.cells] using hf) (by simpa using hsz)
  exact ⟨cs.toList, x, by simp, hx⟩
def AtStripeS (w : World) (v : Value) : Prop := ∃ l : List StripeD, LAt 2 stripeR w All1 v l
theorem openAtStripeS {H : Type} {enc : TypeId × Value → H} {W : World} {base : Nat} {r : Reach} {b0 : Nat} {sp : Nat → Bool} {held : Bool} {v : Value} {d : DataW H} {ps : List MemPlace}
    (hv : Value.okWide Try.prog W r b0 40 v) (h : DataW.Trod enc Try.prog W base sp held 40 v d ps) : AtStripeS W v := by
  obtain ⟨a, len, cap, rfl⟩ := okWide_slice Try.underlying40 hv
  obtain ⟨fuel, hf⟩ := h
  exact oStripeS (v := .slice a len cap) (by simpa [Value.cells] using hf)
end Go.Proofs.Ytjhlammjnggghaa
