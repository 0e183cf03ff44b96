/-
  World: an argument of a law that can be read lies in memory so.
-/
import Derived.Test.YtigkhilgnaecjabArgs
import Derived.Test.YtigkhilgnaecjabTWorld
import Derived.Test.YtigkhilgnaecjabOConf
import Derived.Test.YtigkhilgnaecjabOStripe
import Derived.Test.YtigkhilgnaecjabOBucket
import Derived.Test.YtigkhilgnaecjabOVerdict
import Derived.Test.YtigkhilgnaecjabOWheel
import Derived.Test.YtigkhilgnaecjabOTimer
import Derived.Test.YtigkhilgnaecjabOItem
import Derived.Test.YtigkhilgnaecjabOTask
import Derived.Test.YtigkhilgnaecjabODeed
namespace Go.Proofs.Ytigkhilgnaecjab
open Go.ChangeShapes Go.WideShapes Go.ChangeAt Go.RowKit Go.Joins Go.Deep
set_option linter.unusedVariables false
set_option maxRecDepth 100000

set_option maxHeartbeats 1000000 in
theorem oWorld {H : Type} {enc : TypeId × Value → H} {W : World} {base : Nat} {sp : Nat → Bool} {held : Bool} {fuel : Nat} {cs : List Value} {y : DataW H × List MemPlace} (h : DataW.trod enc Try.prog W base sp held fuel 39 cs = some y) (hl : cs.length = 32) : ∃ x : WorldD, worldR W All1 cs x := by
  obtain ⟨xs, n, _, _, _, hlen, hf⟩ := DataW.trod_struct Try.underlying39 h
  match cs, hl, xs, hlen with
  | [v0, v1, v2, v3, v4, v5, v6, v7, v8, v9, v10, v11, v12, v13, v14, v15, v16, v17, v18, v19, v20, v21, v22, v23, v24, v25, v26, v27, v28, v29, v30, v31], _, [y0, y1, y2, y3, y4, y5, y6, y7, y8, y9, y10, y11, y12, y13, y14], _ =>
    have k0 : Try.prog.cellsOf 26 = 12 := by kernel_rfl
    have k1 : Try.prog.cellsOf 3 = 1 := by kernel_rfl
    have k2 : Try.prog.cellsOf 4 = 1 := by kernel_rfl
    have k3 : Try.prog.cellsOf 27 = 1 := by kernel_rfl
    have k4 : Try.prog.cellsOf 29 = 4 := by kernel_rfl
    have k5 : Try.prog.cellsOf 30 = 1 := by kernel_rfl
    have k6 : Try.prog.cellsOf 34 = 4 := by kernel_rfl
    have k7 : Try.prog.cellsOf 32 = 1 := by kernel_rfl
    have k8 : Try.prog.cellsOf 35 = 1 := by kernel_rfl
    have k9 : Try.prog.cellsOf 36 = 1 := by kernel_rfl
    have k10 : Try.prog.cellsOf 37 = 1 := by kernel_rfl
    have h0 := hf 0 _ rfl
    have h1 := hf 1 _ rfl
    have h2 := hf 2 _ rfl
    have h3 := hf 3 _ rfl
    have h4 := hf 4 _ rfl
    have h5 := hf 5 _ rfl
    have h6 := hf 6 _ rfl
    have h7 := hf 7 _ rfl
    have h8 := hf 8 _ rfl
    have h9 := hf 9 _ rfl
    have h10 := hf 10 _ rfl
    have h11 := hf 11 _ rfl
    have h12 := hf 12 _ rfl
    have h13 := hf 13 _ rfl
    have h14 := hf 14 _ rfl
    simp [k0, k1, k2, k3, k4, k5, k6, k7, k8, k9, k10] at h0 h1 h2 h3 h4 h5 h6 h7 h8 h9 h10 h11 h12 h13 h14
    obtain ⟨n0, z0⟩ := oConf h0 rfl
    obtain ⟨u0_0, e0, qs0_0, qs0_1, g0_0⟩ := z0
    obtain ⟨n1, e1, _, _⟩ := DataW.trod_int Try.underlying3 h1
    obtain ⟨n2, e2, _⟩ := DataW.trod_bool Try.underlying4 h2
    obtain ⟨n3, g3⟩ := oStripeS h3
    obtain ⟨n4, e4, _, _⟩ := DataW.trod_int Try.underlying3 h4
    obtain ⟨n5, z5⟩ := oBucket h5 rfl
    have e5 : _ = _ := z5
    obtain ⟨n6, g6⟩ := oVerdictS h6
    obtain ⟨n7, e7, _, _⟩ := DataW.trod_int Try.underlying3 h7
    obtain ⟨n8, z8⟩ := oWheel h8 rfl
    obtain ⟨u8_0, u8_1, u8_2, e8, g8_0, g8_1, g8_2⟩ := z8
    obtain ⟨n9, g9⟩ := oTimerS h9
    obtain ⟨n10, g10⟩ := oItemS h10
    obtain ⟨n11, g11⟩ := oItemS h11
    obtain ⟨n12, g12⟩ := oTaskS h12
    obtain ⟨n13, g13⟩ := oDeedS h13
    obtain ⟨n14, e14, _, _⟩ := DataW.trod_int Try.underlying3 h14
    simp only [List.cons.injEq, and_true] at e0 e1 e2 e4 e5 e7 e8 e14
    subst e1
    subst e2
    subst e4
    subst e7
    subst e14
    obtain ⟨rfl, rfl, rfl, rfl, rfl, rfl, rfl, rfl, rfl, rfl, rfl, rfl⟩ := e0
    obtain ⟨rfl, rfl, rfl, rfl⟩ := e5
    obtain ⟨rfl, rfl, rfl, rfl⟩ := e8
    exact ⟨(⟨n0, n1, n2, n3, n4, n5, n6, n7, n8, n9, n10, n11, n12, n13, n14⟩ : WorldD), _, _, _, _, _, _, _, _, _, _, _, rfl, qs0_0, qs0_1, g0_0, g3, g6, g8_0, g8_1, g8_2, g9, g10, g11, g12, g13⟩
def AtWorld (w : World) (v : Value) : Prop := ∃ (cs : List Value) (x : WorldD), v = .agg cs.toArray ∧ worldR w All1 cs x
theorem openAtWorld {H : Type} {enc : TypeId × Value → H} {W : World} {base : Nat} {r : Reach} {b0 : Nat} {sp : Nat → Bool} {held : Bool} {v : Value} {d : DataW H} {ps : List MemPlace}
    (hv : Value.okWide Try.prog W r b0 39 v) (h : DataW.Trod enc Try.prog W base sp held 39 v d ps) : AtWorld W v := by
  obtain ⟨cs, rfl, hsz⟩ := okWide_struct Try.underlying39 hv
  obtain ⟨fuel, hf⟩ := h
  have hn : Try.prog.cellsOf 39 = 32 := by kernel_rfl
  rw [hn] at hsz
  obtain ⟨x, hx⟩ := oWorld (cs := cs.toList) (by simpa [Value.cells] using hf) (by simpa using hsz)
  exact ⟨cs.toList, x, by simp, hx⟩
def AtWorldS (w : World) (v : Value) : Prop := ∃ l : List WorldD, LAt 32 worldR w All1 v l
end Go.Proofs.Ytigkhilgnaecjab
