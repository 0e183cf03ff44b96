/-
  Deed: an argument of a law lies in memory so, and its own numbers are ints.
-/
import Derived.Test.YtmlgpgejfnlfmaaDoorODeed
import Derived.Test.YtmlgpgejfnlfmaaDoorADeed
import Derived.Test.YtmlgpgejfnlfmaaDoorIn64
namespace Go.Proofs.YtmlgpgejfnlfmaaDoor
open Go.ChangeShapes Go.WideShapes Go.ChangeAt Go.RowKit Go.Joins Go.Deep
set_option linter.unusedVariables false
set_option maxRecDepth 100000

def InDeed (x : DeedD) : Prop := InI x.op ∧ InI x.task ∧ InI x.trace ∧ InI x.stamp ∧ InI x.code ∧ InI x.took ∧ InI x.n ∧ InI x.forgot ∧ InI x.now ∧ InI x.inv ∧ InI x.lin ∧ InI x.res
set_option maxHeartbeats 1000000 in
theorem oDeedW {H : Type} {enc : TypeId × Value → H} {W : World} {base : Nat} {sp : Nat → Bool} {held : Bool} {fuel : Nat} {cs : List Value} {y : DataW H × List MemPlace} (h : DataW.trod enc Tryd.prog W base sp held fuel 55 cs = some y) (hl : cs.length = 20) : ∃ x : DeedD, deedR W All1 cs x ∧ InDeed x := by
  obtain ⟨x, hx⟩ := oDeed h hl
  refine ⟨x, hx, ?_⟩
  obtain ⟨xs, n, _, _, _, hlen, hf⟩ := DataW.trod_struct Tryd.underlying55 h
  match cs, hl, xs, hlen with
  | [v0, v1, v2, v3, v4, v5, v6, v7, v8, v9, v10, v11, v12, v13, v14, v15, v16, v17, v18, v19], _, [y0, y1, y2, y3, y4, y5, y6, y7, y8, y9, y10, y11, y12, y13, y14], _ =>
    have k0 : Tryd.prog.cellsOf 3 = 1 := by kernel_rfl
    have k1 : Tryd.prog.cellsOf 24 = 6 := by kernel_rfl
    have k2 : Tryd.prog.cellsOf 4 = 1 := by kernel_rfl
    have h0 := hf 0 _ rfl
    have h1 := hf 1 _ rfl
    have h2 := hf 2 _ rfl
    have h3 := hf 3 _ rfl
    have h4 := hf 4 _ rfl
    have h5 := hf 5 _ rfl
    have h6 := hf 6 _ rfl
    have h7 := hf 7 _ rfl
    have h8 := hf 8 _ rfl
    have h9 := hf 9 _ rfl
    have h10 := hf 10 _ rfl
    have h11 := hf 11 _ rfl
    have h12 := hf 12 _ rfl
    have h13 := hf 13 _ rfl
    have h14 := hf 14 _ rfl
    simp [k0, k1, k2] at h0 h1 h2 h3 h4 h5 h6 h7 h8 h9 h10 h11 h12 h13 h14
    obtain ⟨n0, e0, _, w0⟩ := DataW.trod_int Tryd.underlying3 h0
    have c0 := deedR_c0 hx
    have z0 : n0 = x.op := by simp at c0 e0; rw [e0] at c0; simpa using c0
    obtain ⟨n1, e1, _, w1⟩ := DataW.trod_int Tryd.underlying3 h1
    have c1 := deedR_c1 hx
    have z1 : n1 = x.task := by simp at c1 e1; rw [e1] at c1; simpa using c1
    obtain ⟨n3, e3, _, w3⟩ := DataW.trod_int Tryd.underlying3 h3
    have c3 := deedR_c8 hx
    have z3 : n3 = x.trace := by simp at c3 e3; rw [e3] at c3; simpa using c3
    obtain ⟨n4, e4, _, w4⟩ := DataW.trod_int Tryd.underlying3 h4
    have c4 := deedR_c9 hx
    have z4 : n4 = x.stamp := by simp at c4 e4; rw [e4] at c4; simpa using c4
    obtain ⟨n5, e5, _, w5⟩ := DataW.trod_int Tryd.underlying3 h5
    have c5 := deedR_c10 hx
    have z5 : n5 = x.code := by simp at c5 e5; rw [e5] at c5; simpa using c5
    obtain ⟨n8, e8, _, w8⟩ := DataW.trod_int Tryd.underlying3 h8
    have c8 := deedR_c13 hx
    have z8 : n8 = x.took := by simp at c8 e8; rw [e8] at c8; simpa using c8
    obtain ⟨n9, e9, _, w9⟩ := DataW.trod_int Tryd.underlying3 h9
    have c9 := deedR_c14 hx
    have z9 : n9 = x.n := by simp at c9 e9; rw [e9] at c9; simpa using c9
    obtain ⟨n10, e10, _, w10⟩ := DataW.trod_int Tryd.underlying3 h10
    have c10 := deedR_c15 hx
    have z10 : n10 = x.forgot := by simp at c10 e10; rw [e10] at c10; simpa using c10
    obtain ⟨n11, e11, _, w11⟩ := DataW.trod_int Tryd.underlying3 h11
    have c11 := deedR_c16 hx
    have z11 : n11 = x.now := by simp at c11 e11; rw [e11] at c11; simpa using c11
    obtain ⟨n12, e12, _, w12⟩ := DataW.trod_int Tryd.underlying3 h12
    have c12 := deedR_c17 hx
    have z12 : n12 = x.inv := by simp at c12 e12; rw [e12] at c12; simpa using c12
    obtain ⟨n13, e13, _, w13⟩ := DataW.trod_int Tryd.underlying3 h13
    have c13 := deedR_c18 hx
    have z13 : n13 = x.lin := by simp at c13 e13; rw [e13] at c13; simpa using c13
    obtain ⟨n14, e14, _, w14⟩ := DataW.trod_int Tryd.underlying3 h14
    have c14 := deedR_c19 hx
    have z14 : n14 = x.res := by simp at c14 e14; rw [e14] at c14; simpa using c14
    exact ⟨z0 ▸ inI_wf w0, z1 ▸ inI_wf w1, z3 ▸ inI_wf w3, z4 ▸ inI_wf w4, z5 ▸ inI_wf w5, z8 ▸ inI_wf w8, z9 ▸ inI_wf w9, z10 ▸ inI_wf w10, z11 ▸ inI_wf w11, z12 ▸ inI_wf w12, z13 ▸ inI_wf w13, z14 ▸ inI_wf w14⟩
def AtDeedW (w : World) (v : Value) : Prop := ∃ (cs : List Value) (x : DeedD), v = .agg cs.toArray ∧ deedR w All1 cs x ∧ InDeed x
theorem openAtDeedW {H : Type} {enc : TypeId × Value → H} {W : World} {base : Nat} {r : Reach} {b0 : Nat} {sp : Nat → Bool} {held : Bool} {v : Value} {d : DataW H} {ps : List MemPlace}
    (hv : Value.okWide Tryd.prog W r b0 55 v) (h : DataW.Trod enc Tryd.prog W base sp held 55 v d ps) : AtDeedW W v := by
  obtain ⟨cs, rfl, hsz⟩ := okWide_struct Tryd.underlying55 hv
  obtain ⟨fuel, hf⟩ := h
  have hn : Tryd.prog.cellsOf 55 = 20 := by kernel_rfl
  rw [hn] at hsz
  obtain ⟨x, hx, hi⟩ := oDeedW (cs := cs.toList) (by simpa [Value.cells] using hf) (by simpa using hsz)
  exact ⟨cs.toList, x, by simp, hx, hi⟩
end Go.Proofs.YtmlgpgejfnlfmaaDoor
