/-
  Pol: an argument of a law that can be read lies in memory so.
-/
import Derived.Test.YtlhjhnjpmafceaaArgs
import Derived.Test.YtlhjhnjpmafceaaTPol
namespace Go.Proofs.Ytlhjhnjpmafceaa
open Go.ChangeShapes Go.WideShapes Go.ChangeAt Go.RowKit Go.Joins Go.Deep
set_option linter.unusedVariables false
set_option maxRecDepth 100000

/-- As openSlice; what is read of an element is read with less fuel. -/
theorem openSliceF {H : Type} {enc : TypeId × Value → H} {P : Program} {W : World} {base : Nat} {sp : Nat → Bool} {held : Bool} {fuel : Nat} {t e : TypeId} {c : Nat} {v : Value} {x : DataW H × List MemPlace}
    (ht : P.underlying t = some (.slice e)) (hc : P.cellsOf e = c) (hp : 0 < c) (h : DataW.trod enc P W base sp held fuel t [v] = some x) :
    ∃ a len cap, v = .slice a len cap ∧ len ≤ cap ∧ len ≤ 9223372036854775807 ∧ (len = 0 ∨ ∃ b o, a = some ⟨b, o, none⟩ ∧ b < W.heap.size ∧
      ∀ i, i < len → ∃ cs n y, n < fuel ∧ cs.length = c ∧ (∀ j, j < c → W.cell? ⟨b, o + i * c + j, none⟩ = cs[j]?) ∧ DataW.trod enc P W base sp held n e cs = some y) := by
  subst hc
  rcases DataW.trod_slice ht h with ⟨h0, _⟩ | ⟨a, len, cap, elems, rest, n, hfu, hcs, _, hb, hl, hm, hlen, hel, _, _⟩
  · simp only [List.cons.injEq, and_true] at h0
    exact ⟨none, 0, 0, h0, Nat.le_refl _, by omega, .inl rfl⟩
  · simp only [List.cons.injEq, and_true] at hcs
    unfold maxLen at hm
    refine ⟨some a, len, cap, hcs, hl, by omega, ?_⟩
    by_cases h0 : len = 0
    · exact .inl h0
    have hx : ∀ i, i < len → ∃ cs', W.cells? base (a.add (i * P.cellsOf e)) (P.cellsOf e) = some cs' ∧ ∃ y, DataW.trod enc P W base sp held n e cs' = some y := by
      intro i hi
      have := hel i hi
      rw [List.getElem?_eq_getElem (by omega)] at this
      obtain ⟨cs', g1, g2⟩ := Option.bind_eq_some_iff.1 this
      exact ⟨cs', g1, _, g2⟩
    obtain ⟨b, o, spot⟩ := a
    obtain ⟨cs0, g1, _⟩ := hx 0 (by omega)
    obtain ⟨_, hlen0, hcell0⟩ := World.cells?_some g1
    have q := hcell0 0 hp
    rw [Nat.zero_mul, add_add, List.getElem?_eq_getElem (by omega)] at q
    have hspot : spot = none := by simpa [Addr.add] using World.cell?_spot q
    subst hspot
    refine .inr ⟨b, o, rfl, block_lt_of_cell (a := ⟨b, o + 0, none⟩) (by rw [add_off] at q; exact q), fun i hi => ?_⟩
    obtain ⟨cs', g1, y, g2⟩ := hx i hi
    obtain ⟨_, hlen, hcell⟩ := World.cells?_some g1
    refine ⟨cs', n, y, by omega, hlen, fun j hj => ?_, g2⟩
    have := hcell j hj
    rw [add_add, add_off] at this
    rw [Nat.add_assoc]
    exact this
set_option maxHeartbeats 1000000 in
theorem oPol {H : Type} {enc : TypeId × Value → H} {W : World} {base : Nat} {sp : Nat → Bool} {held : Bool} : ∀ (fuel : Nat) {cs : List Value} {y : DataW H × List MemPlace} (h : DataW.trod enc Try.prog W base sp held fuel 24 cs = some y) (hl : cs.length = 5), ∃ x : PolD, polR W All1 cs x := by
  intro fuel
  induction fuel using Nat.strongRecOn with
  | _ fuel ih =>
    intro cs y h hl
    obtain ⟨xs, n, hn, _, _, hlen, hf⟩ := DataW.trod_struct Try.underlying24 h
    match cs, hl, xs, hlen with
    | [v0, v1, v2, v3, v4], _, [y0, y1, y2, y3, y4], _ =>
      have k0 : Try.prog.cellsOf 3 = 1 := by kernel_rfl
      have k1 : Try.prog.cellsOf 9 = 1 := by kernel_rfl
      have k2 : Try.prog.cellsOf 22 = 1 := by kernel_rfl
      have h0 := hf 0 _ rfl
      have h1 := hf 1 _ rfl
      have h2 := hf 2 _ rfl
      have h3 := hf 3 _ rfl
      have h4 := hf 4 _ rfl
      simp [k0, k1, k2] at h0 h1 h2 h3 h4
      obtain ⟨n0, e0, _, _⟩ := DataW.trod_int Try.underlying3 h0
      obtain ⟨n1, e1, _, _⟩ := DataW.trod_int Try.underlying3 h1
      obtain ⟨n2, e2, _, q2⟩ := DataW.trod_string Try.underlying9 h2
      obtain ⟨n3, e3, _, q3⟩ := DataW.trod_string Try.underlying9 h3
      simp only [List.cons.injEq, and_true] at e0 e1 e2 e3
      subst e0
      subst e1
      subst e2
      subst e3
      obtain ⟨a, len, cap, rfl, hcp, hm, hh⟩ := openSliceF (c := 5) Try.underlying22 (by kernel_rfl) (by omega) h4
      have hlst : ∃ l : List PolD, LAtC 5 polR W All1 (.slice a len cap) l := by
        rcases hh with rfl | ⟨b, o, rfl, hb, hx⟩
        · exact ⟨[], ⟨a, cap, rfl, by simp, .inl rfl⟩, CapV.mk hcp⟩
        · obtain ⟨l, hl, hp⟩ := list_of1 len (fun i (x : PolD) => ∃ cs, polR W All1 cs x ∧ InB W b (o + i * 5) cs) (fun i hi => by
            obtain ⟨cs, m, z, g0, g1, g2, g3⟩ := hx i hi
            obtain ⟨x, hx⟩ := ih m (by omega) g3 g1
            refine ⟨x, cs, hx, fun j v hv => ?_⟩
            have hj : j < 5 := by
              rcases Nat.lt_or_ge j cs.length with h | h
              · omega
              · rw [List.getElem?_eq_none h] at hv; cases hv
            rw [g2 j hj]; exact hv)
          subst hl
          exact ⟨l, ⟨_, cap, rfl, hm, .inr ⟨b, o, rfl, hb, trivial, hp⟩⟩, CapV.mk hcp⟩
      obtain ⟨l, hl⟩ := hlst
      exact ⟨⟨n0, n1, n2, n3, l⟩, polR_open.2 ⟨_, rfl, q2, q3, hl⟩⟩
def AtPol (w : World) (v : Value) : Prop := ∃ (cs : List Value) (x : PolD), v = .agg cs.toArray ∧ polR w All1 cs x
theorem openAtPol {H : Type} {enc : TypeId × Value → H} {W : World} {base : Nat} {r : Reach} {b0 : Nat} {sp : Nat → Bool} {held : Bool} {v : Value} {d : DataW H} {ps : List MemPlace}
    (hv : Value.okWide Try.prog W r b0 24 v) (h : DataW.Trod enc Try.prog W base sp held 24 v d ps) : AtPol W v := by
  obtain ⟨cs, rfl, hsz⟩ := okWide_struct Try.underlying24 hv
  obtain ⟨fuel, hf⟩ := h
  have hn : Try.prog.cellsOf 24 = 5 := by kernel_rfl
  rw [hn] at hsz
  obtain ⟨x, hx⟩ := oPol fuel (cs := cs.toList) (by simpa [Value.cells] using hf) (by simpa using hsz)
  exact ⟨cs.toList, x, by simp, hx⟩
end Go.Proofs.Ytlhjhnjpmafceaa
