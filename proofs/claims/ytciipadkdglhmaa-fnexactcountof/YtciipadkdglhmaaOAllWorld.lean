/-
  What a law is handed lies in memory so: World and all that it is made of.
-/
import Derived.Test.YtciipadkdglhmaaArgs
import Derived.Test.YtciipadkdglhmaaTWorld
import Derived.Test.YtciipadkdglhmaaTConf
import Derived.Test.YtciipadkdglhmaaTPol
import Derived.Test.YtciipadkdglhmaaTStripe
import Derived.Test.YtciipadkdglhmaaTTrail
import Derived.Test.YtciipadkdglhmaaTSpan
import Derived.Test.YtciipadkdglhmaaTAttr
import Derived.Test.YtciipadkdglhmaaTBucket
import Derived.Test.YtciipadkdglhmaaTVerdict
import Derived.Test.YtciipadkdglhmaaTWheel
import Derived.Test.YtciipadkdglhmaaTTimerS
import Derived.Test.YtciipadkdglhmaaTTimer
import Derived.Test.YtciipadkdglhmaaTItem
import Derived.Test.YtciipadkdglhmaaTTask
import Derived.Test.YtciipadkdglhmaaTDeed
namespace Go.Proofs.Ytciipadkdglhmaa
open Go.ChangeShapes Go.WideShapes Go.ChangeAt Go.RowKit Go.Joins Go.Deep
set_option linter.unusedVariables false
set_option maxRecDepth 100000

/-- As openSlice; what is read of an element is read with less fuel. -/
theorem openSliceF {H : Type} {enc : TypeId × Value → H} {P : Program} {W : World} {base : Nat} {sp : Nat → Bool} {held : Bool} {fuel : Nat} {t e : TypeId} {c : Nat} {v : Value} {x : DataW H × List MemPlace}
    (ht : P.underlying t = some (.slice e)) (hc : P.cellsOf e = c) (hp : 0 < c) (h : DataW.trod enc P W base sp held fuel t [v] = some x) :
    ∃ a len cap, v = .slice a len cap ∧ len ≤ 9223372036854775807 ∧ (len = 0 ∨ ∃ b o, a = some ⟨b, o, none⟩ ∧ b < W.heap.size ∧
      ∀ i, i < len → ∃ cs n y, n < fuel ∧ cs.length = c ∧ (∀ j, j < c → W.cell? ⟨b, o + i * c + j, none⟩ = cs[j]?) ∧ DataW.trod enc P W base sp held n e cs = some y) := by
  subst hc
  rcases DataW.trod_slice ht h with ⟨h0, _⟩ | ⟨a, len, cap, elems, rest, n, hfu, hcs, _, hb, hl, hm, hlen, hel, _, _⟩
  · simp only [List.cons.injEq, and_true] at h0
    exact ⟨none, 0, 0, h0, by omega, .inl rfl⟩
  · simp only [List.cons.injEq, and_true] at hcs
    unfold maxLen at hm
    refine ⟨some a, len, cap, hcs, by omega, ?_⟩
    by_cases h0 : len = 0
    · exact .inl h0
    have hx : ∀ i, i < len → ∃ cs', W.cells? base (a.add (i * P.cellsOf e)) (P.cellsOf e) = some cs' ∧ ∃ y, DataW.trod enc P W base sp held n e cs' = some y := by
      intro i hi
      have := hel i hi
      rw [List.getElem?_eq_getElem (by omega)] at this
      obtain ⟨cs', g1, g2⟩ := Option.bind_eq_some_iff.1 this
      exact ⟨cs', g1, _, g2⟩
    obtain ⟨b, o, spot⟩ := a
    obtain ⟨cs0, g1, _⟩ := hx 0 (by omega)
    obtain ⟨_, hlen0, hcell0⟩ := World.cells?_some g1
    have q := hcell0 0 hp
    rw [Nat.zero_mul, add_add, List.getElem?_eq_getElem (by omega)] at q
    have hspot : spot = none := by simpa [Addr.add] using World.cell?_spot q
    subst hspot
    refine .inr ⟨b, o, rfl, block_lt_of_cell (a := ⟨b, o + 0, none⟩) (by rw [add_off] at q; exact q), fun i hi => ?_⟩
    obtain ⟨cs', g1, y, g2⟩ := hx i hi
    obtain ⟨_, hlen, hcell⟩ := World.cells?_some g1
    refine ⟨cs', n, y, by omega, hlen, fun j hj => ?_, g2⟩
    have := hcell j hj
    rw [add_add, add_off] at this
    rw [Nat.add_assoc]
    exact this
set_option maxHeartbeats 1000000 in
theorem oPol {H : Type} {enc : TypeId × Value → H} {W : World} {base : Nat} {sp : Nat → Bool} {held : Bool} : ∀ (fuel : Nat) {cs : List Value} {y : DataW H × List MemPlace} (h : DataW.trod enc Try.prog W base sp held fuel 24 cs = some y) (hl : cs.length = 5), ∃ x : PolD, polR W All1 cs x := by
  intro fuel
  induction fuel using Nat.strongRecOn with
  | _ fuel ih =>
    intro cs y h hl
    obtain ⟨xs, n, hn, _, _, hlen, hf⟩ := DataW.trod_struct Try.underlying24 h
    match cs, hl, xs, hlen with
    | [v0, v1, v2, v3, v4], _, [y0, y1, y2, y3, y4], _ =>
      have k0 : Try.prog.cellsOf 3 = 1 := by kernel_rfl
      have k1 : Try.prog.cellsOf 9 = 1 := by kernel_rfl
      have k2 : Try.prog.cellsOf 22 = 1 := by kernel_rfl
      have h0 := hf 0 _ rfl
      have h1 := hf 1 _ rfl
      have h2 := hf 2 _ rfl
      have h3 := hf 3 _ rfl
      have h4 := hf 4 _ rfl
      simp [k0, k1, k2] at h0 h1 h2 h3 h4
      obtain ⟨n0, e0, _, _⟩ := DataW.trod_int Try.underlying3 h0
      obtain ⟨n1, e1, _, _⟩ := DataW.trod_int Try.underlying3 h1
      obtain ⟨n2, e2, _, q2⟩ := DataW.trod_string Try.underlying9 h2
      obtain ⟨n3, e3, _, q3⟩ := DataW.trod_string Try.underlying9 h3
      simp only [List.cons.injEq, and_true] at e0 e1 e2 e3
      subst e0
      subst e1
      subst e2
      subst e3
      obtain ⟨a, len, cap, rfl, hm, hh⟩ := openSliceF (c := 5) Try.underlying22 (by kernel_rfl) (by omega) h4
      have hlst : ∃ l : List PolD, LAt 5 polR W All1 (.slice a len cap) l := by
        rcases hh with rfl | ⟨b, o, rfl, hb, hx⟩
        · exact ⟨[], a, cap, rfl, by simp, .inl rfl⟩
        · obtain ⟨l, hl, hp⟩ := list_of1 len (fun i (x : PolD) => ∃ cs, polR W All1 cs x ∧ InB W b (o + i * 5) cs) (fun i hi => by
            obtain ⟨cs, m, z, g0, g1, g2, g3⟩ := hx i hi
            obtain ⟨x, hx⟩ := ih m (by omega) g3 g1
            refine ⟨x, cs, hx, fun j v hv => ?_⟩
            have hj : j < 5 := by
              rcases Nat.lt_or_ge j cs.length with h | h
              · omega
              · rw [List.getElem?_eq_none h] at hv; cases hv
            rw [g2 j hj]; exact hv)
          subst hl
          exact ⟨l, _, cap, rfl, hm, .inr ⟨b, o, rfl, hb, trivial, hp⟩⟩
      obtain ⟨l, hl⟩ := hlst
      exact ⟨⟨n0, n1, n2, n3, l⟩, polR_open.2 ⟨_, rfl, q2, q3, hl⟩⟩
def AtPol (w : World) (v : Value) : Prop := ∃ (cs : List Value) (x : PolD), v = .agg cs.toArray ∧ polR w All1 cs x
theorem openAtPol {H : Type} {enc : TypeId × Value → H} {W : World} {base : Nat} {r : Reach} {b0 : Nat} {sp : Nat → Bool} {held : Bool} {v : Value} {d : DataW H} {ps : List MemPlace}
    (hv : Value.okWide Try.prog W r b0 24 v) (h : DataW.Trod enc Try.prog W base sp held 24 v d ps) : AtPol W v := by
  obtain ⟨cs, rfl, hsz⟩ := okWide_struct Try.underlying24 hv
  obtain ⟨fuel, hf⟩ := h
  have hn : Try.prog.cellsOf 24 = 5 := by kernel_rfl
  rw [hn] at hsz
  obtain ⟨x, hx⟩ := oPol fuel (cs := cs.toList) (by simpa [Value.cells] using hf) (by simpa using hsz)
  exact ⟨cs.toList, x, by simp, hx⟩
end Go.Proofs.Ytciipadkdglhmaa
namespace Go.Proofs.Ytciipadkdglhmaa
open Go.ChangeShapes Go.WideShapes Go.ChangeAt Go.RowKit Go.Joins Go.Deep
set_option linter.unusedVariables false
set_option maxRecDepth 100000

set_option maxHeartbeats 1000000 in
theorem oConf {H : Type} {enc : TypeId × Value → H} {W : World} {base : Nat} {sp : Nat → Bool} {held : Bool} {fuel : Nat} {cs : List Value} {y : DataW H × List MemPlace} (h : DataW.trod enc Try.prog W base sp held fuel 26 cs = some y) (hl : cs.length = 12) : ∃ x : ConfD, confR W All1 cs x := by
  obtain ⟨xs, n, _, _, _, hlen, hf⟩ := DataW.trod_struct Try.underlying26 h
  match cs, hl, xs, hlen with
  | [v0, v1, v2, v3, v4, v5, v6, v7, v8, v9, v10, v11], _, [y0, y1, y2, y3, y4, y5, y6, y7], _ =>
    have k0 : Try.prog.cellsOf 3 = 1 := by kernel_rfl
    have k1 : Try.prog.cellsOf 24 = 5 := by kernel_rfl
    have h0 := hf 0 _ rfl
    have h1 := hf 1 _ rfl
    have h2 := hf 2 _ rfl
    have h3 := hf 3 _ rfl
    have h4 := hf 4 _ rfl
    have h5 := hf 5 _ rfl
    have h6 := hf 6 _ rfl
    have h7 := hf 7 _ rfl
    simp [k0, k1] at h0 h1 h2 h3 h4 h5 h6 h7
    obtain ⟨n0, e0, _, _⟩ := DataW.trod_int Try.underlying3 h0
    obtain ⟨n1, e1, _, _⟩ := DataW.trod_int Try.underlying3 h1
    obtain ⟨n2, e2, _, _⟩ := DataW.trod_int Try.underlying3 h2
    obtain ⟨n3, e3, _, _⟩ := DataW.trod_int Try.underlying3 h3
    obtain ⟨n4, e4, _, _⟩ := DataW.trod_int Try.underlying3 h4
    obtain ⟨n5, e5, _, _⟩ := DataW.trod_int Try.underlying3 h5
    obtain ⟨n6, e6, _, _⟩ := DataW.trod_int Try.underlying3 h6
    obtain ⟨n7, z7⟩ := oPol _ h7 rfl
    obtain ⟨u7_0, e7, qa7, qb7, g7_0⟩ := polR_open.1 z7
    simp only [List.cons.injEq, and_true] at e0 e1 e2 e3 e4 e5 e6 e7
    subst e0
    subst e1
    subst e2
    subst e3
    subst e4
    subst e5
    subst e6
    obtain ⟨rfl, rfl, rfl, rfl, rfl⟩ := e7
    exact ⟨(⟨n0, n1, n2, n3, n4, n5, n6, n7⟩ : ConfD), _, rfl, qa7, qb7, g7_0⟩
def AtConf (w : World) (v : Value) : Prop := ∃ (cs : List Value) (x : ConfD), v = .agg cs.toArray ∧ confR w All1 cs x
theorem openAtConf {H : Type} {enc : TypeId × Value → H} {W : World} {base : Nat} {r : Reach} {b0 : Nat} {sp : Nat → Bool} {held : Bool} {v : Value} {d : DataW H} {ps : List MemPlace}
    (hv : Value.okWide Try.prog W r b0 26 v) (h : DataW.Trod enc Try.prog W base sp held 26 v d ps) : AtConf W v := by
  obtain ⟨cs, rfl, hsz⟩ := okWide_struct Try.underlying26 hv
  obtain ⟨fuel, hf⟩ := h
  have hn : Try.prog.cellsOf 26 = 12 := by kernel_rfl
  rw [hn] at hsz
  obtain ⟨x, hx⟩ := oConf (cs := cs.toList) (by simpa [Value.cells] using hf) (by simpa using hsz)
  exact ⟨cs.toList, x, by simp, hx⟩
def AtConfS (w : World) (v : Value) : Prop := ∃ l : List ConfD, LAt 12 confR w All1 v l
end Go.Proofs.Ytciipadkdglhmaa
namespace Go.Proofs.Ytciipadkdglhmaa
open Go.ChangeShapes Go.WideShapes Go.ChangeAt Go.RowKit Go.Joins Go.Deep
set_option linter.unusedVariables false
set_option maxRecDepth 100000

set_option maxHeartbeats 1000000 in
theorem oAttr {H : Type} {enc : TypeId × Value → H} {W : World} {base : Nat} {sp : Nat → Bool} {held : Bool} {fuel : Nat} {cs : List Value} {y : DataW H × List MemPlace} (h : DataW.trod enc Try.prog W base sp held fuel 182 cs = some y) (hl : cs.length = 4) : ∃ x : AttrD, attrR W All1 cs x := by
  obtain ⟨xs, n, _, _, _, hlen, hf⟩ := DataW.trod_struct Try.underlying182 h
  match cs, hl, xs, hlen with
  | [v0, v1, v2, v3], _, [y0, y1, y2, y3], _ =>
    have k0 : Try.prog.cellsOf 9 = 1 := by kernel_rfl
    have k1 : Try.prog.cellsOf 4 = 1 := by kernel_rfl
    have k2 : Try.prog.cellsOf 3 = 1 := by kernel_rfl
    have h0 := hf 0 _ rfl
    have h1 := hf 1 _ rfl
    have h2 := hf 2 _ rfl
    have h3 := hf 3 _ rfl
    simp [k0, k1, k2] at h0 h1 h2 h3
    obtain ⟨n0, e0, _, q0⟩ := DataW.trod_string Try.underlying9 h0
    obtain ⟨n1, e1, _⟩ := DataW.trod_bool Try.underlying4 h1
    obtain ⟨n2, e2, _, _⟩ := DataW.trod_int Try.underlying3 h2
    obtain ⟨n3, e3, _, q3⟩ := DataW.trod_string Try.underlying9 h3
    simp only [List.cons.injEq, and_true] at e0 e1 e2 e3
    subst e0
    subst e1
    subst e2
    subst e3
    exact ⟨((n0, n1, n2, n3) : AttrD), rfl, q0, q3⟩
theorem oAttrS {H : Type} {enc : TypeId × Value → H} {W : World} {base : Nat} {sp : Nat → Bool} {held : Bool} {fuel : Nat} {v : Value} {y : DataW H × List MemPlace} (h : DataW.trod enc Try.prog W base sp held fuel 118 [v] = some y) : ∃ l : List AttrD, LAt 4 attrR W All1 v l := by
  obtain ⟨a, len, cap, rfl, hm, hh⟩ := openSlice (c := 4) Try.underlying118 (by kernel_rfl) (by omega) h
  rcases hh with rfl | ⟨b, o, rfl, hb, hx⟩
  · exact ⟨[], a, cap, rfl, by simp, .inl rfl⟩
  · obtain ⟨l, hl, hp⟩ := list_of1 len (fun i (x : AttrD) => ∃ cs, attrR W All1 cs x ∧ InB W b (o + i * 4) cs) (fun i hi => by
      obtain ⟨cs, n, z, g1, g2, g3⟩ := hx i hi
      obtain ⟨x, hx⟩ := oAttr g3 g1
      refine ⟨x, cs, hx, fun j v hv => ?_⟩
      have hj : j < 4 := by
        rcases Nat.lt_or_ge j cs.length with h | h
        · omega
        · rw [List.getElem?_eq_none h] at hv; cases hv
      rw [g2 j hj]; exact hv)
    subst hl
    exact ⟨l, _, cap, rfl, hm, .inr ⟨b, o, rfl, hb, trivial, hp⟩⟩
def AtAttr (w : World) (v : Value) : Prop := ∃ (cs : List Value) (x : AttrD), v = .agg cs.toArray ∧ attrR w All1 cs x
theorem openAtAttr {H : Type} {enc : TypeId × Value → H} {W : World} {base : Nat} {r : Reach} {b0 : Nat} {sp : Nat → Bool} {held : Bool} {v : Value} {d : DataW H} {ps : List MemPlace}
    (hv : Value.okWide Try.prog W r b0 182 v) (h : DataW.Trod enc Try.prog W base sp held 182 v d ps) : AtAttr W v := by
  obtain ⟨cs, rfl, hsz⟩ := okWide_struct Try.underlying182 hv
  obtain ⟨fuel, hf⟩ := h
  have hn : Try.prog.cellsOf 182 = 4 := by kernel_rfl
  rw [hn] at hsz
  obtain ⟨x, hx⟩ := oAttr (cs := cs.toList) (by simpa [Value.cells] using hf) (by simpa using hsz)
  exact ⟨cs.toList, x, by simp, hx⟩
def AtAttrS (w : World) (v : Value) : Prop := ∃ l : List AttrD, LAt 4 attrR w All1 v l
theorem openAtAttrS {H : Type} {enc : TypeId × Value → H} {W : World} {base : Nat} {r : Reach} {b0 : Nat} {sp : Nat → Bool} {held : Bool} {v : Value} {d : DataW H} {ps : List MemPlace}
    (hv : Value.okWide Try.prog W r b0 118 v) (h : DataW.Trod enc Try.prog W base sp held 118 v d ps) : AtAttrS W v := by
  obtain ⟨a, len, cap, rfl⟩ := okWide_slice Try.underlying118 hv
  obtain ⟨fuel, hf⟩ := h
  exact oAttrS (v := .slice a len cap) (by simpa [Value.cells] using hf)
end Go.Proofs.Ytciipadkdglhmaa
namespace Go.Proofs.Ytciipadkdglhmaa
open Go.ChangeShapes Go.WideShapes Go.ChangeAt Go.RowKit Go.Joins Go.Deep
set_option linter.unusedVariables false
set_option maxRecDepth 100000

set_option maxHeartbeats 1000000 in
theorem oSpan {H : Type} {enc : TypeId × Value → H} {W : World} {base : Nat} {sp : Nat → Bool} {held : Bool} {fuel : Nat} {cs : List Value} {y : DataW H × List MemPlace} (h : DataW.trod enc Try.prog W base sp held fuel 120 cs = some y) (hl : cs.length = 6) : ∃ x : SpanD, spanR W All1 cs x := by
  obtain ⟨xs, n, _, _, _, hlen, hf⟩ := DataW.trod_struct Try.underlying120 h
  match cs, hl, xs, hlen with
  | [v0, v1, v2, v3, v4, v5], _, [y0, y1, y2, y3, y4, y5], _ =>
    have k0 : Try.prog.cellsOf 3 = 1 := by kernel_rfl
    have k1 : Try.prog.cellsOf 4 = 1 := by kernel_rfl
    have k2 : Try.prog.cellsOf 118 = 1 := by kernel_rfl
    have h0 := hf 0 _ rfl
    have h1 := hf 1 _ rfl
    have h2 := hf 2 _ rfl
    have h3 := hf 3 _ rfl
    have h4 := hf 4 _ rfl
    have h5 := hf 5 _ rfl
    simp [k0, k1, k2] at h0 h1 h2 h3 h4 h5
    obtain ⟨n0, e0, _, _⟩ := DataW.trod_int Try.underlying3 h0
    obtain ⟨n1, e1, _, _⟩ := DataW.trod_int Try.underlying3 h1
    obtain ⟨n2, e2, _, _⟩ := DataW.trod_int Try.underlying3 h2
    obtain ⟨n3, e3, _, _⟩ := DataW.trod_int Try.underlying3 h3
    obtain ⟨n4, e4, _⟩ := DataW.trod_bool Try.underlying4 h4
    obtain ⟨n5, g5⟩ := oAttrS h5
    simp only [List.cons.injEq, and_true] at e0 e1 e2 e3 e4
    subst e0
    subst e1
    subst e2
    subst e3
    subst e4
    exact ⟨((n0, n1, n2, n3, n4, n5) : SpanD), _, rfl, g5⟩
theorem oSpanS {H : Type} {enc : TypeId × Value → H} {W : World} {base : Nat} {sp : Nat → Bool} {held : Bool} {fuel : Nat} {v : Value} {y : DataW H × List MemPlace} (h : DataW.trod enc Try.prog W base sp held fuel 171 [v] = some y) : ∃ l : List SpanD, LAt 6 spanR W All1 v l := by
  obtain ⟨a, len, cap, rfl, hm, hh⟩ := openSlice (c := 6) Try.underlying171 (by kernel_rfl) (by omega) h
  rcases hh with rfl | ⟨b, o, rfl, hb, hx⟩
  · exact ⟨[], a, cap, rfl, by simp, .inl rfl⟩
  · obtain ⟨l, hl, hp⟩ := list_of1 len (fun i (x : SpanD) => ∃ cs, spanR W All1 cs x ∧ InB W b (o + i * 6) cs) (fun i hi => by
      obtain ⟨cs, n, z, g1, g2, g3⟩ := hx i hi
      obtain ⟨x, hx⟩ := oSpan g3 g1
      refine ⟨x, cs, hx, fun j v hv => ?_⟩
      have hj : j < 6 := by
        rcases Nat.lt_or_ge j cs.length with h | h
        · omega
        · rw [List.getElem?_eq_none h] at hv; cases hv
      rw [g2 j hj]; exact hv)
    subst hl
    exact ⟨l, _, cap, rfl, hm, .inr ⟨b, o, rfl, hb, trivial, hp⟩⟩
def AtSpan (w : World) (v : Value) : Prop := ∃ (cs : List Value) (x : SpanD), v = .agg cs.toArray ∧ spanR w All1 cs x
theorem openAtSpan {H : Type} {enc : TypeId × Value → H} {W : World} {base : Nat} {r : Reach} {b0 : Nat} {sp : Nat → Bool} {held : Bool} {v : Value} {d : DataW H} {ps : List MemPlace}
    (hv : Value.okWide Try.prog W r b0 120 v) (h : DataW.Trod enc Try.prog W base sp held 120 v d ps) : AtSpan W v := by
  obtain ⟨cs, rfl, hsz⟩ := okWide_struct Try.underlying120 hv
  obtain ⟨fuel, hf⟩ := h
  have hn : Try.prog.cellsOf 120 = 6 := by kernel_rfl
  rw [hn] at hsz
  obtain ⟨x, hx⟩ := oSpan (cs := cs.toList) (by simpa [Value.cells] using hf) (by simpa using hsz)
  exact ⟨cs.toList, x, by simp, hx⟩
def AtSpanS (w : World) (v : Value) : Prop := ∃ l : List SpanD, LAt 6 spanR w All1 v l
theorem openAtSpanS {H : Type} {enc : TypeId × Value → H} {W : World} {base : Nat} {r : Reach} {b0 : Nat} {sp : Nat → Bool} {held : Bool} {v : Value} {d : DataW H} {ps : List MemPlace}
    (hv : Value.okWide Try.prog W r b0 171 v) (h : DataW.Trod enc Try.prog W base sp held 171 v d ps) : AtSpanS W v := by
  obtain ⟨a, len, cap, rfl⟩ := okWide_slice Try.underlying171 hv
  obtain ⟨fuel, hf⟩ := h
  exact oSpanS (v := .slice a len cap) (by simpa [Value.cells] using hf)
end Go.Proofs.Ytciipadkdglhmaa
namespace Go.Proofs.Ytciipadkdglhmaa
open Go.ChangeShapes Go.WideShapes Go.ChangeAt Go.RowKit Go.Joins Go.Deep
set_option linter.unusedVariables false
set_option maxRecDepth 100000

set_option maxHeartbeats 1000000 in
theorem oTrail {H : Type} {enc : TypeId × Value → H} {W : World} {base : Nat} {sp : Nat → Bool} {held : Bool} {fuel : Nat} {cs : List Value} {y : DataW H × List MemPlace} (h : DataW.trod enc Try.prog W base sp held fuel 173 cs = some y) (hl : cs.length = 4) : ∃ x : TrailD, trailR W All1 cs x := by
  obtain ⟨xs, n, _, _, _, hlen, hf⟩ := DataW.trod_struct Try.underlying173 h
  match cs, hl, xs, hlen with
  | [v0, v1, v2, v3], _, [y0, y1, y2, y3], _ =>
    have k0 : Try.prog.cellsOf 3 = 1 := by kernel_rfl
    have k1 : Try.prog.cellsOf 171 = 1 := by kernel_rfl
    have h0 := hf 0 _ rfl
    have h1 := hf 1 _ rfl
    have h2 := hf 2 _ rfl
    have h3 := hf 3 _ rfl
    simp [k0, k1] at h0 h1 h2 h3
    obtain ⟨n0, e0, _, _⟩ := DataW.trod_int Try.underlying3 h0
    obtain ⟨n1, e1, _, _⟩ := DataW.trod_int Try.underlying3 h1
    obtain ⟨n2, e2, _, _⟩ := DataW.trod_int Try.underlying3 h2
    obtain ⟨n3, g3⟩ := oSpanS h3
    simp only [List.cons.injEq, and_true] at e0 e1 e2
    subst e0
    subst e1
    subst e2
    exact ⟨(⟨n0, n1, n2, n3⟩ : TrailD), _, rfl, g3⟩
theorem oTrailS {H : Type} {enc : TypeId × Value → H} {W : World} {base : Nat} {sp : Nat → Bool} {held : Bool} {fuel : Nat} {v : Value} {y : DataW H × List MemPlace} (h : DataW.trod enc Try.prog W base sp held fuel 113 [v] = some y) : ∃ l : List TrailD, LAt 4 trailR W All1 v l := by
  obtain ⟨a, len, cap, rfl, hm, hh⟩ := openSlice (c := 4) Try.underlying113 (by kernel_rfl) (by omega) h
  rcases hh with rfl | ⟨b, o, rfl, hb, hx⟩
  · exact ⟨[], a, cap, rfl, by simp, .inl rfl⟩
  · obtain ⟨l, hl, hp⟩ := list_of1 len (fun i (x : TrailD) => ∃ cs, trailR W All1 cs x ∧ InB W b (o + i * 4) cs) (fun i hi => by
      obtain ⟨cs, n, z, g1, g2, g3⟩ := hx i hi
      obtain ⟨x, hx⟩ := oTrail g3 g1
      refine ⟨x, cs, hx, fun j v hv => ?_⟩
      have hj : j < 4 := by
        rcases Nat.lt_or_ge j cs.length with h | h
        · omega
        · rw [List.getElem?_eq_none h] at hv; cases hv
      rw [g2 j hj]; exact hv)
    subst hl
    exact ⟨l, _, cap, rfl, hm, .inr ⟨b, o, rfl, hb, trivial, hp⟩⟩
def AtTrail (w : World) (v : Value) : Prop := ∃ (cs : List Value) (x : TrailD), v = .agg cs.toArray ∧ trailR w All1 cs x
theorem openAtTrail {H : Type} {enc : TypeId × Value → H} {W : World} {base : Nat} {r : Reach} {b0 : Nat} {sp : Nat → Bool} {held : Bool} {v : Value} {d : DataW H} {ps : List MemPlace}
    (hv : Value.okWide Try.prog W r b0 173 v) (h : DataW.Trod enc Try.prog W base sp held 173 v d ps) : AtTrail W v := by
  obtain ⟨cs, rfl, hsz⟩ := okWide_struct Try.underlying173 hv
  obtain ⟨fuel, hf⟩ := h
  have hn : Try.prog.cellsOf 173 = 4 := by kernel_rfl
  rw [hn] at hsz
  obtain ⟨x, hx⟩ := oTrail (cs := cs.toList) (by simpa [Value.cells] using hf) (by simpa using hsz)
  exact ⟨cs.toList, x, by simp, hx⟩
def AtTrailS (w : World) (v : Value) : Prop := ∃ l : List TrailD, LAt 4 trailR w All1 v l
theorem openAtTrailS {H : Type} {enc : TypeId × Value → H} {W : World} {base : Nat} {r : Reach} {b0 : Nat} {sp : Nat → Bool} {held : Bool} {v : Value} {d : DataW H} {ps : List MemPlace}
    (hv : Value.okWide Try.prog W r b0 113 v) (h : DataW.Trod enc Try.prog W base sp held 113 v d ps) : AtTrailS W v := by
  obtain ⟨a, len, cap, rfl⟩ := okWide_slice Try.underlying113 hv
  obtain ⟨fuel, hf⟩ := h
  exact oTrailS (v := .slice a len cap) (by simpa [Value.cells] using hf)
end Go.Proofs.Ytciipadkdglhmaa
namespace Go.Proofs.Ytciipadkdglhmaa
open Go.ChangeShapes Go.WideShapes Go.ChangeAt Go.RowKit Go.Joins Go.Deep
set_option linter.unusedVariables false
set_option maxRecDepth 100000

set_option maxHeartbeats 1000000 in
theorem oStripe {H : Type} {enc : TypeId × Value → H} {W : World} {base : Nat} {sp : Nat → Bool} {held : Bool} {fuel : Nat} {cs : List Value} {y : DataW H × List MemPlace} (h : DataW.trod enc Try.prog W base sp held fuel 115 cs = some y) (hl : cs.length = 2) : ∃ x : StripeD, stripeR W All1 cs x := by
  obtain ⟨xs, n, _, _, _, hlen, hf⟩ := DataW.trod_struct Try.underlying115 h
  match cs, hl, xs, hlen with
  | [v0, v1], _, [y0, y1], _ =>
    have k0 : Try.prog.cellsOf 3 = 1 := by kernel_rfl
    have k1 : Try.prog.cellsOf 113 = 1 := by kernel_rfl
    have h0 := hf 0 _ rfl
    have h1 := hf 1 _ rfl
    simp [k0, k1] at h0 h1
    obtain ⟨n0, e0, _, _⟩ := DataW.trod_int Try.underlying3 h0
    obtain ⟨n1, g1⟩ := oTrailS h1
    simp only [List.cons.injEq, and_true] at e0
    subst e0
    exact ⟨(⟨n0, n1⟩ : StripeD), _, rfl, g1⟩
theorem oStripeS {H : Type} {enc : TypeId × Value → H} {W : World} {base : Nat} {sp : Nat → Bool} {held : Bool} {fuel : Nat} {v : Value} {y : DataW H × List MemPlace} (h : DataW.trod enc Try.prog W base sp held fuel 27 [v] = some y) : ∃ l : List StripeD, LAt 2 stripeR W All1 v l := by
  obtain ⟨a, len, cap, rfl, hm, hh⟩ := openSlice (c := 2) Try.underlying27 (by kernel_rfl) (by omega) h
  rcases hh with rfl | ⟨b, o, rfl, hb, hx⟩
  · exact ⟨[], a, cap, rfl, by simp, .inl rfl⟩
  · obtain ⟨l, hl, hp⟩ := list_of1 len (fun i (x : StripeD) => ∃ cs, stripeR W All1 cs x ∧ InB W b (o + i * 2) cs) (fun i hi => by
      obtain ⟨cs, n, z, g1, g2, g3⟩ := hx i hi
      obtain ⟨x, hx⟩ := oStripe g3 g1
      refine ⟨x, cs, hx, fun j v hv => ?_⟩
      have hj : j < 2 := by
        rcases Nat.lt_or_ge j cs.length with h | h
        · omega
        · rw [List.getElem?_eq_none h] at hv; cases hv
      rw [g2 j hj]; exact hv)
    subst hl
    exact ⟨l, _, cap, rfl, hm, .inr ⟨b, o, rfl, hb, trivial, hp⟩⟩
def AtStripe (w : World) (v : Value) : Prop := ∃ (cs : List Value) (x : StripeD), v = .agg cs.toArray ∧ stripeR w All1 cs x
theorem openAtStripe {H : Type} {enc : TypeId × Value → H} {W : World} {base : Nat} {r : Reach} {b0 : Nat} {sp : Nat → Bool} {held : Bool} {v : Value} {d : DataW H} {ps : List MemPlace}
    (hv : Value.okWide Try.prog W r b0 115 v) (h : DataW.Trod enc Try.prog W base sp held 115 v d ps) : AtStripe W v := by
  obtain ⟨cs, rfl, hsz⟩ := okWide_struct Try.underlying115 hv
  obtain ⟨fuel, hf⟩ := h
  have hn : Try.prog.cellsOf 115 = 2 := by kernel_rfl
  rw [hn] at hsz
  obtain ⟨x, hx⟩ := oStripe (cs := cs.toList) (by simpa [Value.cells] using hf) (by simpa using hsz)
  exact ⟨cs.toList, x, by simp, hx⟩
def AtStripeS (w : World) (v : Value) : Prop := ∃ l : List StripeD, LAt 2 stripeR w All1 v l
theorem openAtStripeS {H : Type} {enc : TypeId × Value → H} {W : World} {base : Nat} {r : Reach} {b0 : Nat} {sp : Nat → Bool} {held : Bool} {v : Value} {d : DataW H} {ps : List MemPlace}
    (hv : Value.okWide Try.prog W r b0 27 v) (h : DataW.Trod enc Try.prog W base sp held 27 v d ps) : AtStripeS W v := by
  obtain ⟨a, len, cap, rfl⟩ := okWide_slice Try.underlying27 hv
  obtain ⟨fuel, hf⟩ := h
  exact oStripeS (v := .slice a len cap) (by simpa [Value.cells] using hf)
end Go.Proofs.Ytciipadkdglhmaa
namespace Go.Proofs.Ytciipadkdglhmaa
open Go.ChangeShapes Go.WideShapes Go.ChangeAt Go.RowKit Go.Joins Go.Deep
set_option linter.unusedVariables false
set_option maxRecDepth 100000

set_option maxHeartbeats 1000000 in
theorem oBucket {H : Type} {enc : TypeId × Value → H} {W : World} {base : Nat} {sp : Nat → Bool} {held : Bool} {fuel : Nat} {cs : List Value} {y : DataW H × List MemPlace} (h : DataW.trod enc Try.prog W base sp held fuel 29 cs = some y) (hl : cs.length = 4) : ∃ x : BucketD, bucketR W All1 cs x := by
  obtain ⟨xs, n, _, _, _, hlen, hf⟩ := DataW.trod_struct Try.underlying29 h
  match cs, hl, xs, hlen with
  | [v0, v1, v2, v3], _, [y0, y1, y2, y3], _ =>
    have k0 : Try.prog.cellsOf 3 = 1 := by kernel_rfl
    have h0 := hf 0 _ rfl
    have h1 := hf 1 _ rfl
    have h2 := hf 2 _ rfl
    have h3 := hf 3 _ rfl
    simp [k0] at h0 h1 h2 h3
    obtain ⟨n0, e0, _, _⟩ := DataW.trod_int Try.underlying3 h0
    obtain ⟨n1, e1, _, _⟩ := DataW.trod_int Try.underlying3 h1
    obtain ⟨n2, e2, _, _⟩ := DataW.trod_int Try.underlying3 h2
    obtain ⟨n3, e3, _, _⟩ := DataW.trod_int Try.underlying3 h3
    simp only [List.cons.injEq, and_true] at e0 e1 e2 e3
    subst e0
    subst e1
    subst e2
    subst e3
    exact ⟨(⟨n0, n1, n2, n3⟩ : BucketD), rfl⟩
def AtBucket (w : World) (v : Value) : Prop := ∃ (cs : List Value) (x : BucketD), v = .agg cs.toArray ∧ bucketR w All1 cs x
theorem openAtBucket {H : Type} {enc : TypeId × Value → H} {W : World} {base : Nat} {r : Reach} {b0 : Nat} {sp : Nat → Bool} {held : Bool} {v : Value} {d : DataW H} {ps : List MemPlace}
    (hv : Value.okWide Try.prog W r b0 29 v) (h : DataW.Trod enc Try.prog W base sp held 29 v d ps) : AtBucket W v := by
  obtain ⟨cs, rfl, hsz⟩ := okWide_struct Try.underlying29 hv
  obtain ⟨fuel, hf⟩ := h
  have hn : Try.prog.cellsOf 29 = 4 := by kernel_rfl
  rw [hn] at hsz
  obtain ⟨x, hx⟩ := oBucket (cs := cs.toList) (by simpa [Value.cells] using hf) (by simpa using hsz)
  exact ⟨cs.toList, x, by simp, hx⟩
def AtBucketS (w : World) (v : Value) : Prop := ∃ l : List BucketD, LAt 4 bucketR w All1 v l
end Go.Proofs.Ytciipadkdglhmaa
namespace Go.Proofs.Ytciipadkdglhmaa
open Go.ChangeShapes Go.WideShapes Go.ChangeAt Go.RowKit Go.Joins Go.Deep
set_option linter.unusedVariables false
set_option maxRecDepth 100000

set_option maxHeartbeats 1000000 in
theorem oVerdict {H : Type} {enc : TypeId × Value → H} {W : World} {base : Nat} {sp : Nat → Bool} {held : Bool} {fuel : Nat} {cs : List Value} {y : DataW H × List MemPlace} (h : DataW.trod enc Try.prog W base sp held fuel 134 cs = some y) (hl : cs.length = 3) : ∃ x : VerdictD, verdictR W All1 cs x := by
  obtain ⟨xs, n, _, _, _, hlen, hf⟩ := DataW.trod_struct Try.underlying134 h
  match cs, hl, xs, hlen with
  | [v0, v1, v2], _, [y0, y1, y2], _ =>
    have k0 : Try.prog.cellsOf 3 = 1 := by kernel_rfl
    have k1 : Try.prog.cellsOf 4 = 1 := by kernel_rfl
    have h0 := hf 0 _ rfl
    have h1 := hf 1 _ rfl
    have h2 := hf 2 _ rfl
    simp [k0, k1] at h0 h1 h2
    obtain ⟨n0, e0, _, _⟩ := DataW.trod_int Try.underlying3 h0
    obtain ⟨n1, e1, _, _⟩ := DataW.trod_int Try.underlying3 h1
    obtain ⟨n2, e2, _⟩ := DataW.trod_bool Try.underlying4 h2
    simp only [List.cons.injEq, and_true] at e0 e1 e2
    subst e0
    subst e1
    subst e2
    exact ⟨(⟨n0, n1, n2⟩ : VerdictD), rfl⟩
theorem oVerdictS {H : Type} {enc : TypeId × Value → H} {W : World} {base : Nat} {sp : Nat → Bool} {held : Bool} {fuel : Nat} {v : Value} {y : DataW H × List MemPlace} (h : DataW.trod enc Try.prog W base sp held fuel 30 [v] = some y) : ∃ l : List VerdictD, LAt 3 verdictR W All1 v l := by
  obtain ⟨a, len, cap, rfl, hm, hh⟩ := openSlice (c := 3) Try.underlying30 (by kernel_rfl) (by omega) h
  rcases hh with rfl | ⟨b, o, rfl, hb, hx⟩
  · exact ⟨[], a, cap, rfl, by simp, .inl rfl⟩
  · obtain ⟨l, hl, hp⟩ := list_of1 len (fun i (x : VerdictD) => ∃ cs, verdictR W All1 cs x ∧ InB W b (o + i * 3) cs) (fun i hi => by
      obtain ⟨cs, n, z, g1, g2, g3⟩ := hx i hi
      obtain ⟨x, hx⟩ := oVerdict g3 g1
      refine ⟨x, cs, hx, fun j v hv => ?_⟩
      have hj : j < 3 := by
        rcases Nat.lt_or_ge j cs.length with h | h
        · omega
        · rw [List.getElem?_eq_none h] at hv; cases hv
      rw [g2 j hj]; exact hv)
    subst hl
    exact ⟨l, _, cap, rfl, hm, .inr ⟨b, o, rfl, hb, trivial, hp⟩⟩
def AtVerdict (w : World) (v : Value) : Prop := ∃ (cs : List Value) (x : VerdictD), v = .agg cs.toArray ∧ verdictR w All1 cs x
theorem openAtVerdict {H : Type} {enc : TypeId × Value → H} {W : World} {base : Nat} {r : Reach} {b0 : Nat} {sp : Nat → Bool} {held : Bool} {v : Value} {d : DataW H} {ps : List MemPlace}
    (hv : Value.okWide Try.prog W r b0 134 v) (h : DataW.Trod enc Try.prog W base sp held 134 v d ps) : AtVerdict W v := by
  obtain ⟨cs, rfl, hsz⟩ := okWide_struct Try.underlying134 hv
  obtain ⟨fuel, hf⟩ := h
  have hn : Try.prog.cellsOf 134 = 3 := by kernel_rfl
  rw [hn] at hsz
  obtain ⟨x, hx⟩ := oVerdict (cs := cs.toList) (by simpa [Value.cells] using hf) (by simpa using hsz)
  exact ⟨cs.toList, x, by simp, hx⟩
def AtVerdictS (w : World) (v : Value) : Prop := ∃ l : List VerdictD, LAt 3 verdictR w All1 v l
theorem openAtVerdictS {H : Type} {enc : TypeId × Value → H} {W : World} {base : Nat} {r : Reach} {b0 : Nat} {sp : Nat → Bool} {held : Bool} {v : Value} {d : DataW H} {ps : List MemPlace}
    (hv : Value.okWide Try.prog W r b0 30 v) (h : DataW.Trod enc Try.prog W base sp held 30 v d ps) : AtVerdictS W v := by
  obtain ⟨a, len, cap, rfl⟩ := okWide_slice Try.underlying30 hv
  obtain ⟨fuel, hf⟩ := h
  exact oVerdictS (v := .slice a len cap) (by simpa [Value.cells] using hf)
end Go.Proofs.Ytciipadkdglhmaa
namespace Go.Proofs.Ytciipadkdglhmaa
open Go.ChangeShapes Go.WideShapes Go.ChangeAt Go.RowKit Go.Joins Go.Deep
set_option linter.unusedVariables false
set_option maxRecDepth 100000

set_option maxHeartbeats 1000000 in
theorem oTimer {H : Type} {enc : TypeId × Value → H} {W : World} {base : Nat} {sp : Nat → Bool} {held : Bool} {fuel : Nat} {cs : List Value} {y : DataW H × List MemPlace} (h : DataW.trod enc Try.prog W base sp held fuel 139 cs = some y) (hl : cs.length = 3) : ∃ x : TimerD, timerR W All1 cs x := by
  obtain ⟨xs, n, _, _, _, hlen, hf⟩ := DataW.trod_struct Try.underlying139 h
  match cs, hl, xs, hlen with
  | [v0, v1, v2], _, [y0, y1, y2], _ =>
    have k0 : Try.prog.cellsOf 3 = 1 := by kernel_rfl
    have h0 := hf 0 _ rfl
    have h1 := hf 1 _ rfl
    have h2 := hf 2 _ rfl
    simp [k0] at h0 h1 h2
    obtain ⟨n0, e0, _, _⟩ := DataW.trod_int Try.underlying3 h0
    obtain ⟨n1, e1, _, _⟩ := DataW.trod_int Try.underlying3 h1
    obtain ⟨n2, e2, _, _⟩ := DataW.trod_int Try.underlying3 h2
    simp only [List.cons.injEq, and_true] at e0 e1 e2
    subst e0
    subst e1
    subst e2
    exact ⟨(⟨n0, n1, n2⟩ : TimerD), rfl⟩
theorem oTimerS {H : Type} {enc : TypeId × Value → H} {W : World} {base : Nat} {sp : Nat → Bool} {held : Bool} {fuel : Nat} {v : Value} {y : DataW H × List MemPlace} (h : DataW.trod enc Try.prog W base sp held fuel 32 [v] = some y) : ∃ l : List TimerD, LAt 3 timerR W All1 v l := by
  obtain ⟨a, len, cap, rfl, hm, hh⟩ := openSlice (c := 3) Try.underlying32 (by kernel_rfl) (by omega) h
  rcases hh with rfl | ⟨b, o, rfl, hb, hx⟩
  · exact ⟨[], a, cap, rfl, by simp, .inl rfl⟩
  · obtain ⟨l, hl, hp⟩ := list_of1 len (fun i (x : TimerD) => ∃ cs, timerR W All1 cs x ∧ InB W b (o + i * 3) cs) (fun i hi => by
      obtain ⟨cs, n, z, g1, g2, g3⟩ := hx i hi
      obtain ⟨x, hx⟩ := oTimer g3 g1
      refine ⟨x, cs, hx, fun j v hv => ?_⟩
      have hj : j < 3 := by
        rcases Nat.lt_or_ge j cs.length with h | h
        · omega
        · rw [List.getElem?_eq_none h] at hv; cases hv
      rw [g2 j hj]; exact hv)
    subst hl
    exact ⟨l, _, cap, rfl, hm, .inr ⟨b, o, rfl, hb, trivial, hp⟩⟩
def AtTimer (w : World) (v : Value) : Prop := ∃ (cs : List Value) (x : TimerD), v = .agg cs.toArray ∧ timerR w All1 cs x
theorem openAtTimer {H : Type} {enc : TypeId × Value → H} {W : World} {base : Nat} {r : Reach} {b0 : Nat} {sp : Nat → Bool} {held : Bool} {v : Value} {d : DataW H} {ps : List MemPlace}
    (hv : Value.okWide Try.prog W r b0 139 v) (h : DataW.Trod enc Try.prog W base sp held 139 v d ps) : AtTimer W v := by
  obtain ⟨cs, rfl, hsz⟩ := okWide_struct Try.underlying139 hv
  obtain ⟨fuel, hf⟩ := h
  have hn : Try.prog.cellsOf 139 = 3 := by kernel_rfl
  rw [hn] at hsz
  obtain ⟨x, hx⟩ := oTimer (cs := cs.toList) (by simpa [Value.cells] using hf) (by simpa using hsz)
  exact ⟨cs.toList, x, by simp, hx⟩
def AtTimerS (w : World) (v : Value) : Prop := ∃ l : List TimerD, LAt 3 timerR w All1 v l
theorem openAtTimerS {H : Type} {enc : TypeId × Value → H} {W : World} {base : Nat} {r : Reach} {b0 : Nat} {sp : Nat → Bool} {held : Bool} {v : Value} {d : DataW H} {ps : List MemPlace}
    (hv : Value.okWide Try.prog W r b0 32 v) (h : DataW.Trod enc Try.prog W base sp held 32 v d ps) : AtTimerS W v := by
  obtain ⟨a, len, cap, rfl⟩ := okWide_slice Try.underlying32 hv
  obtain ⟨fuel, hf⟩ := h
  exact oTimerS (v := .slice a len cap) (by simpa [Value.cells] using hf)
end Go.Proofs.Ytciipadkdglhmaa
namespace Go.Proofs.Ytciipadkdglhmaa
open Go.ChangeShapes Go.WideShapes Go.ChangeAt Go.RowKit Go.Joins Go.Deep
set_option linter.unusedVariables false
set_option maxRecDepth 100000

theorem oXTimerS {H : Type} {enc : TypeId × Value → H} {W : World} {base : Nat} {sp : Nat → Bool} {held : Bool} {fuel : Nat} {cs : List Value} {y : DataW H × List MemPlace} (h : DataW.trod enc Try.prog W base sp held fuel 32 cs = some y) (hl : cs.length = 1) : ∃ x : List TimerD, timerSR W All1 cs x := by
  match cs, hl with
  | [v], _ =>
    obtain ⟨l, hl⟩ := oTimerS h
    exact ⟨l, v, rfl, hl⟩
theorem oTimerSS {H : Type} {enc : TypeId × Value → H} {W : World} {base : Nat} {sp : Nat → Bool} {held : Bool} {fuel : Nat} {v : Value} {y : DataW H × List MemPlace} (h : DataW.trod enc Try.prog W base sp held fuel 31 [v] = some y) : ∃ l : List (List TimerD), LAt 1 timerSR W All1 v l := by
  obtain ⟨a, len, cap, rfl, hm, hh⟩ := openSlice (c := 1) Try.underlying31 (by kernel_rfl) (by omega) h
  rcases hh with rfl | ⟨b, o, rfl, hb, hx⟩
  · exact ⟨[], a, cap, rfl, by simp, .inl rfl⟩
  · obtain ⟨l, hl, hp⟩ := list_of1 len (fun i (x : List TimerD) => ∃ cs, timerSR W All1 cs x ∧ InB W b (o + i * 1) cs) (fun i hi => by
      obtain ⟨cs, n, z, g1, g2, g3⟩ := hx i hi
      obtain ⟨x, hx⟩ := oXTimerS g3 g1
      refine ⟨x, cs, hx, fun j v hv => ?_⟩
      have hj : j < 1 := by
        rcases Nat.lt_or_ge j cs.length with h | h
        · omega
        · rw [List.getElem?_eq_none h] at hv; cases hv
      rw [g2 j hj]; exact hv)
    subst hl
    exact ⟨l, _, cap, rfl, hm, .inr ⟨b, o, rfl, hb, trivial, hp⟩⟩
def AtTimerSS (w : World) (v : Value) : Prop := ∃ l : List (List TimerD), LAt 1 timerSR w All1 v l
theorem openAtTimerSS {H : Type} {enc : TypeId × Value → H} {W : World} {base : Nat} {r : Reach} {b0 : Nat} {sp : Nat → Bool} {held : Bool} {v : Value} {d : DataW H} {ps : List MemPlace}
    (hv : Value.okWide Try.prog W r b0 31 v) (h : DataW.Trod enc Try.prog W base sp held 31 v d ps) : AtTimerSS W v := by
  obtain ⟨a, len, cap, rfl⟩ := okWide_slice Try.underlying31 hv
  obtain ⟨fuel, hf⟩ := h
  exact oTimerSS (v := .slice a len cap) (by simpa [Value.cells] using hf)
end Go.Proofs.Ytciipadkdglhmaa
namespace Go.Proofs.Ytciipadkdglhmaa
open Go.ChangeShapes Go.WideShapes Go.ChangeAt Go.RowKit Go.Joins Go.Deep
set_option linter.unusedVariables false
set_option maxRecDepth 100000

set_option maxHeartbeats 1000000 in
theorem oWheel {H : Type} {enc : TypeId × Value → H} {W : World} {base : Nat} {sp : Nat → Bool} {held : Bool} {fuel : Nat} {cs : List Value} {y : DataW H × List MemPlace} (h : DataW.trod enc Try.prog W base sp held fuel 34 cs = some y) (hl : cs.length = 4) : ∃ x : WheelD, wheelR W All1 cs x := by
  obtain ⟨xs, n, _, _, _, hlen, hf⟩ := DataW.trod_struct Try.underlying34 h
  match cs, hl, xs, hlen with
  | [v0, v1, v2, v3], _, [y0, y1, y2, y3], _ =>
    have k0 : Try.prog.cellsOf 3 = 1 := by kernel_rfl
    have k1 : Try.prog.cellsOf 31 = 1 := by kernel_rfl
    have k2 : Try.prog.cellsOf 32 = 1 := by kernel_rfl
    have h0 := hf 0 _ rfl
    have h1 := hf 1 _ rfl
    have h2 := hf 2 _ rfl
    have h3 := hf 3 _ rfl
    simp [k0, k1, k2] at h0 h1 h2 h3
    obtain ⟨n0, e0, _, _⟩ := DataW.trod_int Try.underlying3 h0
    obtain ⟨n1, g1⟩ := oTimerSS h1
    obtain ⟨n2, g2⟩ := oTimerSS h2
    obtain ⟨n3, g3⟩ := oTimerS h3
    simp only [List.cons.injEq, and_true] at e0
    subst e0
    exact ⟨(⟨n0, n1, n2, n3⟩ : WheelD), _, _, _, rfl, g1, g2, g3⟩
def AtWheel (w : World) (v : Value) : Prop := ∃ (cs : List Value) (x : WheelD), v = .agg cs.toArray ∧ wheelR w All1 cs x
theorem openAtWheel {H : Type} {enc : TypeId × Value → H} {W : World} {base : Nat} {r : Reach} {b0 : Nat} {sp : Nat → Bool} {held : Bool} {v : Value} {d : DataW H} {ps : List MemPlace}
    (hv : Value.okWide Try.prog W r b0 34 v) (h : DataW.Trod enc Try.prog W base sp held 34 v d ps) : AtWheel W v := by
  obtain ⟨cs, rfl, hsz⟩ := okWide_struct Try.underlying34 hv
  obtain ⟨fuel, hf⟩ := h
  have hn : Try.prog.cellsOf 34 = 4 := by kernel_rfl
  rw [hn] at hsz
  obtain ⟨x, hx⟩ := oWheel (cs := cs.toList) (by simpa [Value.cells] using hf) (by simpa using hsz)
  exact ⟨cs.toList, x, by simp, hx⟩
def AtWheelS (w : World) (v : Value) : Prop := ∃ l : List WheelD, LAt 4 wheelR w All1 v l
end Go.Proofs.Ytciipadkdglhmaa
namespace Go.Proofs.Ytciipadkdglhmaa
open Go.ChangeShapes Go.WideShapes Go.ChangeAt Go.RowKit Go.Joins Go.Deep
set_option linter.unusedVariables false
set_option maxRecDepth 100000

set_option maxHeartbeats 1000000 in
theorem oItem {H : Type} {enc : TypeId × Value → H} {W : World} {base : Nat} {sp : Nat → Bool} {held : Bool} {fuel : Nat} {cs : List Value} {y : DataW H × List MemPlace} (h : DataW.trod enc Try.prog W base sp held fuel 122 cs = some y) (hl : cs.length = 7) : ∃ x : ItemD, itemR W All1 cs x := by
  obtain ⟨xs, n, _, _, _, hlen, hf⟩ := DataW.trod_struct Try.underlying122 h
  match cs, hl, xs, hlen with
  | [v0, v1, v2, v3, v4, v5, v6], _, [y0, y1], _ =>
    have k0 : Try.prog.cellsOf 3 = 1 := by kernel_rfl
    have k1 : Try.prog.cellsOf 120 = 6 := by kernel_rfl
    have h0 := hf 0 _ rfl
    have h1 := hf 1 _ rfl
    simp [k0, k1] at h0 h1
    obtain ⟨n0, e0, _, _⟩ := DataW.trod_int Try.underlying3 h0
    obtain ⟨n1, z1⟩ := oSpan h1 rfl
    obtain ⟨u1_0, e1, g1_0⟩ := z1
    simp only [List.cons.injEq, and_true] at e0 e1
    subst e0
    obtain ⟨rfl, rfl, rfl, rfl, rfl, rfl⟩ := e1
    exact ⟨(⟨n0, n1⟩ : ItemD), _, rfl, g1_0⟩
theorem oItemS {H : Type} {enc : TypeId × Value → H} {W : World} {base : Nat} {sp : Nat → Bool} {held : Bool} {fuel : Nat} {v : Value} {y : DataW H × List MemPlace} (h : DataW.trod enc Try.prog W base sp held fuel 35 [v] = some y) : ∃ l : List ItemD, LAt 7 itemR W All1 v l := by
  obtain ⟨a, len, cap, rfl, hm, hh⟩ := openSlice (c := 7) Try.underlying35 (by kernel_rfl) (by omega) h
  rcases hh with rfl | ⟨b, o, rfl, hb, hx⟩
  · exact ⟨[], a, cap, rfl, by simp, .inl rfl⟩
  · obtain ⟨l, hl, hp⟩ := list_of1 len (fun i (x : ItemD) => ∃ cs, itemR W All1 cs x ∧ InB W b (o + i * 7) cs) (fun i hi => by
      obtain ⟨cs, n, z, g1, g2, g3⟩ := hx i hi
      obtain ⟨x, hx⟩ := oItem g3 g1
      refine ⟨x, cs, hx, fun j v hv => ?_⟩
      have hj : j < 7 := by
        rcases Nat.lt_or_ge j cs.length with h | h
        · omega
        · rw [List.getElem?_eq_none h] at hv; cases hv
      rw [g2 j hj]; exact hv)
    subst hl
    exact ⟨l, _, cap, rfl, hm, .inr ⟨b, o, rfl, hb, trivial, hp⟩⟩
def AtItem (w : World) (v : Value) : Prop := ∃ (cs : List Value) (x : ItemD), v = .agg cs.toArray ∧ itemR w All1 cs x
theorem openAtItem {H : Type} {enc : TypeId × Value → H} {W : World} {base : Nat} {r : Reach} {b0 : Nat} {sp : Nat → Bool} {held : Bool} {v : Value} {d : DataW H} {ps : List MemPlace}
    (hv : Value.okWide Try.prog W r b0 122 v) (h : DataW.Trod enc Try.prog W base sp held 122 v d ps) : AtItem W v := by
  obtain ⟨cs, rfl, hsz⟩ := okWide_struct Try.underlying122 hv
  obtain ⟨fuel, hf⟩ := h
  have hn : Try.prog.cellsOf 122 = 7 := by kernel_rfl
  rw [hn] at hsz
  obtain ⟨x, hx⟩ := oItem (cs := cs.toList) (by simpa [Value.cells] using hf) (by simpa using hsz)
  exact ⟨cs.toList, x, by simp, hx⟩
def AtItemS (w : World) (v : Value) : Prop := ∃ l : List ItemD, LAt 7 itemR w All1 v l
theorem openAtItemS {H : Type} {enc : TypeId × Value → H} {W : World} {base : Nat} {r : Reach} {b0 : Nat} {sp : Nat → Bool} {held : Bool} {v : Value} {d : DataW H} {ps : List MemPlace}
    (hv : Value.okWide Try.prog W r b0 35 v) (h : DataW.Trod enc Try.prog W base sp held 35 v d ps) : AtItemS W v := by
  obtain ⟨a, len, cap, rfl⟩ := okWide_slice Try.underlying35 hv
  obtain ⟨fuel, hf⟩ := h
  exact oItemS (v := .slice a len cap) (by simpa [Value.cells] using hf)
end Go.Proofs.Ytciipadkdglhmaa
namespace Go.Proofs.Ytciipadkdglhmaa
open Go.ChangeShapes Go.WideShapes Go.ChangeAt Go.RowKit Go.Joins Go.Deep
set_option linter.unusedVariables false
set_option maxRecDepth 100000

set_option maxHeartbeats 1000000 in
theorem oTask {H : Type} {enc : TypeId × Value → H} {W : World} {base : Nat} {sp : Nat → Bool} {held : Bool} {fuel : Nat} {cs : List Value} {y : DataW H × List MemPlace} (h : DataW.trod enc Try.prog W base sp held fuel 125 cs = some y) (hl : cs.length = 12) : ∃ x : TaskD, taskR W All1 cs x := by
  obtain ⟨xs, n, _, _, _, hlen, hf⟩ := DataW.trod_struct Try.underlying125 h
  match cs, hl, xs, hlen with
  | [v0, v1, v2, v3, v4, v5, v6, v7, v8, v9, v10, v11], _, [y0, y1, y2, y3, y4, y5, y6], _ =>
    have k0 : Try.prog.cellsOf 3 = 1 := by kernel_rfl
    have k1 : Try.prog.cellsOf 120 = 6 := by kernel_rfl
    have k2 : Try.prog.cellsOf 35 = 1 := by kernel_rfl
    have h0 := hf 0 _ rfl
    have h1 := hf 1 _ rfl
    have h2 := hf 2 _ rfl
    have h3 := hf 3 _ rfl
    have h4 := hf 4 _ rfl
    have h5 := hf 5 _ rfl
    have h6 := hf 6 _ rfl
    simp [k0, k1, k2] at h0 h1 h2 h3 h4 h5 h6
    obtain ⟨n0, e0, _, _⟩ := DataW.trod_int Try.underlying3 h0
    obtain ⟨n1, e1, _, _⟩ := DataW.trod_int Try.underlying3 h1
    obtain ⟨n2, z2⟩ := oSpan h2 rfl
    obtain ⟨u2_0, e2, g2_0⟩ := z2
    obtain ⟨n3, e3, _, _⟩ := DataW.trod_int Try.underlying3 h3
    obtain ⟨n4, e4, _, _⟩ := DataW.trod_int Try.underlying3 h4
    obtain ⟨n5, g5⟩ := oItemS h5
    obtain ⟨n6, e6, _, _⟩ := DataW.trod_int Try.underlying3 h6
    simp only [List.cons.injEq, and_true] at e0 e1 e2 e3 e4 e6
    subst e0
    subst e1
    subst e3
    subst e4
    subst e6
    obtain ⟨rfl, rfl, rfl, rfl, rfl, rfl⟩ := e2
    exact ⟨(⟨n0, n1, n2, n3, n4, n5, n6⟩ : TaskD), _, _, rfl, g2_0, g5⟩
theorem oTaskS {H : Type} {enc : TypeId × Value → H} {W : World} {base : Nat} {sp : Nat → Bool} {held : Bool} {fuel : Nat} {v : Value} {y : DataW H × List MemPlace} (h : DataW.trod enc Try.prog W base sp held fuel 36 [v] = some y) : ∃ l : List TaskD, LAt 12 taskR W All1 v l := by
  obtain ⟨a, len, cap, rfl, hm, hh⟩ := openSlice (c := 12) Try.underlying36 (by kernel_rfl) (by omega) h
  rcases hh with rfl | ⟨b, o, rfl, hb, hx⟩
  · exact ⟨[], a, cap, rfl, by simp, .inl rfl⟩
  · obtain ⟨l, hl, hp⟩ := list_of1 len (fun i (x : TaskD) => ∃ cs, taskR W All1 cs x ∧ InB W b (o + i * 12) cs) (fun i hi => by
      obtain ⟨cs, n, z, g1, g2, g3⟩ := hx i hi
      obtain ⟨x, hx⟩ := oTask g3 g1
      refine ⟨x, cs, hx, fun j v hv => ?_⟩
      have hj : j < 12 := by
        rcases Nat.lt_or_ge j cs.length with h | h
        · omega
        · rw [List.getElem?_eq_none h] at hv; cases hv
      rw [g2 j hj]; exact hv)
    subst hl
    exact ⟨l, _, cap, rfl, hm, .inr ⟨b, o, rfl, hb, trivial, hp⟩⟩
def AtTask (w : World) (v : Value) : Prop := ∃ (cs : List Value) (x : TaskD), v = .agg cs.toArray ∧ taskR w All1 cs x
theorem openAtTask {H : Type} {enc : TypeId × Value → H} {W : World} {base : Nat} {r : Reach} {b0 : Nat} {sp : Nat → Bool} {held : Bool} {v : Value} {d : DataW H} {ps : List MemPlace}
    (hv : Value.okWide Try.prog W r b0 125 v) (h : DataW.Trod enc Try.prog W base sp held 125 v d ps) : AtTask W v := by
  obtain ⟨cs, rfl, hsz⟩ := okWide_struct Try.underlying125 hv
  obtain ⟨fuel, hf⟩ := h
  have hn : Try.prog.cellsOf 125 = 12 := by kernel_rfl
  rw [hn] at hsz
  obtain ⟨x, hx⟩ := oTask (cs := cs.toList) (by simpa [Value.cells] using hf) (by simpa using hsz)
  exact ⟨cs.toList, x, by simp, hx⟩
def AtTaskS (w : World) (v : Value) : Prop := ∃ l : List TaskD, LAt 12 taskR w All1 v l
theorem openAtTaskS {H : Type} {enc : TypeId × Value → H} {W : World} {base : Nat} {r : Reach} {b0 : Nat} {sp : Nat → Bool} {held : Bool} {v : Value} {d : DataW H} {ps : List MemPlace}
    (hv : Value.okWide Try.prog W r b0 36 v) (h : DataW.Trod enc Try.prog W base sp held 36 v d ps) : AtTaskS W v := by
  obtain ⟨a, len, cap, rfl⟩ := okWide_slice Try.underlying36 hv
  obtain ⟨fuel, hf⟩ := h
  exact oTaskS (v := .slice a len cap) (by simpa [Value.cells] using hf)
end Go.Proofs.Ytciipadkdglhmaa
namespace Go.Proofs.Ytciipadkdglhmaa
open Go.ChangeShapes Go.WideShapes Go.ChangeAt Go.RowKit Go.Joins Go.Deep
set_option linter.unusedVariables false
set_option maxRecDepth 100000

set_option maxHeartbeats 1000000 in
theorem oDeed {H : Type} {enc : TypeId × Value → H} {W : World} {base : Nat} {sp : Nat → Bool} {held : Bool} {fuel : Nat} {cs : List Value} {y : DataW H × List MemPlace} (h : DataW.trod enc Try.prog W base sp held fuel 128 cs = some y) (hl : cs.length = 20) : ∃ x : DeedD, deedR W All1 cs x := by
  obtain ⟨xs, n, _, _, _, hlen, hf⟩ := DataW.trod_struct Try.underlying128 h
  match cs, hl, xs, hlen with
  | [v0, v1, v2, v3, v4, v5, v6, v7, v8, v9, v10, v11, v12, v13, v14, v15, v16, v17, v18, v19], _, [y0, y1, y2, y3, y4, y5, y6, y7, y8, y9, y10, y11, y12, y13, y14], _ =>
    have k0 : Try.prog.cellsOf 3 = 1 := by kernel_rfl
    have k1 : Try.prog.cellsOf 120 = 6 := by kernel_rfl
    have k2 : Try.prog.cellsOf 4 = 1 := by kernel_rfl
    have h0 := hf 0 _ rfl
    have h1 := hf 1 _ rfl
    have h2 := hf 2 _ rfl
    have h3 := hf 3 _ rfl
    have h4 := hf 4 _ rfl
    have h5 := hf 5 _ rfl
    have h6 := hf 6 _ rfl
    have h7 := hf 7 _ rfl
    have h8 := hf 8 _ rfl
    have h9 := hf 9 _ rfl
    have h10 := hf 10 _ rfl
    have h11 := hf 11 _ rfl
    have h12 := hf 12 _ rfl
    have h13 := hf 13 _ rfl
    have h14 := hf 14 _ rfl
    simp [k0, k1, k2] at h0 h1 h2 h3 h4 h5 h6 h7 h8 h9 h10 h11 h12 h13 h14
    obtain ⟨n0, e0, _, _⟩ := DataW.trod_int Try.underlying3 h0
    obtain ⟨n1, e1, _, _⟩ := DataW.trod_int Try.underlying3 h1
    obtain ⟨n2, z2⟩ := oSpan h2 rfl
    obtain ⟨u2_0, e2, g2_0⟩ := z2
    obtain ⟨n3, e3, _, _⟩ := DataW.trod_int Try.underlying3 h3
    obtain ⟨n4, e4, _, _⟩ := DataW.trod_int Try.underlying3 h4
    obtain ⟨n5, e5, _, _⟩ := DataW.trod_int Try.underlying3 h5
    obtain ⟨n6, e6, _⟩ := DataW.trod_bool Try.underlying4 h6
    obtain ⟨n7, e7, _⟩ := DataW.trod_bool Try.underlying4 h7
    obtain ⟨n8, e8, _, _⟩ := DataW.trod_int Try.underlying3 h8
    obtain ⟨n9, e9, _, _⟩ := DataW.trod_int Try.underlying3 h9
    obtain ⟨n10, e10, _, _⟩ := DataW.trod_int Try.underlying3 h10
    obtain ⟨n11, e11, _, _⟩ := DataW.trod_int Try.underlying3 h11
    obtain ⟨n12, e12, _, _⟩ := DataW.trod_int Try.underlying3 h12
    obtain ⟨n13, e13, _, _⟩ := DataW.trod_int Try.underlying3 h13
    obtain ⟨n14, e14, _, _⟩ := DataW.trod_int Try.underlying3 h14
    simp only [List.cons.injEq, and_true] at e0 e1 e2 e3 e4 e5 e6 e7 e8 e9 e10 e11 e12 e13 e14
    subst e0
    subst e1
    subst e3
    subst e4
    subst e5
    subst e6
    subst e7
    subst e8
    subst e9
    subst e10
    subst e11
    subst e12
    subst e13
    subst e14
    obtain ⟨rfl, rfl, rfl, rfl, rfl, rfl⟩ := e2
    exact ⟨(⟨n0, n1, n2, n3, n4, n5, n6, n7, n8, n9, n10, n11, n12, n13, n14⟩ : DeedD), _, rfl, g2_0⟩
theorem oDeedS {H : Type} {enc : TypeId × Value → H} {W : World} {base : Nat} {sp : Nat → Bool} {held : Bool} {fuel : Nat} {v : Value} {y : DataW H × List MemPlace} (h : DataW.trod enc Try.prog W base sp held fuel 37 [v] = some y) : ∃ l : List DeedD, LAt 20 deedR W All1 v l := by
  obtain ⟨a, len, cap, rfl, hm, hh⟩ := openSlice (c := 20) Try.underlying37 (by kernel_rfl) (by omega) h
  rcases hh with rfl | ⟨b, o, rfl, hb, hx⟩
  · exact ⟨[], a, cap, rfl, by simp, .inl rfl⟩
  · obtain ⟨l, hl, hp⟩ := list_of1 len (fun i (x : DeedD) => ∃ cs, deedR W All1 cs x ∧ InB W b (o + i * 20) cs) (fun i hi => by
      obtain ⟨cs, n, z, g1, g2, g3⟩ := hx i hi
      obtain ⟨x, hx⟩ := oDeed g3 g1
      refine ⟨x, cs, hx, fun j v hv => ?_⟩
      have hj : j < 20 := by
        rcases Nat.lt_or_ge j cs.length with h | h
        · omega
        · rw [List.getElem?_eq_none h] at hv; cases hv
      rw [g2 j hj]; exact hv)
    subst hl
    exact ⟨l, _, cap, rfl, hm, .inr ⟨b, o, rfl, hb, trivial, hp⟩⟩
def AtDeed (w : World) (v : Value) : Prop := ∃ (cs : List Value) (x : DeedD), v = .agg cs.toArray ∧ deedR w All1 cs x
theorem openAtDeed {H : Type} {enc : TypeId × Value → H} {W : World} {base : Nat} {r : Reach} {b0 : Nat} {sp : Nat → Bool} {held : Bool} {v : Value} {d : DataW H} {ps : List MemPlace}
    (hv : Value.okWide Try.prog W r b0 128 v) (h : DataW.Trod enc Try.prog W base sp held 128 v d ps) : AtDeed W v := by
  obtain ⟨cs, rfl, hsz⟩ := okWide_struct Try.underlying128 hv
  obtain ⟨fuel, hf⟩ := h
  have hn : Try.prog.cellsOf 128 = 20 := by kernel_rfl
  rw [hn] at hsz
  obtain ⟨x, hx⟩ := oDeed (cs := cs.toList) (by simpa [Value.cells] using hf) (by simpa using hsz)
  exact ⟨cs.toList, x, by simp, hx⟩
def AtDeedS (w : World) (v : Value) : Prop := ∃ l : List DeedD, LAt 20 deedR w All1 v l
theorem openAtDeedS {H : Type} {enc : TypeId × Value → H} {W : World} {base : Nat} {r : Reach} {b0 : Nat} {sp : Nat → Bool} {held : Bool} {v : Value} {d : DataW H} {ps : List MemPlace}
    (hv : Value.okWide Try.prog W r b0 37 v) (h : DataW.Trod enc Try.prog W base sp held 37 v d ps) : AtDeedS W v := by
  obtain ⟨a, len, cap, rfl⟩ := okWide_slice Try.underlying37 hv
  obtain ⟨fuel, hf⟩ := h
  exact oDeedS (v := .slice a len cap) (by simpa [Value.cells] using hf)
end Go.Proofs.Ytciipadkdglhmaa
namespace Go.Proofs.Ytciipadkdglhmaa
open Go.ChangeShapes Go.WideShapes Go.ChangeAt Go.RowKit Go.Joins Go.Deep
set_option linter.unusedVariables false
set_option maxRecDepth 100000

set_option maxHeartbeats 1000000 in
theorem oWorld {H : Type} {enc : TypeId × Value → H} {W : World} {base : Nat} {sp : Nat → Bool} {held : Bool} {fuel : Nat} {cs : List Value} {y : DataW H × List MemPlace} (h : DataW.trod enc Try.prog W base sp held fuel 39 cs = some y) (hl : cs.length = 32) : ∃ x : WorldD, worldR W All1 cs x := by
  obtain ⟨xs, n, _, _, _, hlen, hf⟩ := DataW.trod_struct Try.underlying39 h
  match cs, hl, xs, hlen with
  | [v0, v1, v2, v3, v4, v5, v6, v7, v8, v9, v10, v11, v12, v13, v14, v15, v16, v17, v18, v19, v20, v21, v22, v23, v24, v25, v26, v27, v28, v29, v30, v31], _, [y0, y1, y2, y3, y4, y5, y6, y7, y8, y9, y10, y11, y12, y13, y14], _ =>
    have k0 : Try.prog.cellsOf 26 = 12 := by kernel_rfl
    have k1 : Try.prog.cellsOf 3 = 1 := by kernel_rfl
    have k2 : Try.prog.cellsOf 4 = 1 := by kernel_rfl
    have k3 : Try.prog.cellsOf 27 = 1 := by kernel_rfl
    have k4 : Try.prog.cellsOf 29 = 4 := by kernel_rfl
    have k5 : Try.prog.cellsOf 30 = 1 := by kernel_rfl
    have k6 : Try.prog.cellsOf 34 = 4 := by kernel_rfl
    have k7 : Try.prog.cellsOf 32 = 1 := by kernel_rfl
    have k8 : Try.prog.cellsOf 35 = 1 := by kernel_rfl
    have k9 : Try.prog.cellsOf 36 = 1 := by kernel_rfl
    have k10 : Try.prog.cellsOf 37 = 1 := by kernel_rfl
    have h0 := hf 0 _ rfl
    have h1 := hf 1 _ rfl
    have h2 := hf 2 _ rfl
    have h3 := hf 3 _ rfl
    have h4 := hf 4 _ rfl
    have h5 := hf 5 _ rfl
    have h6 := hf 6 _ rfl
    have h7 := hf 7 _ rfl
    have h8 := hf 8 _ rfl
    have h9 := hf 9 _ rfl
    have h10 := hf 10 _ rfl
    have h11 := hf 11 _ rfl
    have h12 := hf 12 _ rfl
    have h13 := hf 13 _ rfl
    have h14 := hf 14 _ rfl
    simp [k0, k1, k2, k3, k4, k5, k6, k7, k8, k9, k10] at h0 h1 h2 h3 h4 h5 h6 h7 h8 h9 h10 h11 h12 h13 h14
    obtain ⟨n0, z0⟩ := oConf h0 rfl
    obtain ⟨u0_0, e0, qs0_0, qs0_1, g0_0⟩ := z0
    obtain ⟨n1, e1, _, _⟩ := DataW.trod_int Try.underlying3 h1
    obtain ⟨n2, e2, _⟩ := DataW.trod_bool Try.underlying4 h2
    obtain ⟨n3, g3⟩ := oStripeS h3
    obtain ⟨n4, e4, _, _⟩ := DataW.trod_int Try.underlying3 h4
    obtain ⟨n5, z5⟩ := oBucket h5 rfl
    have e5 : _ = _ := z5
    obtain ⟨n6, g6⟩ := oVerdictS h6
    obtain ⟨n7, e7, _, _⟩ := DataW.trod_int Try.underlying3 h7
    obtain ⟨n8, z8⟩ := oWheel h8 rfl
    obtain ⟨u8_0, u8_1, u8_2, e8, g8_0, g8_1, g8_2⟩ := z8
    obtain ⟨n9, g9⟩ := oTimerS h9
    obtain ⟨n10, g10⟩ := oItemS h10
    obtain ⟨n11, g11⟩ := oItemS h11
    obtain ⟨n12, g12⟩ := oTaskS h12
    obtain ⟨n13, g13⟩ := oDeedS h13
    obtain ⟨n14, e14, _, _⟩ := DataW.trod_int Try.underlying3 h14
    simp only [List.cons.injEq, and_true] at e0 e1 e2 e4 e5 e7 e8 e14
    subst e1
    subst e2
    subst e4
    subst e7
    subst e14
    obtain ⟨rfl, rfl, rfl, rfl, rfl, rfl, rfl, rfl, rfl, rfl, rfl, rfl⟩ := e0
    obtain ⟨rfl, rfl, rfl, rfl⟩ := e5
    obtain ⟨rfl, rfl, rfl, rfl⟩ := e8
    exact ⟨(⟨n0, n1, n2, n3, n4, n5, n6, n7, n8, n9, n10, n11, n12, n13, n14⟩ : WorldD), _, _, _, _, _, _, _, _, _, _, _, rfl, qs0_0, qs0_1, g0_0, g3, g6, g8_0, g8_1, g8_2, g9, g10, g11, g12, g13⟩
def AtWorld (w : World) (v : Value) : Prop := ∃ (cs : List Value) (x : WorldD), v = .agg cs.toArray ∧ worldR w All1 cs x
theorem openAtWorld {H : Type} {enc : TypeId × Value → H} {W : World} {base : Nat} {r : Reach} {b0 : Nat} {sp : Nat → Bool} {held : Bool} {v : Value} {d : DataW H} {ps : List MemPlace}
    (hv : Value.okWide Try.prog W r b0 39 v) (h : DataW.Trod enc Try.prog W base sp held 39 v d ps) : AtWorld W v := by
  obtain ⟨cs, rfl, hsz⟩ := okWide_struct Try.underlying39 hv
  obtain ⟨fuel, hf⟩ := h
  have hn : Try.prog.cellsOf 39 = 32 := by kernel_rfl
  rw [hn] at hsz
  obtain ⟨x, hx⟩ := oWorld (cs := cs.toList) (by simpa [Value.cells] using hf) (by simpa using hsz)
  exact ⟨cs.toList, x, by simp, hx⟩
def AtWorldS (w : World) (v : Value) : Prop := ∃ l : List WorldD, LAt 32 worldR w All1 v l
end Go.Proofs.Ytciipadkdglhmaa
