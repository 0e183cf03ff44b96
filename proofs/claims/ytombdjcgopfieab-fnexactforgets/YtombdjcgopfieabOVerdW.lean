/-
  Verdict: a list of them that is an argument of a law lies in memory so, and its numbers are ints.
-/
import Derived.Test.YtombdjcgopfieabForg1
import Derived.Test.YtombdjcgopfieabOVerdict
import Derived.Test.YtombdjcgopfieabMVerdict
namespace Go.Proofs.Ytombdjcgopfieab
open Go.ChangeShapes Go.WideShapes Go.ChangeAt Go.RowKit Go.Joins Go.Deep
set_option linter.unusedVariables false
set_option maxRecDepth 100000

theorem verdictS_cnt (l : List VerdictD) : 3 * l.length ≤ 6 * bulkL verdictBulk l := by
  have := bulkL_len verdictBulk l
  omega
theorem gone_cnt (l m : List VerdictD) (h : bulkL verdictBulk l ≤ 1048576) : (gone l m).length ≤ 16777216 := by
  have := gone_len l m
  have := bulkL_len verdictBulk l
  omega
theorem oVerdictW {H : Type} {enc : TypeId × Value → H} {W : World} {base : Nat} {sp : Nat → Bool} {held : Bool} {fuel : Nat} {cs : List Value} {y : DataW H × List MemPlace} (h : DataW.trod enc Try.prog W base sp held fuel 34 cs = some y) (hl : cs.length = 3) : ∃ x : VerdictD, verdictR W All1 cs x ∧ IntOk x.trace := by
  obtain ⟨xs, n, _, _, _, hlen, hf⟩ := DataW.trod_struct Try.underlying34 h
  match cs, hl, xs, hlen with
  | [v0, v1, v2], _, [y0, y1, y2], _ =>
    have k0 : Try.prog.cellsOf 3 = 1 := by kernel_rfl
    have k1 : Try.prog.cellsOf 4 = 1 := by kernel_rfl
    have h0 := hf 0 _ rfl
    have h1 := hf 1 _ rfl
    have h2 := hf 2 _ rfl
    simp [k0, k1] at h0 h1 h2
    obtain ⟨n0, e0, _, wf0⟩ := DataW.trod_int Try.underlying3 h0
    obtain ⟨n1, e1, _, _⟩ := DataW.trod_int Try.underlying3 h1
    obtain ⟨n2, e2, _⟩ := DataW.trod_bool Try.underlying4 h2
    simp only [List.cons.injEq, and_true] at e0 e1 e2
    subst e0
    subst e1
    subst e2
    exact ⟨(⟨n0, n1, n2⟩ : VerdictD), rfl, wf0⟩
theorem oVerdictSW {H : Type} {enc : TypeId × Value → H} {W : World} {base : Nat} {sp : Nat → Bool} {held : Bool} {fuel : Nat} {v : Value} {y : DataW H × List MemPlace} (h : DataW.trod enc Try.prog W base sp held fuel 22 [v] = some y) : ∃ l : List VerdictD, LAt 3 verdictR W All1 v l ∧ ∀ x ∈ l, IntOk x.trace := by
  obtain ⟨a, len, cap, rfl, hm, hh⟩ := openSlice (c := 3) Try.underlying22 (by kernel_rfl) (by omega) h
  rcases hh with rfl | ⟨b, o, rfl, hb, hx⟩
  · exact ⟨[], ⟨a, cap, rfl, by simp, .inl rfl⟩, by simp⟩
  · obtain ⟨l, hl, hp⟩ := list_of1 len (fun i (x : VerdictD) => (∃ cs, verdictR W All1 cs x ∧ InB W b (o + i * 3) cs) ∧ IntOk x.trace) (fun i hi => by
      obtain ⟨cs, n, z, g1, g2, g3⟩ := hx i hi
      obtain ⟨x, hx, hwf⟩ := oVerdictW g3 g1
      refine ⟨x, ⟨cs, hx, fun j v hv => ?_⟩, hwf⟩
      have hj : j < 3 := by
        rcases Nat.lt_or_ge j cs.length with h | h
        · omega
        · rw [List.getElem?_eq_none h] at hv; cases hv
      rw [g2 j hj]; exact hv)
    subst hl
    exact ⟨l, ⟨_, cap, rfl, hm, .inr ⟨b, o, rfl, hb, trivial, fun i x hx => (hp i x hx).1⟩⟩, fun x hx => by obtain ⟨i, hi, rfl⟩ := List.mem_iff_getElem.1 hx; exact (hp i _ (List.getElem?_eq_getElem hi)).2⟩
def AtVerdSW (w : World) (v : Value) : Prop := ∃ l : List VerdictD, LAt 3 verdictR w All1 v l ∧ ∀ x ∈ l, IntOk x.trace
theorem openAtVerdSW {H : Type} {enc : TypeId × Value → H} {W : World} {base : Nat} {r : Reach} {b0 : Nat} {sp : Nat → Bool} {held : Bool} {v : Value} {d : DataW H} {ps : List MemPlace}
    (hv : Value.okWide Try.prog W r b0 22 v) (h : DataW.Trod enc Try.prog W base sp held 22 v d ps) : AtVerdSW W v := by
  obtain ⟨a, len, cap, rfl⟩ := okWide_slice Try.underlying22 hv
  obtain ⟨fuel, hf⟩ := h
  exact oVerdictSW (v := .slice a len cap) (by simpa [Value.cells] using hf)
end Go.Proofs.Ytombdjcgopfieab
