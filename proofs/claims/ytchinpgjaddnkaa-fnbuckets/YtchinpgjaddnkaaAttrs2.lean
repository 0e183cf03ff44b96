/-
  Contracts of the law's own comparisons of Attrs and lists of them, at lists that are the same; of FindAttr of the program and of the specification.
-/
import Derived.Test.YtchinpgjaddnkaaAttrs
namespace Go.Proofs.Ytchinpgjaddnkaa
open Go.ChangeShapes Go.WideShapes Go.ChangeAt Go.RowKit
set_option linter.unusedVariables false
set_option maxRecDepth 100000

theorem AttrsAt.at {w : World} {a : Option Addr} {n cap : Nat} {l : List AttrD} (h : AttrsAt w (.slice a n cap) l) (k : Nat) (hk : k < l.length) :
    ∃ b o, a = some ⟨b, o, none⟩ ∧ b < w.heap.size ∧ AttrAt w b (o + k * 4) (l.getD k dA) := by
  obtain ⟨a', cap', e, hl, hwf, h⟩ := h
  injection e with e1 e2 e3
  subst e1
  rcases h with h | ⟨b, o, h1, h2, h3⟩
  · subst h; simp at hk
  · exact ⟨b, o, h1, h2, h3 k hk⟩
theorem AttrsAt.form {w : World} {v : Value} {l : List AttrD} (h : AttrsAt w v l) : ∃ a cap, v = .slice a l.length cap := by
  obtain ⟨a, cap, e, _⟩ := h; exact ⟨a, cap, e⟩
theorem AttrsAt.len {w : World} {v : Value} {l : List AttrD} (h : AttrsAt w v l) : l.length ≤ 9223372036854775807 := by
  obtain ⟨a, cap, e, hl, _⟩ := h; exact hl
theorem AttrsAt.wf {w : World} {v : Value} {l : List AttrD} (h : AttrsAt w v l) (k : Nat) (hk : k < l.length) : AttrWf (l.getD k dA) := by
  obtain ⟨a, cap, e, hl, hwf, _⟩ := h; exact hwf _ (getD_mem l dA k hk)
theorem toList_ne {a b : ByteArray} (h : a ≠ b) : (a.toList == b.toList) = false := by
  rw [beq_eq_false_iff_ne, ByteArray.toList_eq, ByteArray.toList_eq]
  intro e
  exact h (ByteArray.ext (Array.toList_inj.1 e))
def findA (l : List AttrD) (key : ByteArray) : Option AttrD := l.find? fun x => decide (x.1 = key)
theorem findA_hit {l : List AttrD} {key : ByteArray} {k : Nat} (hk : k < l.length) (hno : ∀ j, j < k → (l.getD j dA).1 ≠ key) (h : (l.getD k dA).1 = key) : findA l key = some (l.getD k dA) := by
  unfold findA
  rw [List.find?_eq_some_iff_getElem]
  refine ⟨decide_eq_true h, k, hk, by simp [List.getD, hk], fun j hj => ?_⟩
  have := hno j hj
  have hj2 : j < l.length := by omega
  simp [List.getD, hj2] at this
  simp [this]
theorem findA_none {l : List AttrD} {key : ByteArray} (hno : ∀ j, j < l.length → (l.getD j dA).1 ≠ key) : findA l key = none := by
  unfold findA
  rw [List.find?_eq_none]
  intro x hx
  obtain ⟨j, hj, rfl⟩ := List.mem_iff_getElem.1 hx
  have := hno j hj
  simp [List.getD, hj] at this
  simp [this]

def FoundA (l : List AttrD) (key : ByteArray) (e : Ending) : Prop :=
  ∃ (kk : ByteArray) (bb : Bool) (nn : Int) (tt : ByteArray) (f : Bool), e = .returned (.tuple #[.agg #[.string kk, .bool bb, .int .i64 nn, .string tt], .bool f]) ∧ (kk, bb, nn, tt) = (findA l key).getD dA ∧ f = (findA l key).isSome

end Go.Proofs.Ytchinpgjaddnkaa
