/-
  Contracts of VerdictOf, of the program and of the specification.
-/
import Derived.Test.YtlhjhnjpmafceabAVerdict
import Derived.Test.YtlhjhnjpmafceabAbs2
import Derived.Test.YtlhjhnjpmafceabToSt
namespace Go.Proofs.Ytlhjhnjpmafceab
open Go.ChangeShapes Go.WideShapes Go.ChangeAt Go.RowKit
set_option linter.unusedVariables false
set_option maxRecDepth 100000

def ofB (tr : Int) (v : VerdictD) : Bool := decide (v.trace = tr)
def noV : VerdictD := ⟨0, 0, false⟩
def verdOf (l : List VerdictD) (tr : Int) : VerdictD := (l.find? (ofB tr)).getD noV
def verdIs (l : List VerdictD) (tr : Int) : Bool := (l.find? (ofB tr)).isSome
theorem find_at {α : Type} {p : α → Bool} {l : List α} {k : Nat} (hk : k < l.length) (hno : ∀ j (h : j < l.length), j < k → p l[j] = false) (h : p l[k] = true) : l.find? p = some l[k] := by
  rw [List.find?_eq_some_iff_getElem]
  exact ⟨h, k, hk, rfl, fun j hj => by rw [hno j (by omega) hj]; rfl⟩
theorem find_none {α : Type} {p : α → Bool} {l : List α} (hno : ∀ j (h : j < l.length), j < l.length → p l[j] = false) : l.find? p = none := by
  rw [List.find?_eq_none]
  intro x hx
  obtain ⟨j, hj, rfl⟩ := List.mem_iff_getElem.1 hx
  rw [hno j hj hj]
  simp
theorem find_idx {α : Type} {p : α → Bool} {l : List α} (h : idxv p l < 0) : l.find? p = none := by
  unfold idxv at h
  cases e : l.findIdx? p with
  | none =>
    rw [List.findIdx?_eq_none_iff] at e
    rw [List.find?_eq_none]
    intro x hx
    rw [e x hx]
    simp
  | some i => rw [e] at h; simp at h; omega
theorem idx_find {α : Type} {p : α → Bool} {l : List α} (h : ¬ idxv p l < 0) : ∃ (k : Nat) (hk : k < l.length), idxv p l = k ∧ l.find? p = some l[k] := by
  unfold idxv at *
  cases e : l.findIdx? p with
  | none => rw [e] at h; simp at h
  | some i =>
    obtain ⟨hi, h1, h2⟩ := List.findIdx?_eq_some_iff_getElem.1 e
    refine ⟨i, hi, rfl, find_at hi (fun j h hj => ?_) h1⟩
    have := h2 j hj
    simpa using this
theorem hmfV : ∀ (fn : Fn) (first cap : Array Value) (w : World), (Instr.makeFunc fn first cap).run Try.prog w = .ok (.func fn first cap) w := fun _ _ _ _ => rfl
end Go.Proofs.Ytlhjhnjpmafceab
