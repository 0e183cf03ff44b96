/-
  What Remember answers; how a map by places tells what is still remembered.
-/
import Derived.Test.YtjhlammjnggghaaForg0
import Derived.Maps.OwnSet
namespace Go.Proofs.Ytjhlammjnggghaa
open Go.ChangeShapes Go.WideShapes Go.ChangeAt Go.RowKit Go.Maps
set_option linter.unusedVariables false
set_option maxRecDepth 100000

def verC (x : VerdictD) : List Value := [.int .i64 x.trace, .int .i64 x.stamp, .bool x.keep]
def vV (x : VerdictD) : Value := .agg #[.int .i64 x.trace, .int .i64 x.stamp, .bool x.keep]
def rV (v : Value) : Option (DataW Value × List MemPlace) := some (.held v, [])
def getO (p : List (Option VerdictD)) (i : Nat) : Option VerdictD := (p[i]?).join
def somes (p : List (Option VerdictD)) : List VerdictD := p.filterMap id
theorem somes_app (p q : List (Option VerdictD)) : somes (p ++ q) = somes p ++ somes q := by simp [somes]
theorem somes_some (x : VerdictD) (q : List (Option VerdictD)) : somes (some x :: q) = x :: somes q := by simp [somes]
theorem somes_none (q : List (Option VerdictD)) : somes (none :: q) = somes q := by simp [somes]
theorem somes_nil : somes [] = [] := rfl
theorem getO_snoc (p : List (Option VerdictD)) (x : VerdictD) (i : Nat) : getO (p ++ [some x]) i = if i = p.length then some x else getO p i := by
  unfold getO
  by_cases h : i = p.length
  · subst h; simp
  · rw [if_neg h]
    by_cases h2 : i < p.length
    · rw [List.getElem?_append_left h2]
    · rw [List.getElem?_eq_none (by simp; omega), List.getElem?_eq_none (by omega)]
theorem getO_set (p : List (Option VerdictD)) (k i : Nat) : getO (p.set k none) i = if i = k then none else getO p i := by
  unfold getO
  rw [List.getElem?_set]
  by_cases h : i = k
  · subst h
    by_cases h2 : i < p.length <;> simp [h2]
  · rw [if_neg (fun e => h e.symm), if_neg h]
theorem somes_set : ∀ (p : List (Option VerdictD)) (k : Nat), (somes (p.set k none)).length + (if (getO p k).isSome then 1 else 0) = (somes p).length
  | [], k => by simp [somes, getO]
  | a :: r, 0 => by cases a <;> simp [somes, getO]
  | a :: r, k + 1 => by
    have ih := somes_set r k
    have e : getO (a :: r) (k + 1) = getO r k := by simp [getO]
    rw [List.set_cons_succ, e]
    cases a
    · rw [somes_none, somes_none]; exact ih
    · rw [somes_some, somes_some, List.length_cons, List.length_cons]; omega
structure TellsV (D : DataW Value) (p : List (Option VerdictD)) : Prop where
  tidy : Tidy D
  has : ∀ i : Nat, Maps.has D (.int .i64 (i : Int)) = (getO p i).isSome
  val : ∀ (i : Nat) (x : VerdictD), getO p i = some x → ∀ z, D.atKey (.int .i64 (i : Int)) z = .held (vV x)
  size : Maps.size D = (somes p).length
theorem TellsV.start : TellsV (.map []) [] := ⟨tidy_empty, fun i => by simp [getO]; rfl, fun i x h => by simp [getO] at h, rfl⟩
theorem lit_ne {i j : Nat} (h : ¬ i = j) : (Lit.int .i64 (i : Int)) ≠ .int .i64 (j : Int) := fun e => h (by injection e with _ e2; omega)
theorem TellsV.push {D : DataW Value} {p : List (Option VerdictD)} (h : TellsV D p) (x : VerdictD) {n : Nat} (hn : n = p.length) (hk : WideAt.IsKeyLit (.int .i64 (n : Int))) : TellsV (D.put (.int .i64 (n : Int)) (.held (vV x))) (p ++ [some x]) := by
  subst hn
  have hno : Maps.has D (.int .i64 (p.length : Int)) = false := by rw [h.has]; simp [getO]
  refine ⟨h.tidy.put hk _, fun i => ?_, fun i y hy z => ?_, ?_⟩
  · rw [getO_snoc]
    by_cases e : i = p.length
    · subst e; rw [has_put_same h.tidy.isMap hk, if_pos rfl]; rfl
    · rw [has_put_other (lit_ne e), h.has, if_neg e]
  · rw [getO_snoc] at hy
    by_cases e : i = p.length
    · subst e
      rw [if_pos rfl] at hy
      injection hy with hy
      subst hy
      rw [atKey_put_same h.tidy.isMap hk]
    · rw [if_neg e] at hy
      rw [atKey_put_other (lit_ne e), h.val i y hy]
  · rw [size_put h.tidy, hno, h.size, somes_app]
    simp [somes]
theorem TellsV.drop {D : DataW Value} {p : List (Option VerdictD)} (h : TellsV D p) (k : Nat) : TellsV (D.del (.int .i64 (k : Int))) (p.set k none) := by
  refine ⟨h.tidy.del _, fun i => ?_, fun i y hy z => ?_, ?_⟩
  · rw [getO_set]
    by_cases e : i = k
    · subst e; rw [has_del_same, if_pos rfl]; rfl
    · rw [has_del_other (lit_ne e), h.has, if_neg e]
  · rw [getO_set] at hy
    by_cases e : i = k
    · subst e; rw [if_pos rfl] at hy; exact absurd hy (by simp)
    · rw [if_neg e] at hy
      rw [atKey_del_other (lit_ne e), h.val i y hy]
  · have h1 := size_del (k := .int .i64 (k : Int)) h.tidy
    have h2 := somes_set p k
    rw [h.has, h.size] at h1
    omega
def offB (v x : VerdictD) : Option VerdictD := if x.trace = v.trace then none else some x
def remA (l : List VerdictD) (v : VerdictD) : List VerdictD := l.filter (fun x => !decide (x.trace = v.trace)) ++ [v]
def goneAt (q : List VerdictD) (c : Nat) : Int := if c = 0 then 0 else ((q[c - 1]?).map VerdictD.trace).getD 0
def remL (l : List VerdictD) (v : VerdictD) (most : Int) : List VerdictD := if most < 1 then l else (remA l v).drop ((remA l v).length - most.toNat)
def remG (l : List VerdictD) (v : VerdictD) (most : Int) : Int := if most < 1 then 0 else goneAt (remA l v) ((remA l v).length - most.toNat)
theorem remA_len (l : List VerdictD) (v : VerdictD) : (remA l v).length ≤ l.length + 1 := by
  unfold remA
  rw [List.length_append]
  have := List.length_filter_le (fun x => !decide (x.trace = v.trace)) l
  simp
  exact this
theorem remL_len (l : List VerdictD) (v : VerdictD) (most : Int) : (remL l v most).length ≤ l.length + 1 := by
  have := remA_len l v
  unfold remL
  split
  · omega
  · rw [List.length_drop]; omega
theorem somes_off (l : List VerdictD) (v : VerdictD) : somes (l.map (offB v) ++ [some v]) = remA l v := by
  rw [somes_app]
  unfold remA
  congr 1
  induction l with
  | nil => rfl
  | cons x r ih =>
    rw [List.map_cons, List.filter_cons]
    unfold offB
    by_cases h : x.trace = v.trace
    · rw [if_pos h, somes_none, decide_eq_true h]; exact ih
    · rw [if_neg h, somes_some, decide_eq_false h]; simp only [Bool.not_false, if_true]; rw [← ih]; rfl
def OffOk (l : List VerdictD) (v : VerdictD) (k : Nat) (p : List (Option VerdictD)) : Prop := p.length = l.length + 1 ∧ ∀ i, p[i]? = if i < l.length then (if i < k then (l[i]?).map (offB v) else (l[i]?).map some) else if i = l.length then some (some v) else none
theorem OffOk.start (l : List VerdictD) (v : VerdictD) : OffOk l v 0 (l.map some ++ [some v]) := by
  refine ⟨by simp, fun i => ?_⟩
  by_cases h : i < l.length
  · rw [if_pos h, if_neg (Nat.not_lt_zero _), List.getElem?_append_left (by simpa using h), List.getElem?_map]
  · rw [if_neg h]
    by_cases e : i = l.length
    · subst e; simp
    · rw [if_neg e, List.getElem?_eq_none]; simp; omega
theorem OffOk.skip {l : List VerdictD} {v : VerdictD} {k : Nat} {p : List (Option VerdictD)} (h : OffOk l v k p) (hk : k < l.length) (hn : ¬ l[k].trace = v.trace) : OffOk l v (k + 1) p := by
  refine ⟨h.1, fun i => ?_⟩
  rw [h.2 i]
  by_cases hi : i < l.length
  · rw [if_pos hi, if_pos hi]
    by_cases e : i = k
    · subst e
      rw [if_neg (Nat.lt_irrefl _), if_pos (Nat.lt_succ_self _), List.getElem?_eq_getElem hi]
      simp [offB, hn]
    · by_cases h2 : i < k
      · rw [if_pos h2, if_pos (by omega)]
      · rw [if_neg h2, if_neg (by omega)]
  · rw [if_neg hi, if_neg hi]
theorem OffOk.cut {l : List VerdictD} {v : VerdictD} {k : Nat} {p : List (Option VerdictD)} (h : OffOk l v k p) (hk : k < l.length) (hn : l[k].trace = v.trace) : OffOk l v (k + 1) (p.set k none) := by
  refine ⟨by simpa using h.1, fun i => ?_⟩
  rw [List.getElem?_set]
  by_cases e : k = i
  · subst e
    rw [if_pos rfl, if_pos (by rw [h.1]; omega), if_pos hk, if_pos (Nat.lt_succ_self _), List.getElem?_eq_getElem hk]
    simp [offB, hn]
  · rw [if_neg e, h.2 i]
    by_cases hi : i < l.length
    · rw [if_pos hi, if_pos hi]
      by_cases h2 : i < k
      · rw [if_pos h2, if_pos (by omega)]
      · rw [if_neg h2, if_neg (by omega)]
    · rw [if_neg hi, if_neg hi]
theorem OffOk.fin {l : List VerdictD} {v : VerdictD} {p : List (Option VerdictD)} (h : OffOk l v l.length p) : p = l.map (offB v) ++ [some v] := by
  apply List.ext_getElem?
  intro i
  rw [h.2 i]
  by_cases hi : i < l.length
  · rw [if_pos hi, if_pos hi, List.getElem?_append_left (by simpa using hi), List.getElem?_map]
  · rw [if_neg hi]
    by_cases e : i = l.length
    · subst e; simp
    · rw [if_neg e, List.getElem?_eq_none]; simp; omega
structure Ev (p0 : List (Option VerdictD)) (most k : Nat) (p : List (Option VerdictD)) (c : Nat) : Prop where
  len : p.length = p0.length
  rest : p.drop k = p0.drop k
  some : somes p = (somes p0).drop c
  le : c ≤ (somes p0).length - most
  head : c < (somes p0).length - most → somes (p.take k) = []
theorem Ev.start (p0 : List (Option VerdictD)) (most : Nat) : Ev p0 most 0 p0 0 := ⟨rfl, rfl, by simp, Nat.zero_le _, fun _ => rfl⟩
theorem drop_more {p q : List (Option VerdictD)} {k : Nat} (h : p.drop k = q.drop k) : p.drop (k + 1) = q.drop (k + 1) := by
  have := congrArg (List.drop 1) h
  simpa [List.drop_drop, Nat.add_comm] using this
theorem Ev.skip {p0 p : List (Option VerdictD)} {most k c : Nat} (h : Ev p0 most k p c) (hk : k < p.length) (hs : getO p k = none ∨ ¬ most < (somes p).length) : Ev p0 most (k + 1) p c := by
  refine ⟨h.len, drop_more h.rest, h.some, h.le, fun hc => ?_⟩
  have hl : (somes p).length = (somes p0).length - c := by rw [h.some, List.length_drop]
  rcases hs with hs | hs
  · rw [List.take_succ_eq_append_getElem hk, somes_app, h.head hc]
    have : p[k] = none := by unfold getO at hs; rw [List.getElem?_eq_getElem hk] at hs; exact hs
    rw [this]
    rfl
  · omega
theorem Ev.cut {p0 p : List (Option VerdictD)} {most k c : Nat} (h : Ev p0 most k p c) (hk : k < p.length) {x : VerdictD} (hx : getO p k = Option.some x) (hs : most < (somes p).length) : (somes p0)[c]? = Option.some x ∧ Ev p0 most (k + 1) (p.set k none) (c + 1) := by
  have hl : (somes p).length = (somes p0).length - c := by rw [h.some, List.length_drop]
  have hc : c < (somes p0).length - most := by omega
  have hh := h.head hc
  have hx2 : p[k] = Option.some x := by unfold getO at hx; rw [List.getElem?_eq_getElem hk] at hx; exact hx
  have e1 : somes p = x :: somes (p.drop (k + 1)) := by
    have e : p = p.take k ++ p[k] :: p.drop (k + 1) := by rw [List.getElem_cons_drop, List.take_append_drop]
    conv => lhs; rw [e]
    rw [somes_app, hh, hx2, somes_some]
    rfl
  have e3 : p.set k none = p.take k ++ none :: p.drop (k + 1) := by rw [List.set_eq_take_append_cons_drop, if_pos hk]
  have e2 : somes (p.set k none) = somes (p.drop (k + 1)) := by
    rw [e3, somes_app, hh, somes_none]
    rfl
  rw [h.some] at e1
  refine ⟨?_, by simpa using h.len, ?_, ?_, by omega, fun _ => ?_⟩
  · have := congrArg (fun q => q[0]?) e1
    simpa using this
  · have e4 : (p.take k ++ none :: p.drop (k + 1)).drop (k + 1) = p.drop (k + 1) := by
      rw [List.drop_append, List.length_take, Nat.min_eq_left (Nat.le_of_lt hk), List.drop_eq_nil_of_le (by rw [List.length_take]; omega), Nat.add_sub_cancel_left]
      rfl
    rw [e3, e4]
    exact drop_more h.rest
  · rw [e2]
    have := congrArg (List.drop 1) e1
    rw [List.drop_drop] at this
    simpa [Nat.add_comm] using this.symm
  · rw [e3, List.take_append, List.length_take, Nat.min_eq_left (Nat.le_of_lt hk), Nat.add_sub_cancel_left, List.take_take, Nat.min_eq_right (Nat.le_succ _), List.take_succ_cons, List.take_zero, somes_app, hh, somes_none]
    rfl
theorem Ev.fin {p1 p : List (Option VerdictD)} {v : VerdictD} {most c : Nat} (h : Ev (p1 ++ [Option.some v]) most p1.length p c) (hm : 1 ≤ most) : c = (somes (p1 ++ [Option.some v])).length - most := by
  rcases Nat.lt_or_ge c ((somes (p1 ++ [Option.some v])).length - most) with hc | hc
  · have hh := h.head hc
    have hl : (somes p).length = (somes (p1 ++ [Option.some v])).length - c := by rw [h.some, List.length_drop]
    have hr := h.rest
    rw [List.drop_left] at hr
    have e : somes p = [v] := by
      rw [← List.take_append_drop p1.length p, somes_app, hh, hr]
      rfl
    rw [e, List.length_singleton] at hl
    omega
  · exact Nat.le_antisymm h.le hc
end Go.Proofs.Ytjhlammjnggghaa
