/-
  Lists that are grown by append, and lists that are laid by copy, of elements of many cells, each of which owns what it holds.
-/
import Derived.Test.YtjhlammjnggghaaAbs
import Derived.OwnWalk
import Derived.Laws.OwnMore
import Derived.Laws.AppendOwnNone
namespace Go.Proofs.Ytjhlammjnggghaa
open Go.ChangeShapes Go.WideShapes Go.ChangeAt Go.RowKit
set_option linter.unusedVariables false
set_option maxRecDepth 100000

/-- An append of some elements: the row stays where it is, or it lies in a block that is new. -/
theorem run_append2 {P : Program} (w : World) (base : Nat) (t ty e : TypeId) (i : TypeInfo) (z : Value) (size bytes : Nat) (ht : P.underlying t = some (.slice e)) (hi : P.info? e = some i) (hz : i.zero = some z)
    (hsize : i.size = size) (hby : i.bytes = bytes) (hzs : z.cells.size = size) (hsz : 0 < size) (v : Value) (n : Nat) (xs : List Value) (hown : w.ownsRow base e size v n xs)
    (a : Addr) (m c : Nat) (news : List Value) (hl : news.length = m * size) (hnews : ∀ j u, news[j]? = some u → w.cell? (a.add j) = some u) (h1 : ∀ u ∈ news, u.oneCell' = true)
    (h63 : n + m ≤ maxLen) (hbytes : (n + m) * bytes ≤ 140737488355328) (hbase : base ≤ w.heap.size) :
    ∃ v' w', (Builtin.append_ #[t, t] ty #[v, .slice (some a) m c]).run P w = .ok v' w' ∧ w'.ownsRow base e size v' (n + m) (xs ++ news) ∧ w.grownBy w' v.ownBlock ∧ (v'.ownBlock = v.ownBlock ∨ v'.ownBlock = some w.heap.size) := by
  obtain ⟨v', w', hr, h2, h3, h4⟩ := run_append_own (P := P) w base t ty e i z size bytes ht hi hz hsize hby hzs hsz v n xs hown a m c news hl hnews h1 h63 hbytes hbase
  refine ⟨v', w', hr, h2, h3, ?_⟩
  subst hsize
  subst hby
  have hsmall : n + m ≤ 9223372036854775807 := by simp only [maxLen] at h63; omega
  rcases hown.2 with ⟨rfl, rfl⟩ | ⟨g, cap, cur, rfl, hbg, hg, hnc, hcm, hcs, htake⟩
  · by_cases hm : m = 0
    · left
      have e0 := h4.2 ⟨rfl, hm⟩
      rw [e0]
    · have hr1 := run_append_nil (P := P) w t ty e i z ht hi hz a m c news hl hnews (by omega) (by omega) (by have hb := hbytes; simp only [Nat.zero_add] at hb; omega)
      rw [hr1] at hr
      injection hr with e1 e2
      right
      rw [← e1]
      rfl
  · by_cases hroom : n + m ≤ cap
    · have hfit : n * i.size + news.length ≤ cur.size := by rw [hl, hcs, ← Nat.add_mul]; exact Nat.mul_le_mul_right _ hroom
      have hr1 := run_append_room (P := P) w t ty e i ht hi g n cap cur hg a m c news hl hnews h1 hroom hfit
      rw [hr1] at hr
      injection hr with e1 e2
      left
      rw [← e1]
      rfl
    · have hr1 := run_append_grow (P := P) w t ty e i z ht hi hz ⟨g, 0, none⟩ n cap xs hown.1 (hown.cells (g := g) rfl) a m c news hl hnews (by omega) (by omega) (growslice_fits (by omega) hbytes)
      rw [hr1] at hr
      injection hr with e1 e2
      right
      rw [← e1]
      rfl
theorem wpl_append2 {P : Program} {w : World} {ops : Array Oper} {rest : List Oper} {o : Oper} {a : Act} {Q : Exit → Act → World → Prop} (hgd : o.guard = none) (s x : Operand) (t : TypeId)
    (ho : o.op = .call { callee := .builtin .append, args := #[s, x], argTypes := #[t, t] })
    (base : Nat) (e : TypeId) (z : Value) (size bytes : Nat) (ht : P.underlying t = some (.slice e)) (hinf : (P.info? e).map (fun i => (i.zero, i.size, i.bytes)) = some (some z, size, bytes)) (hzs : z.cells.size = size) (hsz : 0 < size)
    (v : Value) (n : Nat) (xs : List Value) (hs : a.eval s = v) (hown : w.ownsRow base e size v n xs)
    (ad : Addr) (m c : Nat) (news : List Value) (hx : a.eval x = .slice (some ad) m c) (hl : news.length = m * size) (hnews : ∀ j u, news[j]? = some u → w.cell? (ad.add j) = some u) (h1 : ∀ u ∈ news, u.oneCell' = true)
    (h63 : n + m ≤ maxLen) (hbytes : (n + m) * bytes ≤ 140737488355328) (hbase : base ≤ w.heap.size)
    (h : ∀ v' w', w'.ownsRow base e size v' (n + m) (xs ++ news) → w.grownBy w' v.ownBlock → (v'.ownBlock = v.ownBlock ∨ v'.ownBlock = some w.heap.size) → wpList P ops Q rest (a.put o.dst v') w') : wpList P ops Q (o :: rest) a w := by
  obtain ⟨i, hi, hz, h2, h3⟩ := info_parts hinf
  obtain ⟨v', w', hr, g2, g3, g4⟩ := run_append2 (P := P) w base t o.type e i z size bytes ht hi hz h2 h3 hzs hsz v n xs hown ad m c news hl hnews h1 h63 hbytes hbase
  refine wpList_plain hgd fun K hK => ?_
  unfold Oper.wp execOp
  simp only [ho, resolve, invoke, builtin, Sem.run_bind, Sem.run_pure, Result.andThen_ok, List.map_toArray, List.map_cons, List.map_nil, hs, hx, hr]
  exact hK _ _ (h v' w' g2 g3 g4)

theorem flat_at {N : Nat} : ∀ (css : List (List Value)) (i j : Nat), (∀ cs ∈ css, cs.length = N) → j < N → css.flatten[i * N + j]? = (css[i]?).bind (fun cs => cs[j]?)
  | [], i, j, _, _ => by simp
  | cs :: r, 0, j, h, hj => by
    have hc := h cs (by simp)
    simp only [List.flatten_cons, Nat.zero_mul, Nat.zero_add, List.getElem?_cons_zero, Option.bind_some]
    rw [List.getElem?_append_left (by omega)]
  | cs :: r, i + 1, j, h, hj => by
    have hc := h cs (by simp)
    have ih := flat_at r i j (fun c hcr => h c (by simp [hcr])) hj
    simp only [List.flatten_cons, List.getElem?_cons_succ]
    rw [List.getElem?_append_right (by rw [hc, Nat.succ_mul]; omega), hc, show (i + 1) * N + j - N = i * N + j by rw [Nat.succ_mul]; omega, ih]

/-- A list that is being grown: its row is the call's own, what hangs on each element lies in blocks of its own. -/
structure GrowX {α : Type} (N : Nat) (C : World → (Nat → Prop) → List Value → α → Prop) (t : TypeId) (base : Nat) (w : World) (v : Value) (l : List α) (css : List (List Value)) (T : Nat → Nat → Prop) : Prop where
  row : w.ownsRow base t N v l.length css.flatten
  len : css.length = l.length
  off : ∀ i k, T i k → base ≤ k ∧ k < w.heap.size ∧ v.ownBlock ≠ some k
  one : ∀ i j k, T i k → T j k → i = j
  has : ∀ (i : Nat) (x : α), l[i]? = some x → ∃ cs, css[i]? = some cs ∧ C w (T i) cs x ∧ cs.length = N
def GrowL {α : Type} (N : Nat) (C : World → (Nat → Prop) → List Value → α → Prop) (t : TypeId) (base : Nat) (w : World) (v : Value) (l : List α) : Prop := ∃ css T, GrowX N C t base w v l css T
theorem GrowL.start {α : Type} {N : Nat} {C : World → (Nat → Prop) → List Value → α → Prop} {t : TypeId} {base : Nat} {w : World} (hb : base ≤ w.heap.size) : GrowL N C t base (w.alloc (.cells #[] t)) (.slice (some ⟨w.heap.size, 0, none⟩) 0 0) ([] : List α) :=
  ⟨[], fun _ _ => False, ⟨World.ownsRow_made w #[] 0 hb (by unfold maxLen; omega) (by simp), rfl, fun _ _ h => h.elim, fun _ _ _ h => h.elim, fun i x h => by simp at h⟩⟩
theorem owns_below {base : Nat} {w w' : World} {e : TypeId} {size : Nat} {v : Value} {n : Nat} {xs : List Value} (h : w.ownsRow base e size v n xs) (ht : Below w.heap.size w w') : w'.ownsRow base e size v n xs := by
  obtain ⟨h1, h2⟩ := h
  refine ⟨h1, ?_⟩
  rcases h2 with h2 | ⟨g, cap, cur, hv, hg, hh, rest⟩
  · exact .inl h2
  · have hlt : g < w.heap.size := (Array.getElem?_eq_some_iff.1 hh).1
    exact .inr ⟨g, cap, cur, hv, hg, by rw [ht.block g hlt]; exact hh, rest⟩
theorem GrowX.keep {α : Type} {N : Nat} {C : World → (Nat → Prop) → List Value → α → Prop} (hC : Keeps C) {t : TypeId} {base : Nat} {w w' : World} {v : Value} {l : List α} {css : List (List Value)} {T : Nat → Nat → Prop} (h : GrowX N C t base w v l css T) (hb : Below w.heap.size w w') : GrowX N C t base w' v l css T :=
  ⟨owns_below h.row hb, h.len, fun i k hk => ⟨(h.off i k hk).1, Nat.lt_of_lt_of_le (h.off i k hk).2.1 hb.size, (h.off i k hk).2.2⟩, h.one, fun i x hx => by
    obtain ⟨cs, h1, h2, h3⟩ := h.has i x hx
    exact ⟨cs, h1, hC w w' _ _ cs x (Below.turn hb) none_off h2, h3⟩⟩
theorem GrowL.keep {α : Type} {N : Nat} {C : World → (Nat → Prop) → List Value → α → Prop} (hC : Keeps C) {t : TypeId} {base : Nat} {w w' : World} {v : Value} {l : List α} (h : GrowL N C t base w v l) (hb : Below w.heap.size w w') : GrowL N C t base w' v l := by
  obtain ⟨css, T, h⟩ := h
  exact ⟨css, T, h.keep hC hb⟩
theorem GrowX.all {α : Type} {N : Nat} {C : World → (Nat → Prop) → List Value → α → Prop} {t : TypeId} {base : Nat} {w : World} {v : Value} {l : List α} {css : List (List Value)} {T : Nat → Nat → Prop} (h : GrowX N C t base w v l css T) : ∀ cs ∈ css, cs.length = N := by
  intro cs hcs
  obtain ⟨i, hi, rfl⟩ := List.mem_iff_getElem.1 hcs
  obtain ⟨c, h1, _, h3⟩ := h.has i (l[i]'(by rw [← h.len]; exact hi)) (List.getElem?_eq_getElem _)
  rw [List.getElem?_eq_getElem hi, Option.some.injEq] at h1
  rw [h1]; exact h3
theorem grown_turn {w w' : World} {row : Option Nat} (h : w.grownBy w' row) : Turn (fun k => row = some k) w w' :=
  ⟨h.os, h.tape, h.output, h.size, fun k hk hn => h.block k hk (fun e => hn e.symm)⟩
theorem grown_below {B : Nat} {w0 w w' : World} {row : Option Nat} (hb : Below B w0 w) (h : w.grownBy w' row) (hr : ∀ k, row = some k → B ≤ k) (hB : B ≤ w.heap.size) : Below B w0 w' :=
  hb.trans ⟨h.os, h.tape, h.output, h.size, fun k hk => h.block k (Nat.lt_of_lt_of_le hk hB) (fun e => by have := hr k e.symm; omega)⟩
theorem GrowX.step {α : Type} {N : Nat} {C : World → (Nat → Prop) → List Value → α → Prop} (hC : Keeps C) {t : TypeId} {base : Nat} {w w2 w' : World} {v v' : Value} {l : List α} {css : List (List Value)} {T : Nat → Nat → Prop} (h : GrowX N C t base w v l css T) (hbase : base ≤ w.heap.size)
    (hb : Below w.heap.size w w2) {S : Nat → Prop} {cs : List Value} {x : α} (hx : C w2 S cs x) (hS : ∀ k, S k → w.heap.size ≤ k ∧ k < w2.heap.size) (hn : cs.length = N)
    (how : w'.ownsRow base t N v' (l.length + 1) (css.flatten ++ cs)) (hg : w2.grownBy w' v.ownBlock) (hv : v'.ownBlock = v.ownBlock ∨ v'.ownBlock = some w2.heap.size) : GrowL N C t base w' v' (l ++ [x]) := by
  have hob : ∀ k, v.ownBlock = some k → k < w.heap.size := fun k e => (h.row.lt k e).2
  have ht := grown_turn hg
  have hsz := hb.size
  have hsz2 := hg.size
  refine ⟨css ++ [cs], fun i k => if i = l.length then S k else T i k, ⟨?_, by simp [h.len], ?_, ?_, ?_⟩⟩
  · simpa using how
  · intro i k hk
    by_cases hi : i = l.length
    · rw [if_pos hi] at hk
      have := hS k hk
      refine ⟨by omega, by omega, fun e => ?_⟩
      rcases hv with hv | hv
      · rw [hv] at e; have := hob k e; omega
      · rw [hv, Option.some.injEq] at e; omega
    · rw [if_neg hi] at hk
      have := h.off i k hk
      refine ⟨this.1, by omega, fun e => ?_⟩
      rcases hv with hv | hv
      · rw [hv] at e; exact this.2.2 e
      · rw [hv, Option.some.injEq] at e; omega
  · intro i j k hi hj
    by_cases ei : i = l.length <;> by_cases ej : j = l.length
    · rw [ei, ej]
    · rw [if_pos ei] at hi; rw [if_neg ej] at hj; have := hS k hi; have := (h.off j k hj).2.1; omega
    · rw [if_neg ei] at hi; rw [if_pos ej] at hj; have := hS k hj; have := (h.off i k hi).2.1; omega
    · rw [if_neg ei] at hi; rw [if_neg ej] at hj; exact h.one i j k hi hj
  · intro i y hy
    by_cases ei : i = l.length
    · subst ei
      rw [List.getElem?_append_right (Nat.le_refl _), Nat.sub_self] at hy
      simp only [List.getElem?_cons_zero, Option.some.injEq] at hy
      subst hy
      refine ⟨cs, by rw [← h.len, List.getElem?_append_right (Nat.le_refl _), Nat.sub_self]; rfl, ?_, hn⟩
      have e : (fun k => if l.length = l.length then S k else T l.length k) = S := funext fun k => if_pos rfl
      show C _ (fun k => if l.length = l.length then S k else T l.length k) cs _
      rw [e]
      exact hC w2 w' _ _ cs _ ht (fun k hk e => by have := hS k hk; have := hob k e; omega) hx
    · have hlt : i < l.length := by
        have := (List.getElem?_eq_some_iff.1 hy).1
        simp at this
        omega
      rw [List.getElem?_append_left hlt] at hy
      obtain ⟨c, h1, h2, h3⟩ := h.has i y hy
      refine ⟨c, by rw [List.getElem?_append_left (by rw [h.len]; exact hlt)]; exact h1, ?_, h3⟩
      have e : (fun k => if i = l.length then S k else T i k) = T i := funext fun k => if_neg ei
      show C _ (fun k => if i = l.length then S k else T i k) c _
      rw [e]
      exact hC w2 w' _ _ c _ ht (fun k hk e => (h.off i k hk).2.2 e) (hC w w2 _ _ c _ (Below.turn hb) none_off h2)
theorem GrowL.done {α : Type} {N : Nat} {C : World → (Nat → Prop) → List Value → α → Prop} {t : TypeId} {base : Nat} {w : World} {v : Value} {l : List α} (h : GrowL N C t base w v l) (hl : l.length ≤ 9223372036854775807) : LOw N C w (Within base w.heap.size) v l := by
  obtain ⟨css, T, h⟩ := h
  have hall := h.all
  obtain ⟨h1, h2⟩ := h.row
  rcases h2 with ⟨rfl, h0⟩ | ⟨g, cap, cur, rfl, hg, hh, hc, hm, hs, ht⟩
  · obtain rfl := List.length_eq_zero_iff.1 h0
    exact LOw.nil _ _ _ _ _ _
  · have hlt : g < w.heap.size := (Array.getElem?_eq_some_iff.1 hh).1
    have how : w.ownsRow base t N (.slice (some ⟨g, 0, none⟩) l.length cap) l.length css.flatten := ⟨h1, .inr ⟨g, cap, cur, rfl, hg, hh, hc, hm, hs, ht⟩⟩
    have hcell : ∀ j, j < l.length * N → w.cell? ⟨g, j, none⟩ = css.flatten[j]? := fun j hj => how.cellAt j hj
    refine ⟨_, cap, rfl, hl, .inr ⟨g, 0, T, rfl, ⟨hg, hlt⟩, ⟨hlt, fun j hj => ⟨?_, ?_⟩⟩, fun i k hk => ⟨⟨(h.off i k hk).1, (h.off i k hk).2.1⟩, fun e => (h.off i k hk).2.2 (by rw [e]; rfl)⟩, h.one, fun i x hx => ?_⟩⟩
    · rw [Nat.zero_add, hcell j hj, List.getElem?_eq_getElem (by rw [h1]; exact hj)]; rfl
    · rw [Nat.zero_add]; exact how.frozenAt j
    · obtain ⟨cs, g1, g2, g3⟩ := h.has i x hx
      refine ⟨cs, g2, fun j u hu => ?_⟩
      have hi : i < l.length := (List.getElem?_eq_some_iff.1 hx).1
      have hj : j < N := by rw [← g3]; exact (List.getElem?_eq_some_iff.1 hu).1
      have hin : i * N + N ≤ l.length * N := by rw [← Nat.succ_mul]; exact Nat.mul_le_mul_right N hi
      rw [Nat.zero_add, hcell (i * N + j) (by omega), flat_at css i j hall hj, g1]
      exact hu
/-- A row of elements that hang on nothing. -/
theorem own_flat {α : Type} {N : Nat} {C : World → (Nat → Prop) → List Value → α → Prop} {t : TypeId} {base : Nat} {w : World} {v : Value} {l : List α} {f : α → List Value} (h : w.ownsRow base t N v l.length (l.flatMap f)) (hf : ∀ x, (f x).length = N) (hC : ∀ x ∈ l, C w (fun _ => False) (f x) x) (hl : l.length ≤ 9223372036854775807) : LOw N C w (Within base w.heap.size) v l := by
  refine GrowL.done (t := t) ⟨l.map f, fun _ _ => False, ⟨?_, by simp, fun _ _ h => h.elim, fun _ _ _ h => h.elim, fun i x hx => ⟨f x, by simp [hx], hC x (List.mem_of_getElem? hx), hf x⟩⟩⟩ hl
  rw [← List.flatMap_def]; exact h
/-- The cells of a list of elements that hang on nothing, as they lie. -/
theorem flat_src {α : Type} {N : Nat} {w : World} {b o : Nat} {l : List α} {f : α → List Value} (hf : ∀ x, (f x).length = N) (hN : 0 < N) (h : ∀ (i : Nat) (x : α), l[i]? = some x → InB w b (o + i * N) (f x)) : ∀ j u, (l.flatMap f)[j]? = some u → w.cell? ((⟨b, o, none⟩ : Addr).add j) = some u := by
  intro j u hu
  have e : (⟨b, o, none⟩ : Addr).add j = ⟨b, o + j, none⟩ := by unfold Addr.add; split <;> simp_all
  rw [e]
  rw [List.flatMap_def] at hu
  have hj : j = (j / N) * N + j % N := by rw [Nat.mul_comm]; exact (Nat.div_add_mod j N).symm
  rw [hj, flat_at (N := N) (l.map f) (j / N) (j % N) (fun cs hcs => by obtain ⟨x, _, rfl⟩ := List.mem_map.1 hcs; exact hf x) (Nat.mod_lt _ hN)] at hu
  rw [List.getElem?_map] at hu
  cases hx : l[j / N]? with
  | none => rw [hx] at hu; simp at hu
  | some x =>
    rw [hx] at hu
    have := h (j / N) x hx (j % N) u (by simpa using hu)
    rw [show o + j = o + j / N * N + j % N by omega]
    exact this
theorem flatMap_len {α : Type} {N : Nat} (l : List α) (f : α → List Value) (hf : ∀ x, (f x).length = N) : (l.flatMap f).length = l.length * N := by
  induction l with
  | nil => simp
  | cons x r ih => rw [List.flatMap_cons, List.length_append, hf, ih, List.length_cons, Nat.succ_mul]; omega
theorem run_storePut {P : Program} (b o : Nat) : ∀ (vs : List Value) (j : Nat) (w : World), (∀ i, i < vs.length → (w.cell? ⟨b, o + j + i, none⟩).isSome = true ∧ w.frozen? ⟨b, o + j + i, none⟩ = false) → One vs →
    (storeCells ⟨b, o, none⟩ vs j).run P w = .ok () (putL b o vs j w)
  | [], j, w, _, _ => rfl
  | v :: r, j, w, hw, h1 => by
    have hadd : (⟨b, o, none⟩ : Addr).add j = ⟨b, o + j, none⟩ := by unfold Addr.add; split <;> simp_all
    have h0 := hw 0 (by simp)
    rw [Nat.add_zero] at h0
    obtain ⟨u, hu⟩ := Option.isSome_iff_exists.1 h0.1
    have hst : (store ((⟨b, o, none⟩ : Addr).add j) v).run P w = .ok () (w.setCell ⟨b, o + j, none⟩ v) := by
      rw [hadd, run_store P w _ v _ (h1 v (by simp)), hu]
      simp [h0.2]
    have ih := run_storePut (P := P) b o r (j + 1) (w.setCell ⟨b, o + j, none⟩ v) (fun i hi => by
      have h := hw (i + 1) (by simpa using hi)
      rw [show o + j + (i + 1) = o + (j + 1) + i by omega] at h
      refine ⟨?_, by simpa using h.2⟩
      rw [World.cell?_setCell_other _ _ _ _ (fun e => by injection e with e1 e2; omega)]
      exact h.1) (fun x hx => h1 x (by simp [hx]))
    simp only [storeCells, Sem.run_bind, hst, Result.andThen_ok, ih]
    rfl
/-- A copy of elements of many cells. -/
theorem run_copyN {P : Program} (w : World) (dT sT ty elem : TypeId) (N b o dLen dCap : Nat) (ad : Addr) (sLen sCap : Nat) (cs : List Value) (hu : P.underlying dT = some (.slice elem)) (hs : (P.info? elem).map (·.size) = some N)
    (hn : cs.length = Nat.min sLen dLen * N) (hsrc : ∀ j v, cs[j]? = some v → w.cell? (ad.add j) = some v) (hw : WrAt w b o cs.length) (h1 : One cs) :
    (Builtin.copy_ #[dT, sT] ty #[.slice (some ⟨b, o, none⟩) dLen dCap, .slice (some ad) sLen sCap]).run P w = .ok (goInt (Nat.min sLen dLen)) (putL b o cs 0 w) := by
  have hl := run_firstCells_some (P := P) w N (Nat.min sLen dLen) ad sLen sCap cs hn hsrc
  have hst := run_storePut (P := P) b o cs 0 w (fun i hi => by rw [Nat.add_zero]; exact hw.2 i hi) h1
  cases hq : P.info? elem with
  | none => simp [hq] at hs
  | some i =>
    have hi : i.size = N := by simpa [hq] using hs
    simp [Builtin.copy_, run_underlying hu, Builtin.lenOf, sizeOf, typeInfo, hq, hi, hl, hst]
theorem run_copy0 {P : Program} (w : World) (dT sT ty elem : TypeId) (N dLen dCap : Nat) (da sa : Option Addr) (sCap : Nat) (hu : P.underlying dT = some (.slice elem)) (hs : (P.info? elem).map (·.size) = some N) :
    (Builtin.copy_ #[dT, sT] ty #[.slice da dLen dCap, .slice sa 0 sCap]).run P w = .ok (goInt 0) w := by
  cases hq : P.info? elem with
  | none => simp [hq] at hs
  | some i =>
    cases da <;> cases sa <;> simp [Builtin.copy_, run_underlying hu, Builtin.lenOf, sizeOf, typeInfo, hq, Builtin.firstCells, loadCells, loadCellsFrom, storeCells]
theorem wpl_copy {P : Program} (w : World) {ops : Array Oper} {rest : List Oper} {o : Oper} {a : Act} {Q : Exit → Act → World → Prop} (hgd : o.guard = none) (d s : Operand) (t t' : TypeId)
    (ho : o.op = .call { callee := .builtin .copy, args := #[d, s], argTypes := #[t, t'] }) (v u : Value) (hd : a.eval d = v) (hs : a.eval s = u) {v' : Value} {w' : World}
    (hr : (Builtin.copy_ #[t, t'] o.type #[v, u]).run P w = .ok v' w') (h : wpList P ops Q rest (a.put o.dst v') w') : wpList P ops Q (o :: rest) a w := by
  refine wpList_plain hgd fun K hK => ?_
  unfold Oper.wp execOp
  simp only [ho, resolve, invoke, builtin, Sem.run_bind, Sem.run_pure, Result.andThen_ok, List.map_toArray, List.map_cons, List.map_nil, hd, hs, hr]
  exact hK _ _ h
end Go.Proofs.Ytjhlammjnggghaa
