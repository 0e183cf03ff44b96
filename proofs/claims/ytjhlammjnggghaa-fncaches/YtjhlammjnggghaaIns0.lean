/-
  append(append(append(new, l[:k]...), x), l[k:]...): what holds between its steps, in whatever order the two new lists are laid.
-/
import Derived.Test.YtjhlammjnggghaaGrow2
import Derived.Test.YtjhlammjnggghaaForg0
import Derived.Deep.RegionHeld3
namespace Go.Proofs.Ytjhlammjnggghaa
open Go.ChangeShapes Go.WideShapes Go.ChangeAt Go.RowKit
set_option linter.unusedVariables false
set_option maxRecDepth 100000

theorem step_append2 {P : Program} {w : World} {ops : Array Oper} {o : Oper} {a : Act} {K : Act → World → Prop} {Q : Exit → Act → World → Prop} {E : Prop} (hgd : o.guard = none) (s x : Operand) (t : TypeId)
    (ho : o.op = .call { callee := .builtin .append, args := #[s, x], argTypes := #[t, t] })
    (base : Nat) (e : TypeId) (z : Value) (size bytes : Nat) (ht : P.underlying t = some (.slice e)) (hinf : (P.info? e).map (fun i => (i.zero, i.size, i.bytes)) = some (some z, size, bytes)) (hzs : z.cells.size = size) (hsz : 0 < size)
    (v : Value) (n : Nat) (xs : List Value) (hs : a.eval s = v) (hown : w.ownsRow base e size v n xs)
    (ad : Addr) (m c : Nat) (news : List Value) (hx : a.eval x = .slice (some ad) m c) (hl : news.length = m * size) (hnews : ∀ j u, news[j]? = some u → w.cell? (ad.add j) = some u) (h1 : ∀ u ∈ news, u.oneCell' = true)
    (h63 : n + m ≤ maxLen) (hbytes : (n + m) * bytes ≤ 140737488355328) (hbase : base ≤ w.heap.size)
    (h : ∀ v' w', w'.ownsRow base e size v' (n + m) (xs ++ news) → w.grownBy w' v.ownBlock → (v'.ownBlock = v.ownBlock ∨ v'.ownBlock = some w.heap.size) → K (a.put o.dst v') w') :
    if Region.wanted o (yielded ops a.tmps) = true then Oper.wp P o a w K Q else E := by
  have hw : Region.wanted o (yielded ops a.tmps) = true := by simp [Region.wanted, hgd]
  rw [if_pos hw]
  obtain ⟨i, hi, hz, h2, h3⟩ := info_parts hinf
  obtain ⟨v', w', hr, g2, g3, g4⟩ := run_append2 (P := P) w base t o.type e i z size bytes ht hi hz h2 h3 hzs hsz v n xs hown ad m c news hl hnews h1 h63 hbytes hbase
  unfold Oper.wp execOp
  simp only [ho, resolve, invoke, builtin, Sem.run_bind, Sem.run_pure, Result.andThen_ok, List.map_toArray, List.map_cons, List.map_nil, hs, hx, hr]
  exact h v' w' g2 g3 g4
structure InA (t : TypeId) (N : Nat) (w1 wc : World) (v : Value) (n : Nat) (xs : List Value) : Prop where
  row : wc.ownsRow w1.heap.size t N v n xs
  bel : Below w1.heap.size w1 wc
structure InX (w1 wc : World) (bx : Nat) (cs : List Value) : Prop where
  lo : w1.heap.size ≤ bx
  hi : bx < wc.heap.size
  cell : ∀ j u, cs[j]? = some u → wc.cell? ((⟨bx, 0, none⟩ : Addr).add j) = some u
  bel : Below w1.heap.size w1 wc
variable {t : TypeId} {N : Nat} {w1 wc w' : World} {v v' : Value} {n m bx : Nat} {xs news cs : List Value}
theorem size_of_held {B : Nat} {w1 wc : World} (h : Below w1.heap.size w1 wc) (hB : wc.heap.size = B) : Hid (wc.heap.size = B) := hB
theorem InA.le (h : InA t N w1 wc v n xs) : w1.heap.size ≤ wc.heap.size := h.bel.size
theorem InA.start (hb : Below w1.heap.size w1 wc) : InA t N w1 (wc.alloc (.cells #[] t)) (.slice (some ⟨wc.heap.size, 0, none⟩) 0 0) 0 [] :=
  ⟨World.ownsRow_made wc #[] 0 hb.size (by unfold maxLen; omega) (by simp), bthen hb (bnew wc _)⟩
theorem InA.alloc (h : InA t N w1 wc v n xs) (o : Obj) : InA t N w1 (wc.alloc o) v n xs := ⟨owns_below h.row (bnew wc o), bthen h.bel (bnew wc o)⟩
theorem InX.start (hb : Below w1.heap.size w1 wc) (cs : Array Value) (t : TypeId) : InX w1 (wc.alloc (.cells cs t)) wc.heap.size cs.toList :=
  ⟨hb.size, by simp, fun j u hu => by
    have := (lit_cells4 wc cs.toList t) j u hu
    simpa using this, bthen hb (bnew wc _)⟩
theorem InX.alloc (h : InX w1 wc bx cs) (o : Obj) : InX w1 (wc.alloc o) bx cs :=
  ⟨h.lo, by simp; have := h.hi; omega, fun j u hu => by
    have hc := h.cell j u hu
    rw [(bnew wc o).cell (by rw [block_add]; exact h.hi)]
    exact hc, bthen h.bel (bnew wc o)⟩
theorem InA.apart (h : InA t N w1 wc v n xs) : v.ownBlock ≠ some wc.heap.size := fun e => by have := (h.row.lt _ e).2; omega
theorem InX.apart (h : InX w1 wc bx cs) : (Value.slice (some ⟨wc.heap.size, 0, none⟩) 0 0).ownBlock ≠ some bx := fun e => by
  simp only [Value.ownBlock, Option.some.injEq] at e
  have := h.hi
  omega
theorem InA.start2 {B : Nat} (hb : Below w1.heap.size w1 wc) (hB : wc.heap.size = B) : InA t N w1 (wc.alloc (.cells #[] t)) (.slice (some ⟨B, 0, none⟩) 0 0) 0 [] := by subst hB; exact InA.start hb
theorem InX.start2 {B : Nat} (hb : Below w1.heap.size w1 wc) (hB : wc.heap.size = B) (cs : Array Value) (t : TypeId) : InX w1 (wc.alloc (.cells cs t)) B cs.toList := by subst hB; exact InX.start hb cs t
theorem InA.apart2 {B : Nat} (h : InA t N w1 wc v n xs) (hB : wc.heap.size = B) : v.ownBlock ≠ some B := by subst hB; exact h.apart
theorem InX.apart2 {B : Nat} (h : InX w1 wc bx cs) (hB : wc.heap.size = B) : (Value.slice (some ⟨B, 0, none⟩) 0 0).ownBlock ≠ some bx := by subst hB; exact h.apart
theorem InA.app (h : InA t N w1 wc v n xs) (how : w'.ownsRow w1.heap.size t N v' (n + m) (xs ++ news)) (hg : wc.grownBy w' v.ownBlock) : InA t N w1 w' v' (n + m) (xs ++ news) :=
  ⟨how, grown_below h.bel hg (fun k hk => (h.row.lt k hk).1) h.le⟩
theorem InX.app (h : InX w1 wc bx cs) (ha : InA t N w1 wc v n xs) (hne : v.ownBlock ≠ some bx) (hg : wc.grownBy w' v.ownBlock) : InX w1 w' bx cs :=
  ⟨h.lo, Nat.lt_of_lt_of_le h.hi hg.size, fun j u hu => hg.cell (h.cell j u hu) (by rw [block_add]; exact fun e => hne e.symm), grown_below h.bel hg (fun k hk => (ha.row.lt k hk).1) ha.le⟩
theorem ne_app (hx : InX w1 wc bx cs) (hne : v.ownBlock ≠ some bx) (hv : v'.ownBlock = v.ownBlock ∨ v'.ownBlock = some wc.heap.size) : v'.ownBlock ≠ some bx := by
  rcases hv with h | h
  · rw [h]; exact hne
  · rw [h, ne_eq, Option.some.injEq]; have := hx.hi; omega
theorem news_old {ad : Addr} (hb : Below w1.heap.size w1 wc) (hlt : ad.block < w1.heap.size) (h : ∀ j u, cs[j]? = some u → w1.cell? (ad.add j) = some u) : ∀ j u, cs[j]? = some u → wc.cell? (ad.add j) = some u := fun j u hu => by
  rw [hb.cell (by rw [block_add]; exact hlt)]
  exact h j u hu
theorem row_parts {w : World} {base g k cap : Nat} {xs : List Value} (h : w.ownsRow base t N (.slice (some ⟨g, 0, none⟩) n cap) n xs) (hk : k ≤ n) :
    (∀ j u, (xs.take (k * N))[j]? = some u → w.cell? ((⟨g, 0, none⟩ : Addr).add j) = some u) ∧ (∀ j u, (xs.drop (k * N))[j]? = some u → w.cell? ((⟨g, k * N, none⟩ : Addr).add j) = some u) ∧ (xs.take (k * N)).length = k * N ∧ (xs.drop (k * N)).length = (n - k) * N := by
  have hc := h.cells (g := g) rfl
  have hl := h.1
  have hm : k * N ≤ n * N := Nat.mul_le_mul_right _ hk
  refine ⟨fun j u hu => ?_, fun j u hu => ?_, by rw [List.length_take]; omega, by rw [List.length_drop, hl, Nat.sub_mul]⟩
  · rw [List.getElem?_take] at hu
    split at hu
    · exact hc j u hu
    · cases hu
  · rw [List.getElem?_drop] at hu
    have h2 := hc (k * N + j) u hu
    have e : (⟨g, k * N, none⟩ : Addr).add j = (⟨g, 0, none⟩ : Addr).add (k * N + j) := by
      unfold Addr.add
      by_cases hj : j = 0
      · subst hj
        by_cases hk0 : k * N = 0
        · rw [hk0]
        · rw [if_pos rfl, if_neg (by omega)]; simp
      · rw [if_neg hj, if_neg (by omega)]; simp
    rw [e]; exact h2
theorem row_parts2 {w : World} {base g k cap : Nat} {xs : List Value} (h : w.ownsRow base t N (.slice (some ⟨g, 0, none⟩) n cap) n xs) (hk : k ≤ n) (hN : 0 < N) :
    ∀ j u, (xs.drop (k * N))[j]? = some u → w.cell? ((if cap = k then (⟨g, 0, none⟩ : Addr) else ⟨g, k * N, none⟩).add j) = some u := by
  intro j u hu
  have hp := (row_parts h hk).2.1 j u hu
  by_cases hc : cap = k
  · exfalso
    rcases h.2 with ⟨h2, _⟩ | ⟨g', cap', cur, hv, hb, hh, hn, hc', hs, ht⟩
    · cases h2
    injection hv with e1 e2 e3
    have hl := h.1
    have : (xs.drop (k * N)).length = 0 := by rw [List.length_drop, hl, show n = k by omega]; omega
    rw [List.length_eq_zero_iff] at this
    rw [this] at hu
    simp at hu
  · rw [if_neg hc]; exact hp
end Go.Proofs.Ytjhlammjnggghaa
