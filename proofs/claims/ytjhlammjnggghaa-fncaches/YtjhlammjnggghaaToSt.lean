/-
  A struct that is copied field by field: what lies where, from statement to statement.
-/
import Derived.Test.YtjhlammjnggghaaAbs
namespace Go.Proofs.Ytjhlammjnggghaa
open Go.ChangeShapes Go.WideShapes Go.ChangeAt Go.RowKit
set_option linter.unusedVariables false
set_option maxRecDepth 100000

/-- Behind w: the parameter's block, the result's and the copy's, which are the first three. -/
def ToSt (w wk : World) (n : Nat) (pc oc : List Value) : Prop :=
  Below w.heap.size w wk ∧ w.heap.size + 3 ≤ wk.heap.size ∧ Held wk w.heap.size pc ∧ WrAt wk (w.heap.size + 1) 0 n ∧ Held wk (w.heap.size + 2) oc ∧ WrAt wk (w.heap.size + 2) 0 n
theorem ToSt.start (w : World) (n : Nat) (pc zc zd : List Value) (t u : TypeId) (hn : zc.length = n) (hm : zd.length = n) : ToSt w (((w.alloc (.cells pc.toArray t)).alloc (.cells zc.toArray u)).alloc (.cells zd.toArray u)) n pc zd := by
  refine ⟨bthen (bthen (bnew _ _) (bnew _ _)) (bnew _ _), by simp, ((Held.new w pc t).keep (bnew _ _)).keep (bnew _ _), ?_, ?_, ?_⟩
  · have := (WrAt.new (w.alloc (.cells pc.toArray t)) zc.toArray u n (by simpa using hn)).keep (bnew _ (.cells zd.toArray u)); simpa using this
  · have := Held.new ((w.alloc (.cells pc.toArray t)).alloc (.cells zc.toArray u)) zd u; simpa using this
  · have := WrAt.new ((w.alloc (.cells pc.toArray t)).alloc (.cells zc.toArray u)) zd.toArray u n (by simpa using hm); simpa using this
theorem ToSt.below {w wk : World} {n : Nat} {pc oc : List Value} (h : ToSt w wk n pc oc) : Below w.heap.size w wk := h.1
theorem ToSt.size {w wk : World} {n : Nat} {pc oc : List Value} (h : ToSt w wk n pc oc) : w.heap.size + 3 ≤ wk.heap.size := h.2.1
theorem ToSt.par {w wk : World} {n : Nat} {pc oc : List Value} (h : ToSt w wk n pc oc) (i : Nat) (v : Value) (hv : pc[i]? = some v) : wk.cell? ⟨w.heap.size, i, none⟩ = some v := h.2.2.1.2 i v hv
theorem ToSt.old {w wk : World} {n : Nat} {pc oc : List Value} (h : ToSt w wk n pc oc) (i : Nat) (v : Value) (hv : oc[i]? = some v) : wk.cell? ⟨w.heap.size + 2, i, none⟩ = some v := h.2.2.2.2.1.2 i v hv
theorem ToSt.free {w wk : World} {n : Nat} {pc oc : List Value} (h : ToSt w wk n pc oc) (i : Nat) (hi : i < n) : wk.frozen? ⟨w.heap.size + 2, i, none⟩ = false := by
  have := h.2.2.2.2.2.free i hi
  rwa [Nat.zero_add] at this
theorem sub_in {w : World} {b : Nat} {pc cs : List Value} (h : Held w b pc) (o : Nat) (hs : (pc.drop o).take cs.length = cs) : InB w b o cs := by
  intro i v hv
  refine h.2 (o + i) v ?_
  rw [← hs] at hv
  have hi : i < cs.length := by
    rcases Nat.lt_or_ge i cs.length with h | h
    · exact h
    · rw [List.getElem?_eq_none (by rw [List.length_take]; omega)] at hv; cases hv
  rw [List.getElem?_take_of_lt hi, List.getElem?_drop] at hv
  exact hv
theorem ToSt.parIn {w wk : World} {n : Nat} {pc oc : List Value} (h : ToSt w wk n pc oc) (o : Nat) (cs : List Value) (hs : (pc.drop o).take cs.length = cs) : InB wk w.heap.size o cs := sub_in h.2.2.1 o hs
theorem ToSt.wr {w wk : World} {n : Nat} {pc oc : List Value} (h : ToSt w wk n pc oc) (o m : Nat) (hm : o + m ≤ n) : WrAt wk (w.heap.size + 2) o m := by
  have := h.2.2.2.2.2.part o m hm
  rwa [Nat.zero_add] at this
theorem ToSt.turn {w wk w2 : World} {n : Nat} {pc oc oc2 : List Value} (h : ToSt w wk n pc oc) (ht : Turn (fun k => k = w.heap.size + 2) wk w2) (ho : Held w2 (w.heap.size + 2) oc2) (hw : WrAt w2 (w.heap.size + 2) 0 n) : ToSt w w2 n pc oc2 :=
  ⟨h.1.trans (ht.belowFrom h.1.size (fun k hk => by omega)), Nat.le_trans h.2.1 ht.size, h.2.2.1.turn ht (by omega), h.2.2.2.1.turn ht (by omega), ho, hw⟩
theorem ToSt.set {w wk : World} {n : Nat} {pc oc : List Value} (h : ToSt w wk n pc oc) (i : Nat) (v : Value) (hi : i < oc.length) : ToSt w (wk.setCell ⟨w.heap.size + 2, i, none⟩ v) n pc (oc.set i v) :=
  h.turn (Turn.set wk ⟨w.heap.size + 2, i, none⟩ v) (h.2.2.2.2.1.set i v hi) (h.2.2.2.2.2.set _ _)
/-- Values written over those of a list. -/
def over : List Value → Nat → List Value → List Value
  | oc, _, [] => oc
  | oc, o, v :: r => over (oc.set o v) (o + 1) r
theorem held_put {b : Nat} (vs : List Value) : ∀ (o j : Nat) (oc : List Value) (w : World), Held w b oc → o + j + vs.length ≤ oc.length → Held (putL b o vs j w) b (over oc (o + j) vs) := by
  induction vs with
  | nil => intro o j oc w h _; exact h
  | cons v r ih =>
    intro o j oc w h hl
    rw [List.length_cons] at hl
    have := ih o (j + 1) (oc.set (o + j) v) (w.setCell ⟨b, o + j, none⟩ v) (h.set (o + j) v (by omega)) (by rw [List.length_set]; omega)
    exact this
theorem ToSt.put {w wk : World} {n : Nat} {pc oc : List Value} (h : ToSt w wk n pc oc) (o : Nat) (cs : List Value) (hi : o + cs.length ≤ oc.length) : ToSt w (putL (w.heap.size + 2) o cs 0 wk) n pc (over oc o cs) :=
  h.turn (putL_turn _ _ _ _ _) (held_put cs o 0 oc wk h.2.2.2.2.1 (by omega)) (putL_wr cs 0 h.2.2.2.2.2)
theorem ToSt.call {w wk w2 : World} {n : Nat} {pc oc : List Value} (h : ToSt w wk n pc oc) (hb : Below wk.heap.size wk w2) : ToSt w w2 n pc oc :=
  ⟨bthen h.1 hb, Nat.le_trans h.2.1 hb.size, h.2.2.1.keep hb, h.2.2.2.1.keep hb, h.2.2.2.2.1.keep hb, h.2.2.2.2.2.keep hb⟩
theorem own_set {α : Type} {n : Nat} {C : World → (Nat → Prop) → List Value → α → Prop} (hC : Keeps C) {wk : World} {lo hi b i : Nat} {u v : Value} {l : List α} (h : LOw n C wk (Within lo hi) v l) (hlo : b < lo) : LOw n C (wk.setCell ⟨b, i, none⟩ u) (Within lo hi) v l :=
  h.turn hC (Turn.set wk ⟨b, i, none⟩ u) (fun k hk e => by have := hk.1; have e' : k = b := e; omega)
theorem own_put {α : Type} {n : Nat} {C : World → (Nat → Prop) → List Value → α → Prop} (hC : Keeps C) {wk : World} {lo hi b o : Nat} {cs : List Value} {v : Value} {l : List α} (h : LOw n C wk (Within lo hi) v l) (hlo : b < lo) : LOw n C (putL b o cs 0 wk) (Within lo hi) v l :=
  h.turn hC (putL_turn b o cs 0 wk) (fun k hk e => by have := hk.1; have e' : k = b := e; omega)
/-- The copy is laid into the result: it is what is handed back. -/
theorem ToSt.fin {w wk : World} {n : Nat} {pc oc : List Value} (h : ToSt w wk n pc oc) (hn : oc.length = n) : InB (putL (w.heap.size + 1) 0 oc 0 wk) (w.heap.size + 1) 0 oc ∧ Below w.heap.size w (putL (w.heap.size + 1) 0 oc 0 wk) ∧ Turn (fun k => k = w.heap.size + 1) wk (putL (w.heap.size + 1) 0 oc 0 wk) := by
  have ht := putL_turn (w.heap.size + 1) 0 oc 0 wk
  refine ⟨putL_at oc 0 h.2.2.2.1 (by omega) (by omega), h.1.trans (ht.belowFrom h.1.size (fun k hk => by omega)), ht⟩
theorem res_row {P : Program} {fn : Func} {tmps : Array Value} {w : World} {t : Tmp} {ty : TypeId} {b o : Nat} {cs : List Value} (hr : fn.results = #[.cell t ty]) (ht : tmps.getD t undef = .pointer (some ⟨b, o, none⟩)) (h : InB w b o cs) (hrow : RowT P ty cs.length) :
    (results fn tmps).run P w = .ok (.agg cs.toArray) w := by
  obtain ⟨d, hu, hd, hi⟩ := hrow
  have hl := run_loadVar_mid (P := P) w b o ty cs d h hu hd hi
  unfold results
  rw [hr]
  have ht' : tmps[t]?.getD undef = .pointer (some ⟨b, o, none⟩) := by simpa using ht
  simp [ht', asAddr, hl]

end Go.Proofs.Ytjhlammjnggghaa
