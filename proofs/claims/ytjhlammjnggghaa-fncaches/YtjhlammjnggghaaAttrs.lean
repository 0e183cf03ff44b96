/-
  Lists of Attrs in memory; contracts of the law's own sizes, copies and comparisons of them.
-/
import Derived.Test.YtjhlammjnggghaaAttr
namespace Go.Proofs.Ytjhlammjnggghaa
open Go.ChangeShapes Go.WideShapes Go.ChangeAt Go.RowKit
set_option linter.unusedVariables false
set_option maxRecDepth 100000

abbrev AttrD := ByteArray × Bool × Int × ByteArray
def dA : AttrD := (⟨#[]⟩, false, 0, ⟨#[]⟩)
def AttrAt (w : World) (b o : Nat) (x : AttrD) : Prop :=
  w.cell? ⟨b, o, none⟩ = some (.string x.1) ∧ w.cell? ⟨b, o + 1, none⟩ = some (.bool x.2.1) ∧ w.cell? ⟨b, o + 2, none⟩ = some (.int .i64 x.2.2.1) ∧ w.cell? ⟨b, o + 3, none⟩ = some (.string x.2.2.2)
def AttrWf (x : AttrD) : Prop := x.1.size ≤ maxLen ∧ x.2.2.2.size ≤ maxLen
def AttrsAt (w : World) (v : Value) (l : List AttrD) : Prop :=
  ∃ a cap, v = .slice a l.length cap ∧ l.length ≤ 9223372036854775807 ∧ (∀ x ∈ l, AttrWf x) ∧
    (l = [] ∨ ∃ b o, a = some ⟨b, o, none⟩ ∧ b < w.heap.size ∧ ∀ i, i < l.length → AttrAt w b (o + i * 4) (l.getD i dA))
theorem AttrsAt.keep {w w' : World} {v : Value} {l : List AttrD} (h : AttrsAt w v l) (hb : Below w.heap.size w w') : AttrsAt w' v l := by
  obtain ⟨a, cap, rfl, hl, hw, h⟩ := h
  refine ⟨a, cap, rfl, hl, hw, ?_⟩
  rcases h with h | ⟨b, o, h1, h2, h3⟩
  · exact .inl h
  · refine .inr ⟨b, o, h1, Nat.lt_of_lt_of_le h2 hb.size, fun i hi => ?_⟩
    obtain ⟨c0, c1, c2, c3⟩ := h3 i hi
    exact ⟨by rw [hb.cell h2]; exact c0, by rw [hb.cell h2]; exact c1, by rw [hb.cell h2]; exact c2, by rw [hb.cell h2]; exact c3⟩
theorem getD_mem {α : Type} (l : List α) (d : α) (i : Nat) (h : i < l.length) : l.getD i d ∈ l := by
  rw [List.getD_eq_getElem?_getD, List.getElem?_eq_getElem h]; exact List.getElem_mem h

def bytesA (l : List AttrD) : Nat := (l.map fun x => x.1.size + x.2.2.2.size).sum
theorem szv_pos {left : Int} {k t : ByteArray} (h : 0 ≤ szv left k t) : szv left k t = left - k.size - t.size := by
  unfold szv at h ⊢
  by_cases h1 : left < k.size
  · rw [if_pos h1] at h; omega
  · rw [if_neg h1] at h ⊢
    by_cases h2 : left - k.size < t.size
    · rw [if_pos h2] at h; omega
    · rw [if_neg h2]

theorem bytesA_snoc (l : List AttrD) (k : Nat) (h : k < l.length) : bytesA (l.take (k + 1)) = bytesA (l.take k) + ((l.getD k dA).1.size + (l.getD k dA).2.2.2.size) := by
  unfold bytesA
  rw [List.take_succ_eq_append_getElem h, List.map_append, List.sum_append]
  simp [List.getD, h]

set_option maxHeartbeats 1000000 in
theorem lawSzAttrS (l : List AttrD) (v : Value) (left : Int) (w : World) (h0 : 0 ≤ left) (h1 : left ≤ 1048576) (ha : AttrsAt w v l) :
    Calls Try.prog 92 #[v, .int .i64 left] w fun e w' => (∃ z : Int, e = .returned (.int .i64 z) ∧ (z < 0 ∨ (0 ≤ z ∧ z + l.length + bytesA l ≤ left))) ∧ Below w.heap.size w w' := by
  obtain ⟨a, cap, rfl, hl, hwf, h⟩ := ha
  by_cases hlen : left < l.length
  case pos =>
    go_enter Try.func92, Try.ntmps92
    go_wp2
    go_ret
    exact ⟨⟨_, rfl, .inl (by omega)⟩, by (repeat (first | with_reducible assumption | with_reducible exact Below.refl _ _ | with_reducible refine Below.drew ?_ | with_reducible refine bdrewN ?_ _ | (with_reducible refine Below.alloc ?_ ?side _; case side => (first | omega | (simp [go_sem]; done) | (simp [go_sem]; omega))) | (with_reducible refine Below.setCell ?_ ?side _; case side => (first | omega | (simp [go_sem]; done) | (simp [go_sem]; omega)))))⟩
  go_enter Try.func92, Try.ntmps92
  go_wp2
  go_loopw [1, 5] (fun z i wk => ∃ (k : Nat) (zz : Int), k ≤ l.length ∧ i = .int .i64 k ∧ z = .int .i64 zz ∧ 0 ≤ zz ∧ zz + l.length + bytesA (l.take k) ≤ left ∧ Below w.heap.size w wk) (fun _ i _ => l.length - (intOf i).toNat)
  case atStart => exact ⟨0, left - l.length, Nat.zero_le _, rfl, by go_num, by omega, by simp [bytesA], Below.refl _ _⟩
  case round =>
    obtain ⟨k, zz, hk, rfl, rfl, hz, hsum, hbl⟩ := hrel
    have hbs := hbl.size
    by_cases hlt : k < l.length
    · rcases h with h | ⟨b, o, rfl, hbk, hcell⟩
      · subst h; simp at hlt
      have hx := hcell k hlt
      have hxw := hwf _ (getD_mem l dA k hlt)
      have hby : bytesA (l.take (k + 1)) = bytesA (l.take k) + ((l.getD k dA).1.size + (l.getD k dA).2.2.2.size) := bytesA_snoc l k hlt
      generalize l.getD k dA = x at hx hxw hby
      obtain ⟨kk, bb, nn, tt⟩ := x
      obtain ⟨c0, c1, c2, c3⟩ := hx
      obtain ⟨hxk, hxt⟩ := hxw
      simp only at c0 c1 c2 c3 hxk hxt hby
      rw [← hbl.cell hbk] at c0 c1 c2 c3
      have hki : (k : Int) < (l.length : Int) := by omega
      have HC := hide hcell
      clear hcell hwf
      go_wp2_with fail
      refine (lawSzAttr kk bb nn tt zz _ hz (by omega) hxk hxt).mono ?_
      rintro e w2 ⟨rfl, rfl⟩
      by_cases hneg : szv zz kk tt < 0
      · generalize szv zz kk tt = z2 at *
        go_wp2
        go_ret
        exact ⟨⟨_, rfl, .inl (by omega)⟩, by (repeat (first | with_reducible assumption | with_reducible exact Below.refl _ _ | with_reducible refine Below.drew ?_ | with_reducible refine bdrewN ?_ _ | (with_reducible refine Below.alloc ?_ ?side _; case side => (first | omega | (simp [go_sem]; done) | (simp [go_sem]; omega))) | (with_reducible refine Below.setCell ?_ ?side _; case side => (first | omega | (simp [go_sem]; done) | (simp [go_sem]; omega)))))⟩
      · have hz2 := szv_pos (left := zz) (k := kk) (t := tt) (by omega)
        generalize szv zz kk tt = z2 at *
        go_wp2
        go_roundw
        case rel => exact ⟨k + 1, z2, by omega, by go_num, by rw [hz2], by omega, by omega, by (repeat (first | with_reducible assumption | with_reducible exact Below.refl _ _ | with_reducible refine Below.drew ?_ | with_reducible refine bdrewN ?_ _ | (with_reducible refine Below.alloc ?_ ?side _; case side => (first | omega | (simp [go_sem]; done) | (simp [go_sem]; omega))) | (with_reducible refine Below.setCell ?_ ?side _; case side => (first | omega | (simp [go_sem]; done) | (simp [go_sem]; omega)))))⟩
        case measure => simp [intOf]; omega
    · have e : l.take k = l := List.take_of_length_le (by omega)
      rw [e] at hsum
      have hki : ¬ (k : Int) < (l.length : Int) := by omega
      go_wp2
      go_ret
      exact ⟨⟨_, rfl, .inr ⟨hz, hsum⟩⟩, hbl⟩

/-- A row of cells made by a call: all of its cells are there, and may be written. -/
def Row (w : World) (b n : Nat) : Prop := b < w.heap.size ∧ ∀ j, j < n → (w.cell? ⟨b, j, none⟩).isSome = true ∧ w.frozen? ⟨b, j, none⟩ = false
theorem Row.keep {w w' : World} {b n : Nat} (h : Row w b n) (hb : Below w.heap.size w w') : Row w' b n :=
  ⟨Nat.lt_of_lt_of_le h.1 hb.size, fun j hj => ⟨by rw [hb.cell (p := ⟨b, j, none⟩) h.1]; exact (h.2 j hj).1, by rw [hb.frozen (p := ⟨b, j, none⟩) h.1]; exact (h.2 j hj).2⟩⟩
theorem Row.set {w : World} {b n : Nat} (h : Row w b n) (p : Addr) (u : Value) : Row (w.setCell p u) b n := by
  refine ⟨by simpa using h.1, fun j hj => ⟨?_, by simpa using (h.2 j hj).2⟩⟩
  by_cases hp : p = ⟨b, j, none⟩
  · subst hp; rw [World.cell?_setCell_same' _ _ _ (h.2 j hj).1]; rfl
  · rw [World.cell?_setCell_other (h := hp)]; exact (h.2 j hj).1
theorem Row.new {w : World} {c : Array Value} {t : TypeId} {n : Nat} (hc : c.size = n) : Row (w.alloc (.cells c t)) w.heap.size n := by
  refine ⟨by simp, fun j hj => ⟨?_, by simp [go_sem]⟩⟩
  rw [World.cell?_alloc_at _ _ _ _ rfl, Array.getElem?_eq_getElem (by omega)]; rfl
theorem Row.cell {w : World} {b n : Nat} (h : Row w b n) (j : Nat) (hj : j < n) : ∃ u, w.cell? ⟨b, j, none⟩ = some u := Option.isSome_iff_exists.1 (h.2 j hj).1
theorem infoAttr : (Try.prog.info? 180).map (fun i => (i.zero, i.size, i.bytes)) = some (some (.agg #[.string ⟨#[]⟩, .bool false, .int .i64 0, .string ⟨#[]⟩]), 4, 48) := by kernel_rfl
theorem makeAttrs (n : Nat) (hn : n ≤ 1048576) (w : World) : ∃ w0, (Instr.makeSlice 31 (.int .i64 n) (.int .i64 n)).run Try.prog w = .ok (.slice (some ⟨w.heap.size, 0, none⟩) n n) w0 ∧ Row w0 w.heap.size (n * 4) ∧ Below w.heap.size w w0 := by
  obtain ⟨i0, hi, hz0, hz1, hz2⟩ := info_parts infoAttr
  have h := run_make (P := Try.prog) w 31 180 i0 _ Try.underlying31 hi hz0 .i64 .i64 n n (by omega) (by omega) (by rw [hz2]; omega) (by omega)
  refine ⟨_, h, ?_, bnew _ _⟩
  rw [hz1]
  exact Row.new (by rw [size_madeCells]; simp)
theorem AttrAt.keep {w w' : World} {b o : Nat} {x : AttrD} (hb : b < w.heap.size) (h : Below w.heap.size w w') (ha : AttrAt w b o x) : AttrAt w' b o x :=
  ⟨by rw [h.cell hb]; exact ha.1, by rw [h.cell hb]; exact ha.2.1, by rw [h.cell hb]; exact ha.2.2.1, by rw [h.cell hb]; exact ha.2.2.2⟩
theorem cell_off {w : World} {u : Value} {b i j : Nat} (h : i ≠ j) : (w.setCell ⟨b, i, none⟩ u).cell? ⟨b, j, none⟩ = w.cell? ⟨b, j, none⟩ :=
  World.cell?_setCell_other _ _ _ _ (fun e => h (by injection e))
theorem put4_at {w : World} {b m o : Nat} {k : ByteArray} {bb : Bool} {n : Int} {t : ByteArray} (hr : Row w b m) (ho : o + 3 < m) :
    AttrAt ((((w.setCell ⟨b, o, none⟩ (.string k)).setCell ⟨b, o + 1, none⟩ (.bool bb)).setCell ⟨b, o + 2, none⟩ (.int .i64 n)).setCell ⟨b, o + 3, none⟩ (.string t)) b o (k, bb, n, t) := by
  have e0 := (hr.2 o (by omega)).1
  have e1 := ((hr.set ⟨b, o, none⟩ (.string k)).2 (o + 1) (by omega)).1
  have e2 := (((hr.set ⟨b, o, none⟩ (.string k)).set ⟨b, o + 1, none⟩ (.bool bb)).2 (o + 2) (by omega)).1
  have e3 := ((((hr.set ⟨b, o, none⟩ (.string k)).set ⟨b, o + 1, none⟩ (.bool bb)).set ⟨b, o + 2, none⟩ (.int .i64 n)).2 (o + 3) (by omega)).1
  refine ⟨?_, ?_, ?_, ?_⟩
  · rw [cell_off (by omega), cell_off (by omega), cell_off (by omega), World.cell?_setCell_same' _ _ _ e0]
  · rw [cell_off (by omega), cell_off (by omega), World.cell?_setCell_same' _ _ _ e1]
  · rw [cell_off (by omega), World.cell?_setCell_same' _ _ _ e2]
  · rw [World.cell?_setCell_same' _ _ _ e3]
theorem put4_keep {w : World} {b o i : Nat} {k : ByteArray} {bb : Bool} {n : Int} {t : ByteArray} {x : AttrD} (ho : i + 4 ≤ o ∨ o + 4 ≤ i) (h : AttrAt w b i x) :
    AttrAt ((((w.setCell ⟨b, o, none⟩ (.string k)).setCell ⟨b, o + 1, none⟩ (.bool bb)).setCell ⟨b, o + 2, none⟩ (.int .i64 n)).setCell ⟨b, o + 3, none⟩ (.string t)) b i x := by
  obtain ⟨h0, h1, h2, h3⟩ := h
  refine ⟨?_, ?_, ?_, ?_⟩ <;>
  · rw [cell_off (by omega), cell_off (by omega), cell_off (by omega), cell_off (by omega)]
    assumption
set_option maxHeartbeats 1000000 in
theorem lawToAttrS (l : List AttrD) (v : Value) (w : World) (h1 : l.length ≤ 1048576) (ha : AttrsAt w v l) :
    Calls Try.prog 97 #[v] w fun e w' => ∃ b, e = .returned (.slice (some ⟨b, 0, none⟩) l.length l.length) ∧ w.heap.size ≤ b ∧ AttrsAt w' (.slice (some ⟨b, 0, none⟩) l.length l.length) l ∧ Below w.heap.size w w' := by
  obtain ⟨a, cap, rfl, hl, hwf, h⟩ := ha
  have HW := hide hwf
  obtain ⟨w0, hmk, hrow, hb0⟩ := makeAttrs l.length h1 w
  go_enter Try.func97, Try.ntmps97
  go_wp2
  go_loopw [4] (fun i wk => ∃ k : Nat, k ≤ l.length ∧ i = .int .i64 k ∧ Below w.heap.size w wk ∧ Row wk w.heap.size (l.length * 4) ∧ ∀ j, j < k → AttrAt wk w.heap.size (j * 4) (l.getD j dA)) (fun i _ => l.length - (intOf i).toNat)
  case atStart => exact ⟨0, Nat.zero_le _, rfl, hb0, hrow, fun j hj => absurd hj (Nat.not_lt_zero _)⟩
  case round =>
    obtain ⟨k, hk, rfl, hbl, hr, hdone⟩ := hrel
    have hbs := hbl.size
    by_cases hlt : k < l.length
    · rcases h with h | ⟨b, o, rfl, hbk, hcell⟩
      · subst h; simp at hlt
      have hx := hcell k hlt
      generalize hX : l.getD k dA = x at hx
      have HX := hide hX
      clear hX
      obtain ⟨kk, bb, nn, tt⟩ := x
      obtain ⟨c0, c1, c2, c3⟩ := hx
      simp only at c0 c1 c2 c3
      rw [← hbl.cell hbk] at c0 c1 c2 c3
      have hki : (k : Int) < (l.length : Int) := by omega
      obtain ⟨u0, hu0⟩ := hr.cell (k * 4) (by omega)
      obtain ⟨u1, hu1⟩ := hr.cell (k * 4 + 1) (by omega)
      obtain ⟨u2, hu2⟩ := hr.cell (k * 4 + 2) (by omega)
      obtain ⟨u3, hu3⟩ := hr.cell (k * 4 + 3) (by omega)
      have f0 := (hr.2 (k * 4) (by omega)).2
      have f1 := (hr.2 (k * 4 + 1) (by omega)).2
      have f2 := (hr.2 (k * 4 + 2) (by omega)).2
      have f3 := (hr.2 (k * 4 + 3) (by omega)).2
      have hrs := hr.1
      have HC := hide hcell
      have HR := hide hr
      have HD := hide hdone
      clear hcell hwf hr hdone hmk
      go_wp2_with fail
      refine (lawToAttr' kk bb nn tt _).mono ?_
      rintro e w2 ⟨rfl, hb2⟩
      rw [← hb2.cell hrs] at hu0 hu1 hu2 hu3
      rw [← hb2.frozen hrs] at f0 f1 f2 f3
      have hrs2 := Nat.lt_of_lt_of_le hrs hb2.size
      have HB := hide hb2
      clear hb2 c0 c1 c2 c3
      go_wp2
      go_roundw
      case rel =>
        have hb2 := unhide HB
        have hr2 := (unhide HR).keep hb2
        refine ⟨k + 1, by omega, by go_num, ?_, ?_, ?_⟩
        · exact ((((bthen hbl hb2).setCell (Nat.le_refl _) _).setCell (Nat.le_refl _) _).setCell (Nat.le_refl _) _).setCell (Nat.le_refl _) _
        · exact (((hr2.set _ _).set _ _).set _ _).set _ _
        · intro j hj
          by_cases hjk : j = k
          · subst hjk
            rw [unhide HX]
            exact put4_at hr2 (by omega)
          · exact put4_keep (by omega) (AttrAt.keep hrs hb2 (unhide HD j (by omega)))
      case measure => simp [intOf]; omega
    · have hki : ¬ (k : Int) < (l.length : Int) := by omega
      go_wp2
      go_ret
      obtain rfl : k = l.length := by omega
      exact ⟨_, rfl, Nat.le_refl _, ⟨_, _, rfl, hl, unhide HW, .inr ⟨_, _, rfl, hr.1, fun i hi => by rw [Nat.zero_add]; exact hdone i hi⟩⟩, hbl⟩

end Go.Proofs.Ytjhlammjnggghaa
