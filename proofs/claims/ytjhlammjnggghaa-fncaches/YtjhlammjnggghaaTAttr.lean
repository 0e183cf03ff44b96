/-
  Attr: what lies in memory, read and owned; contracts of the law's own sizes, copies and comparisons.
-/
import Derived.Test.YtjhlammjnggghaaAttrs2
import Derived.Test.YtjhlammjnggghaaMem
import Derived.Deep.CutRange
namespace Go.Proofs.Ytjhlammjnggghaa
open Go.ChangeShapes Go.WideShapes Go.ChangeAt Go.RowKit
set_option linter.unusedVariables false
set_option maxRecDepth 100000

def attrBulk (x : AttrD) : Nat := x.1.size + x.2.2.2.size
def attrR (w : World) (S : Nat → Prop) (cs : List Value) (x : AttrD) : Prop := cs = [.string x.1, .bool x.2.1, .int .i64 x.2.2.1, .string x.2.2.2] ∧ x.1.size ≤ maxLen ∧ x.2.2.2.size ≤ maxLen
def attrO (w : World) (S : Nat → Prop) (cs : List Value) (x : AttrD) : Prop := cs = [.string x.1, .bool x.2.1, .int .i64 x.2.2.1, .string x.2.2.2] ∧ x.1.size ≤ maxLen ∧ x.2.2.2.size ≤ maxLen
theorem attrR_keeps : Keeps attrR := fun _ _ _ _ _ _ _ _ h => h
theorem attrR_widens : Widens attrR := fun _ _ _ _ _ _ h => h
theorem attrO_keeps : Keeps attrO := fun _ _ _ _ _ _ _ _ h => h
theorem attrO_widens : Widens attrO := fun _ _ _ _ _ _ h => h
theorem attrO_read (w : World) (S : Nat → Prop) (cs : List Value) (x : AttrD) (h : attrO w S cs x) : attrR w S cs x := h
theorem attrO_len {w : World} {S : Nat → Prop} {cs : List Value} {x : AttrD} (h : attrO w S cs x) : cs.length = 4 := by
  obtain ⟨rfl, _, _⟩ := h; rfl

theorem mSzAttr (x : AttrD) (S : Nat → Prop) (cs : List Value) (left : Int) (w : World) (h0 : 0 ≤ left) (h1 : left ≤ 1048576) (hx : attrR w S cs x) :
    Calls Try.prog 175 #[.agg cs.toArray, .int .i64 left] w fun e w' => (∃ z : Int, e = .returned (.int .i64 z) ∧ (z < 0 ∨ (0 ≤ z ∧ z + attrBulk x ≤ left))) ∧ Below w.heap.size w w' := by
  obtain ⟨rfl, q0, q1⟩ := hx
  refine (lawSzAttr x.1 x.2.1 x.2.2.1 x.2.2.2 left w h0 h1 q0 q1).mono ?_
  rintro e w' ⟨rfl, rfl⟩
  refine ⟨⟨_, rfl, ?_⟩, bnew _ _⟩
  by_cases h : szv left x.1 x.2.2.2 < 0
  · exact .inl h
  · have := szv_pos (left := left) (k := x.1) (t := x.2.2.2) (by omega)
    refine .inr ⟨by omega, ?_⟩
    unfold attrBulk
    omega
set_option maxHeartbeats 4000000 in
theorem mToAttr (x : AttrD) (S : Nat → Prop) (cs : List Value) (w : World) (hb : attrBulk x ≤ 1048576) (hx : attrR w S cs x) :
    Calls Try.prog 176 #[.agg cs.toArray] w fun e w' => ∃ cs', e = .returned (.agg cs'.toArray) ∧ attrO w' (Within w.heap.size w'.heap.size) cs' x ∧ Below w.heap.size w w' := by
  obtain ⟨rfl, q0, q1⟩ := hx
  go_enter Try.func176, Try.ntmps176
  go_wp2
  exact bodyPost_ret (v := .agg #[.string x.1, .bool x.2.1, .int .i64 x.2.2.1, .string x.2.2.2]) (by simp [results, Try.results176, go_sem]) rfl ⟨_, rfl, ⟨rfl, q0, q1⟩, by (repeat (first | with_reducible assumption | with_reducible exact Below.refl _ _ | with_reducible refine Below.drew ?_ | with_reducible refine bdrewN ?_ _ | (with_reducible refine Below.alloc ?_ ?side _; case side => (first | omega | (simp [go_sem]; done) | (simp [go_sem]; omega))) | (with_reducible refine Below.setCell ?_ ?side _; case side => (first | omega | (simp [go_sem]; done) | (simp [go_sem]; omega)))))⟩

set_option maxHeartbeats 4000000 in
theorem mEqAttr (x : AttrD) (S S' : Nat → Prop) (cs cs' : List Value) (w : World) (hx : attrR w S cs x) (hy : attrR w S' cs' x) :
    Calls Try.prog 180 #[.agg cs.toArray, .agg cs'.toArray] w fun e w' => e = .returned (.bool true) ∧ Below w.heap.size w w' := by
  obtain ⟨rfl, q0, q1⟩ := hx
  obtain ⟨rfl, qy0, qy1⟩ := hy
  go_enter Try.func180, Try.ntmps180
  go_wp2
  go_ret
  exact ⟨rfl, by (repeat (first | with_reducible assumption | with_reducible exact Below.refl _ _ | with_reducible refine Below.drew ?_ | with_reducible refine bdrewN ?_ _ | (with_reducible refine Below.alloc ?_ ?side _; case side => (first | omega | (simp [go_sem]; done) | (simp [go_sem]; omega))) | (with_reducible refine Below.setCell ?_ ?side _; case side => (first | omega | (simp [go_sem]; done) | (simp [go_sem]; omega)))))⟩

theorem mInfoAttr : (Try.prog.info? 180).map (fun i => (i.zero, i.size, i.bytes)) = some (some (.agg #[.string ⟨#[]⟩, .bool false, .int .i64 0, .string ⟨#[]⟩]), 4, 48) := by kernel_rfl
theorem mMakeAttr (n : Nat) (hn : n ≤ 1048576) (w : World) : ∃ w0, (Instr.makeSlice 31 (.int .i64 n) (.int .i64 n)).run Try.prog w = .ok (.slice (some ⟨w.heap.size, 0, none⟩) n n) w0 ∧ WrAt w0 w.heap.size 0 (n * 4) ∧ Below w.heap.size w w0 := by
  obtain ⟨i0, hi, hz0, hz1, hz2⟩ := info_parts mInfoAttr
  have h := run_make (P := Try.prog) w 31 180 i0 _ Try.underlying31 hi hz0 .i64 .i64 n n (by omega) (by omega) (by rw [hz2]; omega) (by omega)
  refine ⟨_, h, ?_, bnew _ _⟩
  rw [hz1]
  exact WrAt.new _ _ _ _ (by rw [size_madeCells]; simp)

set_option maxHeartbeats 4000000 in
theorem mToAttrS (l : List AttrD) (S : Nat → Prop) (v : Value) (w : World) (h1 : bulkL attrBulk l ≤ 1048576) (ha : LAt 4 attrR w S v l) :
    Calls Try.prog 97 #[v] w fun e w' => ∃ v', e = .returned v' ∧ LOw 4 attrO w' (Within w.heap.size w'.heap.size) v' l ∧ Below w.heap.size w w' := by
  obtain ⟨a, cap, rfl⟩ := ha.form
  have hl := bulkL_len attrBulk l
  have HA := hide ha
  clear ha
  obtain ⟨w0, hmk, hrow, hb0⟩ := mMakeAttr l.length (by omega) w
  go_enter Try.func97, Try.ntmps97
  go_wp2
  go_loopw [4] (fun i wk => ∃ k : Nat, k ≤ l.length ∧ i = .int .i64 k ∧ Below w.heap.size w wk ∧ Hid (Filled 4 attrO w wk l k)) (fun i _ => l.length - (intOf i).toNat)
  case atStart => exact ⟨0, Nat.zero_le _, rfl, hb0, hide (Filled.start _ _ _ _ _ hrow)⟩
  case round =>
    obtain ⟨k, hk, rfl, hbl, hfl⟩ := hrel
    have hbs := hbl.size
    by_cases hlt : k < l.length
    · have hki : (k : Int) < (l.length : Int) := by omega
      have hwr := (unhide hfl).1
      have hrs := hwr.1
      have hkn : k * 4 + 4 ≤ l.length * 4 := by omega
      obtain ⟨b, o, cs, rfl, hbk, hSb, hcs, hin⟩ := (unhide HA).at k hlt
      have hcs := attrR_keeps _ _ S None1 cs _ (Below.turn hbl) none_off hcs
      have hin := hin.turn hbk (Below.turn hbl) (fun e => e)
      have hmem := bulkL_mem attrBulk (List.getElem_mem hlt)
      generalize hX : l[k] = X at *
      have HX := hide hX
      clear hX
      have hXb : attrBulk X ≤ 1048576 := by omega
      obtain ⟨rfl, q0, q1⟩ := hcs
      have c0 : World.cell? _ ⟨b, o + k * 4, none⟩ = some (.string X.1) := hin 0 _ rfl
      have c1 : World.cell? _ ⟨b, o + k * 4 + 1, none⟩ = some (.bool X.2.1) := hin 1 _ rfl
      have c2 : World.cell? _ ⟨b, o + k * 4 + 2, none⟩ = some (.int .i64 X.2.2.1) := hin 2 _ rfl
      have c3 : World.cell? _ ⟨b, o + k * 4 + 3, none⟩ = some (.string X.2.2.2) := hin 3 _ rfl
      clear hin
      obtain ⟨u0, hu0⟩ := hwr.cell (k * 4 + 0) (by omega)
      have f0 := hwr.free (k * 4 + 0) (by omega)
      simp only [Nat.zero_add, Nat.add_zero] at hu0 f0
      obtain ⟨u1, hu1⟩ := hwr.cell (k * 4 + 1) (by omega)
      have f1 := hwr.free (k * 4 + 1) (by omega)
      simp only [Nat.zero_add] at hu1 f1
      obtain ⟨u2, hu2⟩ := hwr.cell (k * 4 + 2) (by omega)
      have f2 := hwr.free (k * 4 + 2) (by omega)
      simp only [Nat.zero_add] at hu2 f2
      obtain ⟨u3, hu3⟩ := hwr.cell (k * 4 + 3) (by omega)
      have f3 := hwr.free (k * 4 + 3) (by omega)
      simp only [Nat.zero_add] at hu3 f3
      clear hwr hmk hrow
      go_wp2_with fail
      refine (mToAttr X S _ _ hXb ⟨rfl, q0, q1⟩).mono ?_
      rintro e w2 ⟨cs2, rfl, yy, hb2⟩
      obtain ⟨rfl, _, _⟩ := id yy
      rw [← hb2.cell hrs] at hu0 hu1 hu2 hu3
      rw [← hb2.frozen hrs] at f0 f1 f2 f3
      have hrs2 := Nat.lt_of_lt_of_le hrs hb2.size
      have HB := hide (And.intro yy hb2)
      clear yy hb2 c0 c1 c2 c3 
      go_wp2
      go_roundw
      case rel =>
        obtain ⟨yy, hb2⟩ := unhide HB
        have st := Filled.step (cs := [.string X.1, .bool X.2.1, .int .i64 X.2.2.1, .string X.2.2.2]) attrO_keeps (unhide hfl) hlt hb2 (by rw [unhide HX]; exact yy) rfl
        refine ⟨k + 1, by omega, by go_num, ?_, hide ?_⟩
        · have hbb := bthen hbl hb2
          (repeat (first | with_reducible assumption | with_reducible exact Below.refl _ _ | with_reducible refine Below.drew ?_ | with_reducible refine bdrewN ?_ _ | (with_reducible refine Below.alloc ?_ ?side _; case side => (first | omega | (simp [go_sem]; done) | (simp [go_sem]; omega))) | (with_reducible refine Below.setCell ?_ ?side _; case side => (first | omega | (simp [go_sem]; done) | (simp [go_sem]; omega)))))
        · simp only [putL, Nat.add_zero, Nat.zero_add, Nat.reduceAdd] at st
          exact st
      case measure => simp [intOf]; omega
    · have hki : ¬ (k : Int) < (l.length : Int) := by omega
      obtain rfl : k = l.length := by omega
      go_wp2
      go_ret
      exact ⟨_, rfl, (unhide hfl).done (by omega), hbl⟩

set_option maxHeartbeats 2000000 in
theorem mSzAttrS (l : List AttrD) (S : Nat → Prop) (v : Value) (left : Int) (w : World) (h0 : 0 ≤ left) (h1 : left ≤ 1048576) (ha : LAt 4 attrR w S v l) :
    Calls Try.prog 92 #[v, .int .i64 left] w fun e w' => (∃ z : Int, e = .returned (.int .i64 z) ∧ (z < 0 ∨ (0 ≤ z ∧ z + bulkL attrBulk l ≤ left))) ∧ Below w.heap.size w w' := by
  obtain ⟨a, cap, rfl⟩ := ha.form
  have hl := ha.len
  have HA := hide ha
  clear ha
  by_cases hlen : left < l.length
  case pos =>
    go_enter Try.func92, Try.ntmps92
    go_wp2
    go_ret
    exact ⟨⟨_, rfl, .inl (by omega)⟩, by (repeat (first | with_reducible assumption | with_reducible exact Below.refl _ _ | with_reducible refine Below.drew ?_ | with_reducible refine bdrewN ?_ _ | (with_reducible refine Below.alloc ?_ ?side _; case side => (first | omega | (simp [go_sem]; done) | (simp [go_sem]; omega))) | (with_reducible refine Below.setCell ?_ ?side _; case side => (first | omega | (simp [go_sem]; done) | (simp [go_sem]; omega)))))⟩
  go_enter Try.func92, Try.ntmps92
  go_wp2
  go_loopw [1, 5] (fun z i wk => ∃ (k : Nat) (zz : Int), k ≤ l.length ∧ i = .int .i64 k ∧ z = .int .i64 zz ∧ 0 ≤ zz ∧ zz + l.length + ((l.take k).map attrBulk).sum ≤ left ∧ Below w.heap.size w wk) (fun _ i _ => l.length - (intOf i).toNat)
  case atStart => exact ⟨0, left - l.length, Nat.zero_le _, rfl, by go_num, by omega, by simp, Below.refl _ _⟩
  case round =>
    obtain ⟨k, zz, hk, rfl, rfl, hz, hsum, hbl⟩ := hrel
    have hbs := hbl.size
    by_cases hlt : k < l.length
    · have hki : (k : Int) < (l.length : Int) := by omega
      have hsn := sum_snoc attrBulk l k hlt
      obtain ⟨b, o, cs, rfl, hbk, hSb, hcs, hin⟩ := (unhide HA).at k hlt
      have hcs := attrR_keeps _ _ S None1 cs _ (Below.turn hbl) none_off hcs
      have hin := hin.turn hbk (Below.turn hbl) (fun e => e)
      generalize l[k] = X at *
      have HSN := hide hsn
      clear hsn
      obtain ⟨rfl, q0, q1⟩ := hcs
      have c0 : World.cell? _ ⟨b, o + k * 4, none⟩ = some (.string X.1) := hin 0 _ rfl
      have c1 : World.cell? _ ⟨b, o + k * 4 + 1, none⟩ = some (.bool X.2.1) := hin 1 _ rfl
      have c2 : World.cell? _ ⟨b, o + k * 4 + 2, none⟩ = some (.int .i64 X.2.2.1) := hin 2 _ rfl
      have c3 : World.cell? _ ⟨b, o + k * 4 + 3, none⟩ = some (.string X.2.2.2) := hin 3 _ rfl
      clear hin
      go_wp2_with fail
      refine (mSzAttr X S _ zz _ hz (by omega) ⟨rfl, q0, q1⟩).mono ?_
      rintro e w2 ⟨⟨z2, rfl, hz2⟩, hb2⟩
      have HZ := hide hz2
      clear hz2
      by_cases hneg : z2 < 0
      · go_wp2
        go_ret
        exact ⟨⟨_, rfl, .inl (by omega)⟩, bthen hbl hb2⟩
      · have hzz : 0 ≤ z2 ∧ z2 + attrBulk X ≤ zz := by rcases unhide HZ with h | h <;> omega
        have hsn' := unhide HSN
        go_wp2
        go_roundw
        case rel => exact ⟨k + 1, z2, by omega, by go_num, by go_num, by omega, by rw [hsn']; have hxb : attrBulk X = attrBulk X := rfl; omega, bthen hbl hb2⟩
        case measure => simp [intOf]; omega
    · have e : l.take k = l := List.take_of_length_le (by omega)
      rw [e] at hsum
      have hki : ¬ (k : Int) < (l.length : Int) := by omega
      go_wp2
      go_ret
      exact ⟨⟨_, rfl, .inr ⟨hz, by unfold bulkL; omega⟩⟩, hbl⟩

set_option maxHeartbeats 4000000 in
theorem mEqAttrS (l : List AttrD) (S S' : Nat → Prop) (v v' : Value) (w : World) (ha : LAt 4 attrR w S v l) (hb : LAt 4 attrR w S' v' l) :
    Calls Try.prog 104 #[v, v'] w fun e w' => e = .returned (.bool true) ∧ Below w.heap.size w w' := by
  obtain ⟨a, cap, rfl⟩ := ha.form
  obtain ⟨a', cap', rfl⟩ := hb.form
  have hl := ha.len
  have HA := hide ha
  have HB := hide hb
  clear ha hb
  go_enter Try.func104, Try.ntmps104
  go_wp2
  go_loopw [5] (fun i wk => ∃ k : Nat, k ≤ l.length ∧ i = .int .i64 k ∧ Below w.heap.size w wk) (fun i _ => l.length - (intOf i).toNat)
  case atStart => exact ⟨0, Nat.zero_le _, rfl, Below.refl _ _⟩
  case round =>
    obtain ⟨k, hk, rfl, hbl⟩ := hrel
    have hbs := hbl.size
    by_cases hlt : k < l.length
    · have hki : (k : Int) < (l.length : Int) := by omega
      obtain ⟨b, o, cs, rfl, hbk, hSb, hcs, hin⟩ := (unhide HA).at k hlt
      have hcs := attrR_keeps _ _ S None1 cs _ (Below.turn hbl) none_off hcs
      have hin := hin.turn hbk (Below.turn hbl) (fun e => e)
      obtain ⟨b', o', cs2, rfl, hbk', hSb', hcs2, hin2⟩ := (unhide HB).at k hlt
      have hcs2 := attrR_keeps _ _ S' None1 cs2 _ (Below.turn hbl) none_off hcs2
      have hin2 := hin2.turn hbk' (Below.turn hbl) (fun e => e)
      generalize l[k] = X at *
      have HR := hide hcs
      have HR2 := hide hcs2
      obtain ⟨rfl, q0, q1⟩ := hcs
      obtain ⟨rfl, qy0, qy1⟩ := hcs2
      have c0 : World.cell? _ ⟨b, o + k * 4, none⟩ = some (.string X.1) := hin 0 _ rfl
      have c1 : World.cell? _ ⟨b, o + k * 4 + 1, none⟩ = some (.bool X.2.1) := hin 1 _ rfl
      have c2 : World.cell? _ ⟨b, o + k * 4 + 2, none⟩ = some (.int .i64 X.2.2.1) := hin 2 _ rfl
      have c3 : World.cell? _ ⟨b, o + k * 4 + 3, none⟩ = some (.string X.2.2.2) := hin 3 _ rfl
      have d0 : World.cell? _ ⟨b', o' + k * 4, none⟩ = some (.string X.1) := hin2 0 _ rfl
      have d1 : World.cell? _ ⟨b', o' + k * 4 + 1, none⟩ = some (.bool X.2.1) := hin2 1 _ rfl
      have d2 : World.cell? _ ⟨b', o' + k * 4 + 2, none⟩ = some (.int .i64 X.2.2.1) := hin2 2 _ rfl
      have d3 : World.cell? _ ⟨b', o' + k * 4 + 3, none⟩ = some (.string X.2.2.2) := hin2 3 _ rfl
      clear hin hin2
      go_wp2_with fail
      go_region_with (go_at_call 180; refine (mEqAttr X S S' _ _ _ (attrR_keeps _ _ _ None1 _ _ (Below.turn (Below.drew (Below.refl _ _))) none_off (unhide HR)) (attrR_keeps _ _ _ None1 _ _ (Below.turn (Below.drew (Below.refl _ _))) none_off (unhide HR2))).mono ?_; rintro e w2 ⟨rfl, hb2⟩)
      all_goals
        go_wp2
        go_roundw
        case rel => exact ⟨k + 1, by omega, by go_num, bthen (by (repeat (first | with_reducible assumption | with_reducible exact Below.refl _ _ | with_reducible refine Below.drew ?_ | with_reducible refine bdrewN ?_ _ | (with_reducible refine Below.alloc ?_ ?side _; case side => (first | omega | (simp [go_sem]; done) | (simp [go_sem]; omega))) | (with_reducible refine Below.setCell ?_ ?side _; case side => (first | omega | (simp [go_sem]; done) | (simp [go_sem]; omega)))))) hb2⟩
        case measure => simp [intOf]; omega
    · have hki : ¬ (k : Int) < (l.length : Int) := by omega
      go_wp2
      go_ret
      exact ⟨rfl, hbl⟩

end Go.Proofs.Ytjhlammjnggghaa
