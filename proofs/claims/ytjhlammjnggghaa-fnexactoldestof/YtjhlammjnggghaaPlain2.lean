/-
  Contracts of functions of a Trail, an Item or a Task, of the program and of the specification: BytesOf, ItemOk, HoldsRule, HoldsStripe, TrailAt.
-/
import Derived.Test.YtjhlammjnggghaaTTrail
import Derived.Test.YtjhlammjnggghaaTTask
import Derived.Test.YtjhlammjnggghaaBridge
import Derived.Test.YtjhlammjnggghaaMix
import Derived.Test.YtjhlammjnggghaaSpanOk
import Derived.Test.YtjhlammjnggghaaTotals
namespace Go.Proofs.Ytjhlammjnggghaa
open Go.ChangeShapes Go.WideShapes Go.ChangeAt Go.RowKit
set_option linter.unusedVariables false
set_option maxRecDepth 100000

def itemB (x : ItemD) : Bool := decide (1 ≤ x.stamp) && spanB x.s.1 x.s.2.1 x.s.2.2.1 x.s.2.2.2.1 x.s.2.2.2.2.2
theorem specItemOk (x : ItemD) (S0 : Nat → Prop) (c0 : List Value) (w : World) (h0 : itemR w S0 c0 x) (b0 : itemBulk x ≤ 1048576) :
    Calls Try.prog 61 #[.agg c0.toArray] w fun e w' => e = .returned (.bool (itemB x)) ∧ Below w.heap.size w w' := by
    obtain ⟨s, rfl, g⟩ := h0
    obtain ⟨a, k, rfl⟩ := g.form
    unfold itemBulk at b0
    have q1 := bulk_attrs x.s.2.2.2.2.2
    by_cases he : 1 ≤ x.stamp
    · go_enter Try.func61, Try.ntmps61
      go_wp2_with fail
      refine (specSpanOk x.s.1 x.s.2.1 x.s.2.2.1 x.s.2.2.2.1 x.s.2.2.2.2.1 x.s.2.2.2.2.2 _ _ (attrs_old (g.keep attrR_keeps (bnew _ _))) (by omega) (by omega)).mono ?_
      rintro e w1 ⟨rfl, hb1⟩
      go_wp2
      go_ret
      exact ⟨ret_bool (by simp [itemB, he]), bthen (bnew _ _) hb1⟩
    · go_enter Try.func61, Try.ntmps61
      go_wp2
      go_ret
      exact ⟨ret_bool (by rw [itemB, decide_eq_false (by omega)]; rfl), by (repeat (first | with_reducible assumption | with_reducible exact Below.refl _ _ | with_reducible refine Below.drew ?_ | with_reducible refine bdrewN ?_ _ | (with_reducible refine Below.alloc ?_ ?side _; case side => (first | omega | (simp [go_sem]; done) | (simp [go_sem]; omega))) | (with_reducible refine Below.setCell ?_ ?side _; case side => (first | omega | (simp [go_sem]; done) | (simp [go_sem]; omega)))))⟩
theorem implItemOk (x : ItemD) (S0 : Nat → Prop) (c0 : List Value) (w : World) (h0 : itemR w S0 c0 x) (b0 : itemBulk x ≤ 1048576) :
    Calls Try.prog 60 #[.agg c0.toArray] w fun e w' => e = .returned (.bool (itemB x)) ∧ Below w.heap.size w w' := by
    obtain ⟨s, rfl, g⟩ := h0
    obtain ⟨a, k, rfl⟩ := g.form
    unfold itemBulk at b0
    have q1 := bulk_attrs x.s.2.2.2.2.2
    by_cases he : 1 ≤ x.stamp
    · go_enter Try.func60, Try.ntmps60
      go_wp2_with fail
      refine (implSpanOk x.s.1 x.s.2.1 x.s.2.2.1 x.s.2.2.2.1 x.s.2.2.2.2.1 x.s.2.2.2.2.2 _ _ (attrs_old (g.keep attrR_keeps (bnew _ _))) (by omega) (by omega)).mono ?_
      rintro e w1 ⟨rfl, hb1⟩
      go_wp2
      go_ret
      exact ⟨ret_bool (by simp [itemB, he]), bthen (bnew _ _) hb1⟩
    · go_enter Try.func60, Try.ntmps60
      go_wp2
      go_ret
      exact ⟨ret_bool (by rw [itemB, decide_eq_false (by omega)]; rfl), by (repeat (first | with_reducible assumption | with_reducible exact Below.refl _ _ | with_reducible refine Below.drew ?_ | with_reducible refine bdrewN ?_ _ | (with_reducible refine Below.alloc ?_ ?side _; case side => (first | omega | (simp [go_sem]; done) | (simp [go_sem]; omega))) | (with_reducible refine Below.setCell ?_ ?side _; case side => (first | omega | (simp [go_sem]; done) | (simp [go_sem]; omega)))))⟩

def ruleB (x : TaskD) : Bool := decide (x.op = 2) && decide (x.pc = 2)
theorem specHoldsRule (x : TaskD) (S0 : Nat → Prop) (c0 : List Value) (w : World) (h0 : taskR w S0 c0 x) (b0 : taskBulk x ≤ 1048576) :
    Calls Try.prog 59 #[.agg c0.toArray] w fun e w' => e = .returned (.bool (ruleB x)) ∧ Below w.heap.size w w' := by
    obtain ⟨s, s', rfl, g, g'⟩ := h0
    obtain ⟨a, k, rfl⟩ := g.form
    obtain ⟨a', k', rfl⟩ := g'.form
    by_cases e : x.op = 2
    · have q : (x.op == 2) = true := by simpa using e
      have HE := hide e
      clear e
      go_enter Try.func59, Try.ntmps59
      go_wp2
      go_ret
      exact ⟨ret_bool (by rw [ruleB, decide_eq_true (unhide HE)]; by_cases h : x.pc = 2 <;> simp [h]), by (repeat (first | with_reducible assumption | with_reducible exact Below.refl _ _ | with_reducible refine Below.drew ?_ | with_reducible refine bdrewN ?_ _ | (with_reducible refine Below.alloc ?_ ?side _; case side => (first | omega | (simp [go_sem]; done) | (simp [go_sem]; omega))) | (with_reducible refine Below.setCell ?_ ?side _; case side => (first | omega | (simp [go_sem]; done) | (simp [go_sem]; omega)))))⟩
    · have q : (x.op == 2) = false := by simpa using e
      go_enter Try.func59, Try.ntmps59
      go_wp2
      go_ret
      exact ⟨ret_bool (by rw [ruleB, decide_eq_false e]; simp), by (repeat (first | with_reducible assumption | with_reducible exact Below.refl _ _ | with_reducible refine Below.drew ?_ | with_reducible refine bdrewN ?_ _ | (with_reducible refine Below.alloc ?_ ?side _; case side => (first | omega | (simp [go_sem]; done) | (simp [go_sem]; omega))) | (with_reducible refine Below.setCell ?_ ?side _; case side => (first | omega | (simp [go_sem]; done) | (simp [go_sem]; omega)))))⟩
theorem implHoldsRule (x : TaskD) (S0 : Nat → Prop) (c0 : List Value) (w : World) (h0 : taskR w S0 c0 x) (b0 : taskBulk x ≤ 1048576) :
    Calls Try.prog 58 #[.agg c0.toArray] w fun e w' => e = .returned (.bool (ruleB x)) ∧ Below w.heap.size w w' := by
    obtain ⟨s, s', rfl, g, g'⟩ := h0
    obtain ⟨a, k, rfl⟩ := g.form
    obtain ⟨a', k', rfl⟩ := g'.form
    by_cases e : x.op = 2
    · have q : (x.op == 2) = true := by simpa using e
      have HE := hide e
      clear e
      go_enter Try.func58, Try.ntmps58
      go_wp2
      go_ret
      exact ⟨ret_bool (by rw [ruleB, decide_eq_true (unhide HE)]; by_cases h : x.pc = 2 <;> simp [h]), by (repeat (first | with_reducible assumption | with_reducible exact Below.refl _ _ | with_reducible refine Below.drew ?_ | with_reducible refine bdrewN ?_ _ | (with_reducible refine Below.alloc ?_ ?side _; case side => (first | omega | (simp [go_sem]; done) | (simp [go_sem]; omega))) | (with_reducible refine Below.setCell ?_ ?side _; case side => (first | omega | (simp [go_sem]; done) | (simp [go_sem]; omega)))))⟩
    · have q : (x.op == 2) = false := by simpa using e
      go_enter Try.func58, Try.ntmps58
      go_wp2
      go_ret
      exact ⟨ret_bool (by rw [ruleB, decide_eq_false e]; simp), by (repeat (first | with_reducible assumption | with_reducible exact Below.refl _ _ | with_reducible refine Below.drew ?_ | with_reducible refine bdrewN ?_ _ | (with_reducible refine Below.alloc ?_ ?side _; case side => (first | omega | (simp [go_sem]; done) | (simp [go_sem]; omega))) | (with_reducible refine Below.setCell ?_ ?side _; case side => (first | omega | (simp [go_sem]; done) | (simp [go_sem]; omega)))))⟩

def atID (l : List TrailD) (id : Int) : Int := idxv (fun x : TrailD => decide (x.id = id)) l
set_option maxHeartbeats 2000000 in
theorem specTrailAt (l : List TrailD) (id : Int) (S0 : Nat → Prop) (v0 : Value) (w : World) (h0 : LAt 4 trailR w S0 v0 l) (b0 : bulkL trailBulk l ≤ 1048576) :
    Calls Try.prog 94 #[v0, .int .i64 id] w fun e w' => e = .returned (.int .i64 (atID l id)) ∧ Below w.heap.size w w' := by
  obtain ⟨a, cap, rfl⟩ := h0.form
  have hl := h0.len
  have HA := hide h0
  clear h0
  go_enter Try.func94, Try.ntmps94
  go_wp2
  go_loopw [5] (fun i wk => ∃ k : Nat, k ≤ l.length ∧ i = .int .i64 k ∧ Hid (∀ j (h : j < l.length), j < k → (decide (l[j].id = id)) = false) ∧ Below w.heap.size w wk) (fun i _ => l.length - (intOf i).toNat)
  case atStart => exact ⟨0, Nat.zero_le _, rfl, hide (fun j h hj => absurd hj (Nat.not_lt_zero _)), Below.refl _ _⟩
  case round =>
    obtain ⟨k, hk, rfl, hno, hbl⟩ := hrel
    have hbs := hbl.size
    by_cases hlt : k < l.length
    · have hki : (k : Int) < (l.length : Int) := by omega
      obtain ⟨b, o, cs, rfl, hbk, hSb, hcs, hin⟩ := (unhide HA).at k hlt
      have hcs := trailR_keeps _ _ S0 None1 cs _ (Below.turn hbl) none_off hcs
      have hin := hin.turn hbk (Below.turn hbl) (fun e => e)
      generalize hX : l[k] = X at *
      obtain ⟨s, rfl, g⟩ := hcs
      obtain ⟨a', k', rfl⟩ := g.form
      have c0 : World.cell? _ ⟨b, o + k * 4, none⟩ = some (.int .i64 X.id) := hin 0 _ rfl
      have c1 : World.cell? _ ⟨b, o + k * 4 + 1, none⟩ = some (.int .i64 X.stamp) := hin 1 _ rfl
      have c2 : World.cell? _ ⟨b, o + k * 4 + 2, none⟩ = some (.int .i64 X.first) := hin 2 _ rfl
      have c3 : World.cell? _ ⟨b, o + k * 4 + 3, none⟩ = some (.slice a' X.spans.length k') := hin 3 _ rfl
      clear hin
      have HX := hide hX
      clear hX
      by_cases e : X.id = id
      · have q : (X.id == id) = true := by simpa using e
        have hfin := idxv_hit (p := fun x : TrailD => decide (x.id = id)) hlt (unhide hno) (by rw [unhide HX]; simpa using e)
        have HF := hide hfin
        have HE := hide e
        clear hfin e
        go_wp2
        go_ret
        exact ⟨by rw [atID, unhide HF]; rfl, hbl⟩
      · have q : (X.id == id) = false := by simpa using e
        go_wp2
        go_roundw
        case rel =>
          refine ⟨k + 1, by omega, by go_num, hide (fun j h hj => ?_), by (repeat (first | with_reducible assumption | with_reducible exact Below.refl _ _ | with_reducible refine Below.drew ?_ | with_reducible refine bdrewN ?_ _ | (with_reducible refine Below.alloc ?_ ?side _; case side => (first | omega | (simp [go_sem]; done) | (simp [go_sem]; omega))) | (with_reducible refine Below.setCell ?_ ?side _; case side => (first | omega | (simp [go_sem]; done) | (simp [go_sem]; omega)))))⟩
          by_cases hjk : j = k
          · subst hjk; rw [unhide HX]; simpa using e
          · exact unhide hno j h (by omega)
        case measure => simp [intOf]; omega
    · have hki : ¬ (k : Int) < (l.length : Int) := by omega
      obtain rfl : k = l.length := by omega
      go_wp2
      go_ret
      exact ⟨by rw [atID, idxv_miss (unhide hno)]; rfl, hbl⟩
theorem hmf : ∀ (fn : Fn) (first cap : Array Value) (w : World), (Instr.makeFunc fn first cap).run Try.prog w = .ok (.func fn first cap) w := fun _ _ _ _ => rfl
theorem implAt1 (x : TrailD) (id : Int) (S : Nat → Prop) (cs : List Value) (bp : Nat) (w : World) (h0 : trailR w S cs x) (hp : w.cell? ⟨bp, 0, none⟩ = some (.int .i64 id)) (hbp : bp < w.heap.size) :
    Calls Try.prog 177 #[.agg cs.toArray, .pointer (some ⟨bp, 0, none⟩)] w fun e w' => e = .returned (.bool (decide (x.id = id))) ∧ Below w.heap.size w w' := by
  obtain ⟨s, rfl, g⟩ := h0
  obtain ⟨a, k, rfl⟩ := g.form
  go_enter Try.func177, Try.ntmps177
  go_wp2
  go_ret
  exact ⟨ret_bool (by by_cases h : x.id = id <;> simp [h]), by (repeat (first | with_reducible assumption | with_reducible exact Below.refl _ _ | with_reducible refine Below.drew ?_ | with_reducible refine bdrewN ?_ _ | (with_reducible refine Below.alloc ?_ ?side _; case side => (first | omega | (simp [go_sem]; done) | (simp [go_sem]; omega))) | (with_reducible refine Below.setCell ?_ ?side _; case side => (first | omega | (simp [go_sem]; done) | (simp [go_sem]; omega)))))⟩
set_option maxHeartbeats 2000000 in
theorem implIdxT (l : List TrailD) (id : Int) (S0 : Nat → Prop) (v0 : Value) (bp : Nat) (w : World) (h0 : LAt 4 trailR w S0 v0 l) (hp : w.cell? ⟨bp, 0, none⟩ = some (.int .i64 id)) (hbp : bp < w.heap.size) :
    Calls Try.prog 102 #[v0, .func (.func 177) #[] #[.pointer (some ⟨bp, 0, none⟩)]] w fun e w' => e = .returned (.int .i64 (atID l id)) ∧ Below w.heap.size w w' := by
  obtain ⟨a, cap, rfl⟩ := h0.form
  have hl := h0.len
  have HA := hide h0
  clear h0
  go_enter Try.func102, Try.ntmps102
  go_wp2
  go_loopw [8] (fun i wk => ∃ k : Nat, k ≤ l.length ∧ i = .int .i64 k ∧ Hid (∀ j (h : j < l.length), j < k → (decide (l[j].id = id)) = false) ∧ Below w.heap.size w wk) (fun i _ => l.length - (intOf i).toNat)
  case atStart => exact ⟨0, Nat.zero_le _, rfl, hide (fun j h hj => absurd hj (Nat.not_lt_zero _)), Below.refl _ _⟩
  case round =>
    obtain ⟨k, hk, rfl, hno, hbl⟩ := hrel
    have hbs := hbl.size
    by_cases hlt : k < l.length
    · have hki : (k : Int) < (l.length : Int) := by omega
      obtain ⟨b, o, cs, rfl, hbk, hSb, hcs, hin⟩ := (unhide HA).at k hlt
      have hcs := trailR_keeps _ _ S0 None1 cs _ (Below.turn hbl) none_off hcs
      have hin := hin.turn hbk (Below.turn hbl) (fun e => e)
      have HR := hide hcs
      generalize hX : l[k] = X at *
      obtain ⟨s, rfl, g⟩ := hcs
      obtain ⟨a', k', rfl⟩ := g.form
      have c0 : World.cell? _ ⟨b, o + k * 4, none⟩ = some (.int .i64 X.id) := hin 0 _ rfl
      have c1 : World.cell? _ ⟨b, o + k * 4 + 1, none⟩ = some (.int .i64 X.stamp) := hin 1 _ rfl
      have c2 : World.cell? _ ⟨b, o + k * 4 + 2, none⟩ = some (.int .i64 X.first) := hin 2 _ rfl
      have c3 : World.cell? _ ⟨b, o + k * 4 + 3, none⟩ = some (.slice a' X.spans.length k') := hin 3 _ rfl
      clear hin
      have HX := hide hX
      clear hX
      have hp' := hp
      rw [← hbl.cell (p := ⟨bp, 0, none⟩) hbp] at hp'
      go_wp2_with fail
      refine (implAt1 X id S0 _ bp _ (unhide HR) hp' (Nat.lt_of_lt_of_le hbp hbs)).mono ?_
      rintro e w2 ⟨rfl, hb2⟩
      by_cases e : X.id = id
      · have hfin := idxv_hit (p := fun x : TrailD => decide (x.id = id)) hlt (unhide hno) (by rw [unhide HX]; simpa using e)
        have HF := hide hfin
        rw [decide_eq_true e]
        clear hfin e
        go_wp2
        go_ret
        exact ⟨by rw [atID, unhide HF]; rfl, bthen hbl hb2⟩
      · rw [decide_eq_false e]
        have HE := hide e
        clear e
        go_wp2
        go_roundw
        case rel =>
          refine ⟨k + 1, by omega, by go_num, hide (fun j h hj => ?_), bthen hbl hb2⟩
          by_cases hjk : j = k
          · subst hjk; rw [unhide HX]; exact decide_eq_false (unhide HE)
          · exact unhide hno j h (by omega)
        case measure => simp [intOf]; omega
    · have hki : ¬ (k : Int) < (l.length : Int) := by omega
      obtain rfl : k = l.length := by omega
      go_wp2
      go_ret
      exact ⟨by rw [atID, idxv_miss (unhide hno)]; rfl, hbl⟩
theorem implTrailAt (l : List TrailD) (id : Int) (S0 : Nat → Prop) (v0 : Value) (w : World) (h0 : LAt 4 trailR w S0 v0 l) (b0 : bulkL trailBulk l ≤ 1048576) :
    Calls Try.prog 98 #[v0, .int .i64 id] w fun e w' => e = .returned (.int .i64 (atID l id)) ∧ Below w.heap.size w w' := by
  obtain ⟨a, cap, rfl⟩ := h0.form
  have hmf := hmf
  go_enter Try.func98, Try.ntmps98
  go_wp2_with fail
  refine (implIdxT l id S0 _ w.heap.size _ (h0.keep trailR_keeps (bnew _ _)) (by simp [go_sem]) (by simp)).mono ?_
  rintro e w1 ⟨rfl, hb1⟩
  go_wp2
  go_ret
  exact ⟨rfl, bthen (bnew _ _) hb1⟩

end Go.Proofs.Ytjhlammjnggghaa
