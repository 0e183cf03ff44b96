/-
  The numbers of a set-up; lists of such numbers compared.
-/
import Derived.Test.YtlhjhnjpmafceaaXConf
import Derived.Test.YtlhjhnjpmafceaaSCache
import Derived.BigRegion
namespace Go.Proofs.Ytlhjhnjpmafceaa
open Go.ChangeShapes Go.WideShapes Go.ChangeAt Go.RowKit
set_option linter.unusedVariables false
set_option maxRecDepth 100000

def cnC (q : ByteArray × Int × Int × Int) : List Value := [.string q.1, .int .i64 q.2.1, .int .i64 q.2.2.1, .int .i64 q.2.2.2]
def cnR (w : World) (S : Nat → Prop) (cs : List Value) (q : ByteArray × Int × Int × Int) : Prop := cs = cnC q
theorem cnR_keeps : Keeps cnR := fun _ _ _ _ _ _ _ _ h => h
def nums (x : ConfD) : List (ByteArray × Int × Int × Int) := [(⟨#[115, 116, 114, 105, 112, 101, 115]⟩, x.stripes, 1, 3), (⟨#[119, 97, 105, 116]⟩, x.wait, 1, 50), (⟨#[98, 117, 100, 103, 101, 116]⟩, x.budget, 1, 190), (⟨#[99, 97, 99, 104, 101]⟩, x.cache, 1, 6), (⟨#[113, 117, 101, 117, 101]⟩, x.queue, 1, 4), (⟨#[114, 97, 116, 101]⟩, x.rate, 0, 99), (⟨#[98, 117, 114, 115, 116]⟩, x.burst, 0, 999)]
theorem held_part {w : World} {b : Nat} {p cs q : List Value} (h : Held w b (p ++ (cs ++ q))) : InB w b p.length cs := fun j v hv => h.2 (p.length + j) v (by
  rw [List.getElem?_append_right (by omega), Nat.add_sub_cancel_left, List.getElem?_append_left (List.getElem?_eq_some_iff.1 hv).1]; exact hv)
theorem nums_at {w : World} {b : Nat} (x : ConfD) (h : Held w b [.string ⟨#[115, 116, 114, 105, 112, 101, 115]⟩, .int .i64 x.stripes, .int .i64 1, .int .i64 3, .string ⟨#[119, 97, 105, 116]⟩, .int .i64 x.wait, .int .i64 1, .int .i64 50, .string ⟨#[98, 117, 100, 103, 101, 116]⟩, .int .i64 x.budget, .int .i64 1, .int .i64 190, .string ⟨#[99, 97, 99, 104, 101]⟩, .int .i64 x.cache, .int .i64 1, .int .i64 6, .string ⟨#[113, 117, 101, 117, 101]⟩, .int .i64 x.queue, .int .i64 1, .int .i64 4, .string ⟨#[114, 97, 116, 101]⟩, .int .i64 x.rate, .int .i64 0, .int .i64 99, .string ⟨#[98, 117, 114, 115, 116]⟩, .int .i64 x.burst, .int .i64 0, .int .i64 999]) : LAt 4 cnR w (fun k => k = b) (.slice (some ⟨b, 0, none⟩) 7 7) (nums x) := by
  refine ⟨_, 7, rfl, by simp [nums], .inr ⟨b, 0, rfl, h.1, rfl, fun i q hq => ?_⟩⟩
  match i, hq with
  | 0, hq =>
    simp [nums] at hq
    subst hq
    exact ⟨_, rfl, by have := held_part (p := []) (cs := [.string ⟨#[115, 116, 114, 105, 112, 101, 115]⟩, .int .i64 x.stripes, .int .i64 1, .int .i64 3]) (q := [.string ⟨#[119, 97, 105, 116]⟩, .int .i64 x.wait, .int .i64 1, .int .i64 50, .string ⟨#[98, 117, 100, 103, 101, 116]⟩, .int .i64 x.budget, .int .i64 1, .int .i64 190, .string ⟨#[99, 97, 99, 104, 101]⟩, .int .i64 x.cache, .int .i64 1, .int .i64 6, .string ⟨#[113, 117, 101, 117, 101]⟩, .int .i64 x.queue, .int .i64 1, .int .i64 4, .string ⟨#[114, 97, 116, 101]⟩, .int .i64 x.rate, .int .i64 0, .int .i64 99, .string ⟨#[98, 117, 114, 115, 116]⟩, .int .i64 x.burst, .int .i64 0, .int .i64 999]) h; simpa [cnC] using this⟩
  | 1, hq =>
    simp [nums] at hq
    subst hq
    exact ⟨_, rfl, by have := held_part (p := [.string ⟨#[115, 116, 114, 105, 112, 101, 115]⟩, .int .i64 x.stripes, .int .i64 1, .int .i64 3]) (cs := [.string ⟨#[119, 97, 105, 116]⟩, .int .i64 x.wait, .int .i64 1, .int .i64 50]) (q := [.string ⟨#[98, 117, 100, 103, 101, 116]⟩, .int .i64 x.budget, .int .i64 1, .int .i64 190, .string ⟨#[99, 97, 99, 104, 101]⟩, .int .i64 x.cache, .int .i64 1, .int .i64 6, .string ⟨#[113, 117, 101, 117, 101]⟩, .int .i64 x.queue, .int .i64 1, .int .i64 4, .string ⟨#[114, 97, 116, 101]⟩, .int .i64 x.rate, .int .i64 0, .int .i64 99, .string ⟨#[98, 117, 114, 115, 116]⟩, .int .i64 x.burst, .int .i64 0, .int .i64 999]) h; simpa [cnC] using this⟩
  | 2, hq =>
    simp [nums] at hq
    subst hq
    exact ⟨_, rfl, by have := held_part (p := [.string ⟨#[115, 116, 114, 105, 112, 101, 115]⟩, .int .i64 x.stripes, .int .i64 1, .int .i64 3, .string ⟨#[119, 97, 105, 116]⟩, .int .i64 x.wait, .int .i64 1, .int .i64 50]) (cs := [.string ⟨#[98, 117, 100, 103, 101, 116]⟩, .int .i64 x.budget, .int .i64 1, .int .i64 190]) (q := [.string ⟨#[99, 97, 99, 104, 101]⟩, .int .i64 x.cache, .int .i64 1, .int .i64 6, .string ⟨#[113, 117, 101, 117, 101]⟩, .int .i64 x.queue, .int .i64 1, .int .i64 4, .string ⟨#[114, 97, 116, 101]⟩, .int .i64 x.rate, .int .i64 0, .int .i64 99, .string ⟨#[98, 117, 114, 115, 116]⟩, .int .i64 x.burst, .int .i64 0, .int .i64 999]) h; simpa [cnC] using this⟩
  | 3, hq =>
    simp [nums] at hq
    subst hq
    exact ⟨_, rfl, by have := held_part (p := [.string ⟨#[115, 116, 114, 105, 112, 101, 115]⟩, .int .i64 x.stripes, .int .i64 1, .int .i64 3, .string ⟨#[119, 97, 105, 116]⟩, .int .i64 x.wait, .int .i64 1, .int .i64 50, .string ⟨#[98, 117, 100, 103, 101, 116]⟩, .int .i64 x.budget, .int .i64 1, .int .i64 190]) (cs := [.string ⟨#[99, 97, 99, 104, 101]⟩, .int .i64 x.cache, .int .i64 1, .int .i64 6]) (q := [.string ⟨#[113, 117, 101, 117, 101]⟩, .int .i64 x.queue, .int .i64 1, .int .i64 4, .string ⟨#[114, 97, 116, 101]⟩, .int .i64 x.rate, .int .i64 0, .int .i64 99, .string ⟨#[98, 117, 114, 115, 116]⟩, .int .i64 x.burst, .int .i64 0, .int .i64 999]) h; simpa [cnC] using this⟩
  | 4, hq =>
    simp [nums] at hq
    subst hq
    exact ⟨_, rfl, by have := held_part (p := [.string ⟨#[115, 116, 114, 105, 112, 101, 115]⟩, .int .i64 x.stripes, .int .i64 1, .int .i64 3, .string ⟨#[119, 97, 105, 116]⟩, .int .i64 x.wait, .int .i64 1, .int .i64 50, .string ⟨#[98, 117, 100, 103, 101, 116]⟩, .int .i64 x.budget, .int .i64 1, .int .i64 190, .string ⟨#[99, 97, 99, 104, 101]⟩, .int .i64 x.cache, .int .i64 1, .int .i64 6]) (cs := [.string ⟨#[113, 117, 101, 117, 101]⟩, .int .i64 x.queue, .int .i64 1, .int .i64 4]) (q := [.string ⟨#[114, 97, 116, 101]⟩, .int .i64 x.rate, .int .i64 0, .int .i64 99, .string ⟨#[98, 117, 114, 115, 116]⟩, .int .i64 x.burst, .int .i64 0, .int .i64 999]) h; simpa [cnC] using this⟩
  | 5, hq =>
    simp [nums] at hq
    subst hq
    exact ⟨_, rfl, by have := held_part (p := [.string ⟨#[115, 116, 114, 105, 112, 101, 115]⟩, .int .i64 x.stripes, .int .i64 1, .int .i64 3, .string ⟨#[119, 97, 105, 116]⟩, .int .i64 x.wait, .int .i64 1, .int .i64 50, .string ⟨#[98, 117, 100, 103, 101, 116]⟩, .int .i64 x.budget, .int .i64 1, .int .i64 190, .string ⟨#[99, 97, 99, 104, 101]⟩, .int .i64 x.cache, .int .i64 1, .int .i64 6, .string ⟨#[113, 117, 101, 117, 101]⟩, .int .i64 x.queue, .int .i64 1, .int .i64 4]) (cs := [.string ⟨#[114, 97, 116, 101]⟩, .int .i64 x.rate, .int .i64 0, .int .i64 99]) (q := [.string ⟨#[98, 117, 114, 115, 116]⟩, .int .i64 x.burst, .int .i64 0, .int .i64 999]) h; simpa [cnC] using this⟩
  | 6, hq =>
    simp [nums] at hq
    subst hq
    exact ⟨_, rfl, by have := held_part (p := [.string ⟨#[115, 116, 114, 105, 112, 101, 115]⟩, .int .i64 x.stripes, .int .i64 1, .int .i64 3, .string ⟨#[119, 97, 105, 116]⟩, .int .i64 x.wait, .int .i64 1, .int .i64 50, .string ⟨#[98, 117, 100, 103, 101, 116]⟩, .int .i64 x.budget, .int .i64 1, .int .i64 190, .string ⟨#[99, 97, 99, 104, 101]⟩, .int .i64 x.cache, .int .i64 1, .int .i64 6, .string ⟨#[113, 117, 101, 117, 101]⟩, .int .i64 x.queue, .int .i64 1, .int .i64 4, .string ⟨#[114, 97, 116, 101]⟩, .int .i64 x.rate, .int .i64 0, .int .i64 99]) (cs := [.string ⟨#[98, 117, 114, 115, 116]⟩, .int .i64 x.burst, .int .i64 0, .int .i64 999]) (q := []) h; simpa [cnC] using this⟩
  | n + 7, hq => simp [nums] at hq
set_option maxHeartbeats 2000000 in
theorem implConfNumbers (x : ConfD) (S : Nat → Prop) (cs : List Value) (w : World) (h : confR w S cs x) :
    Calls Try.prog 49 #[.agg cs.toArray] w fun e w' => ∃ v, e = .returned v ∧ LAt 4 cnR w' (fun k => w.heap.size ≤ k) v (nums x) ∧ Below w.heap.size w w' := by
  obtain ⟨s0, rfl, _, _, g⟩ := h
  obtain ⟨a0, k0, rfl⟩ := g.form
  clear g
  have b1 := bnew w (.cells #[.int .i64 x.stripes, .int .i64 x.wait, .int .i64 x.budget, .int .i64 x.cache, .int .i64 x.queue, .int .i64 x.rate, .int .i64 x.burst, .int .i64 x.rule.kind, .int .i64 x.rule.n, .string x.rule.key, .string x.rule.text, .slice a0 x.rule.l.length k0] 47)
  have H0 := Held.new (w.alloc (.cells #[.int .i64 x.stripes, .int .i64 x.wait, .int .i64 x.budget, .int .i64 x.cache, .int .i64 x.queue, .int .i64 x.rate, .int .i64 x.burst, .int .i64 x.rule.kind, .int .i64 x.rule.n, .string x.rule.key, .string x.rule.text, .slice a0 x.rule.l.length k0] 47)) [.string ⟨#[115, 116, 114, 105, 112, 101, 115]⟩, .int .i64 x.stripes, .int .i64 1, .int .i64 3, .string ⟨#[119, 97, 105, 116]⟩, .int .i64 x.wait, .int .i64 1, .int .i64 50, .string ⟨#[98, 117, 100, 103, 101, 116]⟩, .int .i64 x.budget, .int .i64 1, .int .i64 190, .string ⟨#[99, 97, 99, 104, 101]⟩, .int .i64 x.cache, .int .i64 1, .int .i64 6, .string ⟨#[113, 117, 101, 117, 101]⟩, .int .i64 x.queue, .int .i64 1, .int .i64 4, .string ⟨#[114, 97, 116, 101]⟩, .int .i64 x.rate, .int .i64 0, .int .i64 99, .string ⟨#[98, 117, 114, 115, 116]⟩, .int .i64 x.burst, .int .i64 0, .int .i64 999] 83
  have b2 := bnew (w.alloc (.cells #[.int .i64 x.stripes, .int .i64 x.wait, .int .i64 x.budget, .int .i64 x.cache, .int .i64 x.queue, .int .i64 x.rate, .int .i64 x.burst, .int .i64 x.rule.kind, .int .i64 x.rule.n, .string x.rule.key, .string x.rule.text, .slice a0 x.rule.l.length k0] 47)) (.cells #[.string ⟨#[115, 116, 114, 105, 112, 101, 115]⟩, .int .i64 x.stripes, .int .i64 1, .int .i64 3, .string ⟨#[119, 97, 105, 116]⟩, .int .i64 x.wait, .int .i64 1, .int .i64 50, .string ⟨#[98, 117, 100, 103, 101, 116]⟩, .int .i64 x.budget, .int .i64 1, .int .i64 190, .string ⟨#[99, 97, 99, 104, 101]⟩, .int .i64 x.cache, .int .i64 1, .int .i64 6, .string ⟨#[113, 117, 101, 117, 101]⟩, .int .i64 x.queue, .int .i64 1, .int .i64 4, .string ⟨#[114, 97, 116, 101]⟩, .int .i64 x.rate, .int .i64 0, .int .i64 99, .string ⟨#[98, 117, 114, 115, 116]⟩, .int .i64 x.burst, .int .i64 0, .int .i64 999] 83)
  rw [show (w.alloc (.cells #[.int .i64 x.stripes, .int .i64 x.wait, .int .i64 x.budget, .int .i64 x.cache, .int .i64 x.queue, .int .i64 x.rate, .int .i64 x.burst, .int .i64 x.rule.kind, .int .i64 x.rule.n, .string x.rule.key, .string x.rule.text, .slice a0 x.rule.l.length k0] 47)).heap.size = w.heap.size + 1 by simp] at H0
  have HL := hide (And.intro (nums_at x H0) (bthen b1 b2))
  clear b1 b2 H0
  go_enter Try.func49, Try.ntmps49
  go_wp2
  go_ret
  obtain ⟨h1, h2⟩ := unhide HL
  obtain ⟨a, cap, e, hl, hh⟩ := h1
  refine ⟨_, rfl, ⟨a, cap, e, hl, ?_⟩, h2⟩
  rcases hh with hh | ⟨b, o, h3, h4, h5, h6⟩
  · exact .inl hh
  · exact .inr ⟨b, o, h3, h4, by have e5 : b = w.heap.size + 1 := h5; omega, h6⟩
def sameN (p q : ByteArray × Int × Int × Int) : Bool := decide (p.1 = q.1 ∧ p.2.1 = q.2.1 ∧ p.2.2.1 = q.2.2.1 ∧ p.2.2.2 = q.2.2.2)
theorem bytes_ne2 {a b : ByteArray} (h : ¬ a = b) : ¬ a.toList = b.toList := fun e => h (ByteArray.ext (Array.toList_inj.mp (by rw [ByteArray.toList_eq, ByteArray.toList_eq] at e; exact e)))
theorem neqN (p q : ByteArray × Int × Int × Int) (w : World) : (Op.equalIn 10000 83 (.agg (cnC p).toArray) (.agg (cnC q).toArray)).run Try.prog w = .ok (sameN p q) w := by
  obtain ⟨a, b, c, d⟩ := p
  obtain ⟨a', b', c', d'⟩ := q
  unfold cnC sameN
  dsimp only
  by_cases h1 : a = a'
  case neg => have h1' := bytes_ne2 h1; go_simp
  subst h1
  by_cases h2 : b = b'
  case neg => go_simp
  subst h2
  by_cases h3 : c = c'
  case neg => go_simp
  subst h3
  by_cases h4 : d = d'
  case neg => go_simp
  subst h4
  go_simp
set_option maxHeartbeats 2000000 in
theorem implEqualN (l m : List (ByteArray × Int × Int × Int)) (S0 : Nat → Prop) (v0 : Value) (S1 : Nat → Prop) (v1 : Value) (w : World) (h0 : LAt 4 cnR w S0 v0 l) (h1 : LAt 4 cnR w S1 v1 m) (hne : l.length = m.length) :
    Calls Try.prog 48 #[v0, v1] w fun e w' => e = .returned (.bool (eqM sameN l m)) ∧ Below w.heap.size w w' := by
  obtain ⟨a, cap, rfl⟩ := h0.form
  obtain ⟨a', cap', rfl⟩ := h1.form
  have hl := h0.len
  have hl' := h1.len
  have HA := hide h0
  have HB := hide h1
  clear h0 h1
  have hnn : ((l.length : Int) != (m.length : Int)) = false := by simp; omega
  have HN := hide hne
  clear hne
  go_enter Try.func48, Try.ntmps48
  go_wp2
  go_loopw [13] (fun i wk => ∃ k : Nat, k ≤ l.length ∧ i = .int .i64 k ∧ Hid (∀ j (h1 : j < l.length) (h2 : j < m.length), j < k → sameN l[j] m[j] = true) ∧ Below w.heap.size w wk) (fun i _ => l.length - (intOf i).toNat)
  case atStart => exact ⟨0, Nat.zero_le _, rfl, hide (fun j h h2 hj => absurd hj (Nat.not_lt_zero _)), Below.refl _ _⟩
  case round =>
    obtain ⟨k, hk, rfl, hall, hbl⟩ := hrel
    have hbs := hbl.size
    by_cases hlt : k < l.length
    · have hlt' : k < m.length := by have := unhide HN; omega
      have hki : (k : Int) < (l.length : Int) := by omega
      have hki' : (k : Int) < (m.length : Int) := by omega
      obtain ⟨b, o, cs, rfl, hbk, hSb, hcs, hin⟩ := (unhide HA).at k hlt
      obtain ⟨b', o', cs2, rfl, hbk', hSb', hcs2, hin2⟩ := (unhide HB).at k hlt'
      have hin := hin.turn hbk (Below.turn hbl) (fun e => e)
      have hin2 := hin2.turn hbk' (Below.turn hbl) (fun e => e)
      generalize hX : l[k] = x at *
      generalize hY : m[k] = y at *
      have HX := hide hX
      have HY := hide hY
      clear hX hY
      obtain rfl : cs = _ := hcs
      obtain rfl : cs2 = _ := hcs2
      have heq := neqN x y
      unfold cnC at hin hin2 heq
      have c0 : wr.cell? ⟨b, o + k * 4, none⟩ = some (.string x.1) := hin 0 _ rfl
      have c1 : wr.cell? ⟨b, o + k * 4 + 1, none⟩ = some (.int .i64 x.2.1) := hin 1 _ rfl
      have c2 : wr.cell? ⟨b, o + k * 4 + 2, none⟩ = some (.int .i64 x.2.2.1) := hin 2 _ rfl
      have c3 : wr.cell? ⟨b, o + k * 4 + 3, none⟩ = some (.int .i64 x.2.2.2) := hin 3 _ rfl
      have d0 : wr.cell? ⟨b', o' + k * 4, none⟩ = some (.string y.1) := hin2 0 _ rfl
      have d1 : wr.cell? ⟨b', o' + k * 4 + 1, none⟩ = some (.int .i64 y.2.1) := hin2 1 _ rfl
      have d2 : wr.cell? ⟨b', o' + k * 4 + 2, none⟩ = some (.int .i64 y.2.2.1) := hin2 2 _ rfl
      have d3 : wr.cell? ⟨b', o' + k * 4 + 3, none⟩ = some (.int .i64 y.2.2.2) := hin2 3 _ rfl
      clear hin hin2
      cases hs : sameN x y
      · simp only [hs] at heq
        have HP := hide hs
        clear hs
        have HF := hide (eqM_miss (p := sameN) hlt hlt' (by rw [unhide HX, unhide HY]; exact unhide HP))
        go_upto_region 6 with fail
        go_region
        all_goals go_wp2
        all_goals go_ret
        all_goals exact ⟨ret_bool (unhide HF).symm, (by (repeat (first | with_reducible assumption | with_reducible exact Below.refl _ _ | with_reducible refine Below.drew ?_ | with_reducible refine bdrewN ?_ _ | (with_reducible refine Below.alloc ?_ ?side _; case side => (first | omega | (simp [go_sem]; done) | (simp [go_sem]; omega))) | (with_reducible refine Below.setCell ?_ ?side _; case side => (first | omega | (simp [go_sem]; done) | (simp [go_sem]; omega))))))⟩
      · simp only [hs] at heq
        have HP := hide hs
        clear hs
        go_upto_region 6 with fail
        go_region
        all_goals go_wp2
        all_goals go_roundw
        case rel =>
          refine ⟨k + 1, by omega, by go_num, hide (fun j h h2 hj => ?_), (by (repeat (first | with_reducible assumption | with_reducible exact Below.refl _ _ | with_reducible refine Below.drew ?_ | with_reducible refine bdrewN ?_ _ | (with_reducible refine Below.alloc ?_ ?side _; case side => (first | omega | (simp [go_sem]; done) | (simp [go_sem]; omega))) | (with_reducible refine Below.setCell ?_ ?side _; case side => (first | omega | (simp [go_sem]; done) | (simp [go_sem]; omega))))))⟩
          by_cases hjk : j = k
          · subst hjk; rw [unhide HX, unhide HY]; exact unhide HP
          · exact unhide hall j h h2 (by omega)
        case measure => simp [intOf]; omega
    · have hki : ¬ (k : Int) < (l.length : Int) := by omega
      obtain rfl : k = l.length := by omega
      have HF := hide (eqM_all (p := sameN) (unhide HN) (fun j h1 h2 => unhide hall j h1 h2 h1))
      go_wp2
      go_ret
      exact ⟨ret_bool (unhide HF).symm, hbl⟩
end Go.Proofs.Ytlhjhnjpmafceaa
