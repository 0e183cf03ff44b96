/-
  Contracts of the law's own comparisons of Attrs and lists of them, at lists that are the same; of FindAttr of the program and of the specification.
-/
import Derived.Test.YtjhlammjnggghaaAttrs
namespace Go.Proofs.Ytjhlammjnggghaa
open Go.ChangeShapes Go.WideShapes Go.ChangeAt Go.RowKit
set_option linter.unusedVariables false
set_option maxRecDepth 100000

theorem lawEqAttr (k : ByteArray) (b : Bool) (n : Int) (t : ByteArray) (w : World) :
    Calls Try.prog 180 #[.agg #[.string k, .bool b, .int .i64 n, .string t], .agg #[.string k, .bool b, .int .i64 n, .string t]] w fun e w' => e = .returned (.bool true) ∧ Below w.heap.size w w' := by
  go_enter Try.func180, Try.ntmps180
  go_wp2
  go_ret
  exact ⟨rfl, by (repeat (first | with_reducible assumption | with_reducible exact Below.refl _ _ | with_reducible refine Below.drew ?_ | with_reducible refine bdrewN ?_ _ | (with_reducible refine Below.alloc ?_ ?side _; case side => (first | omega | (simp [go_sem]; done) | (simp [go_sem]; omega))) | (with_reducible refine Below.setCell ?_ ?side _; case side => (first | omega | (simp [go_sem]; done) | (simp [go_sem]; omega)))))⟩

theorem AttrsAt.at {w : World} {a : Option Addr} {n cap : Nat} {l : List AttrD} (h : AttrsAt w (.slice a n cap) l) (k : Nat) (hk : k < l.length) :
    ∃ b o, a = some ⟨b, o, none⟩ ∧ b < w.heap.size ∧ AttrAt w b (o + k * 4) (l.getD k dA) := by
  obtain ⟨a', cap', e, hl, hwf, h⟩ := h
  injection e with e1 e2 e3
  subst e1
  rcases h with h | ⟨b, o, h1, h2, h3⟩
  · subst h; simp at hk
  · exact ⟨b, o, h1, h2, h3 k hk⟩
theorem AttrsAt.form {w : World} {v : Value} {l : List AttrD} (h : AttrsAt w v l) : ∃ a cap, v = .slice a l.length cap := by
  obtain ⟨a, cap, e, _⟩ := h; exact ⟨a, cap, e⟩
theorem AttrsAt.len {w : World} {v : Value} {l : List AttrD} (h : AttrsAt w v l) : l.length ≤ 9223372036854775807 := by
  obtain ⟨a, cap, e, hl, _⟩ := h; exact hl
theorem AttrsAt.wf {w : World} {v : Value} {l : List AttrD} (h : AttrsAt w v l) (k : Nat) (hk : k < l.length) : AttrWf (l.getD k dA) := by
  obtain ⟨a, cap, e, hl, hwf, _⟩ := h; exact hwf _ (getD_mem l dA k hk)
set_option maxHeartbeats 2000000 in
theorem lawEqAttrS (l : List AttrD) (v v' : Value) (w : World) (ha : AttrsAt w v l) (hb : AttrsAt w v' l) :
    Calls Try.prog 104 #[v, v'] w fun e w' => e = .returned (.bool true) ∧ Below w.heap.size w w' := by
  obtain ⟨a, cap, rfl⟩ := ha.form
  obtain ⟨a', cap', rfl⟩ := hb.form
  have hl := ha.len
  have HA := hide ha
  have HB := hide hb
  clear ha hb
  go_enter Try.func104, Try.ntmps104
  go_wp2
  go_loopw [5] (fun i wk => ∃ k : Nat, k ≤ l.length ∧ i = .int .i64 k ∧ Below w.heap.size w wk) (fun i _ => l.length - (intOf i).toNat)
  case atStart => exact ⟨0, Nat.zero_le _, rfl, Below.refl _ _⟩
  case round =>
    obtain ⟨k, hk, rfl, hbl⟩ := hrel
    have hbs := hbl.size
    by_cases hlt : k < l.length
    · obtain ⟨b, o, rfl, hbk, c0, c1, c2, c3⟩ := (unhide HA).at k hlt
      obtain ⟨b', o', rfl, hbk', d0, d1, d2, d3⟩ := (unhide HB).at k hlt
      generalize l.getD k dA = x at *
      obtain ⟨kk, bb, nn, tt⟩ := x
      simp only at c0 c1 c2 c3 d0 d1 d2 d3
      rw [← hbl.cell hbk] at c0 c1 c2 c3
      rw [← hbl.cell hbk'] at d0 d1 d2 d3
      have hki : (k : Int) < (l.length : Int) := by omega
      go_wp2_with fail
      go_region_with (go_at_call 180; refine (lawEqAttr kk bb nn tt _).mono ?_; rintro e w2 ⟨rfl, hb2⟩)
      all_goals
        go_wp2
        go_roundw
        case rel => exact ⟨k + 1, by omega, by go_num, bthen (by (repeat (first | with_reducible assumption | with_reducible exact Below.refl _ _ | with_reducible refine Below.drew ?_ | with_reducible refine bdrewN ?_ _ | (with_reducible refine Below.alloc ?_ ?side _; case side => (first | omega | (simp [go_sem]; done) | (simp [go_sem]; omega))) | (with_reducible refine Below.setCell ?_ ?side _; case side => (first | omega | (simp [go_sem]; done) | (simp [go_sem]; omega)))))) hb2⟩
        case measure => simp [intOf]; omega
    · have hki : ¬ (k : Int) < (l.length : Int) := by omega
      go_wp2
      go_ret
      exact ⟨rfl, hbl⟩

theorem toList_ne {a b : ByteArray} (h : a ≠ b) : (a.toList == b.toList) = false := by
  rw [beq_eq_false_iff_ne, ByteArray.toList_eq, ByteArray.toList_eq]
  intro e
  exact h (ByteArray.ext (Array.toList_inj.1 e))
def findA (l : List AttrD) (key : ByteArray) : Option AttrD := l.find? fun x => decide (x.1 = key)
theorem findA_hit {l : List AttrD} {key : ByteArray} {k : Nat} (hk : k < l.length) (hno : ∀ j, j < k → (l.getD j dA).1 ≠ key) (h : (l.getD k dA).1 = key) : findA l key = some (l.getD k dA) := by
  unfold findA
  rw [List.find?_eq_some_iff_getElem]
  refine ⟨decide_eq_true h, k, hk, by simp [List.getD, hk], fun j hj => ?_⟩
  have := hno j hj
  have hj2 : j < l.length := by omega
  simp [List.getD, hj2] at this
  simp [this]
theorem findA_none {l : List AttrD} {key : ByteArray} (hno : ∀ j, j < l.length → (l.getD j dA).1 ≠ key) : findA l key = none := by
  unfold findA
  rw [List.find?_eq_none]
  intro x hx
  obtain ⟨j, hj, rfl⟩ := List.mem_iff_getElem.1 hx
  have := hno j hj
  simp [List.getD, hj] at this
  simp [this]

def FoundA (l : List AttrD) (key : ByteArray) (e : Ending) : Prop :=
  ∃ (kk : ByteArray) (bb : Bool) (nn : Int) (tt : ByteArray) (f : Bool), e = .returned (.tuple #[.agg #[.string kk, .bool bb, .int .i64 nn, .string tt], .bool f]) ∧ (kk, bb, nn, tt) = (findA l key).getD dA ∧ f = (findA l key).isSome

set_option maxHeartbeats 2000000 in
theorem specFindAttr (l : List AttrD) (v : Value) (key : ByteArray) (w : World) (ha : AttrsAt w v l) :
    Calls Try.prog 210 #[v, .string key] w fun e w' => FoundA l key e ∧ Below w.heap.size w w' := by
  obtain ⟨a, cap, rfl⟩ := ha.form
  have hl := ha.len
  have HA := hide ha
  clear ha
  go_enter Try.func210, Try.ntmps210
  go_wp2
  go_loop [6] (fun i => ∃ k : Nat, k ≤ l.length ∧ i = .int .i64 k ∧ Hid (∀ j, j < k → (l.getD j dA).1 ≠ key)) (fun i => l.length - (intOf i).toNat)
  case atStart => exact ⟨0, Nat.zero_le _, rfl, hide (fun j hj => absurd hj (Nat.not_lt_zero _))⟩
  case round =>
    obtain ⟨k, hk, rfl, hno⟩ := hrel
    by_cases hlt : k < l.length
    · obtain ⟨b, o, rfl, hbk, c0, c1, c2, c3⟩ := (unhide HA).at k hlt
      have hbk' : b ≠ w.heap.size := by omega
      generalize hX : l.getD k dA = x at *
      obtain ⟨kk, bb, nn, tt⟩ := x
      simp only at c0 c1 c2 c3
      have HX := hide hX
      clear hX
      have hki : (k : Int) < (l.length : Int) := by omega
      by_cases hkey : kk = key
      · subst hkey
        go_wp2
        have hf := findA_hit hlt (unhide hno) (by rw [unhide HX])
        refine bodyPost_ret (v := .tuple #[.agg #[.string kk, .bool bb, .int .i64 nn, .string tt], .bool true]) (by simp [results, Try.results210, go_sem]) rfl ⟨⟨kk, bb, nn, tt, true, rfl, by rw [hf, unhide HX]; rfl, by rw [hf]; rfl⟩, by (repeat (first | with_reducible assumption | with_reducible exact Below.refl _ _ | with_reducible refine Below.drew ?_ | with_reducible refine bdrewN ?_ _ | (with_reducible refine Below.alloc ?_ ?side _; case side => (first | omega | (simp [go_sem]; done) | (simp [go_sem]; omega))) | (with_reducible refine Below.setCell ?_ ?side _; case side => (first | omega | (simp [go_sem]; done) | (simp [go_sem]; omega)))))⟩
      · have hne' := toList_ne hkey
        go_wp2
        refine ⟨⟨k + 1, by omega, by go_num, hide (fun j hj => ?_)⟩, by simp [intOf]; omega⟩
        by_cases hjk : j = k
        · subst hjk; rw [unhide HX]; exact hkey
        · exact unhide hno j (by omega)
    · have hki : ¬ (k : Int) < (l.length : Int) := by omega
      obtain rfl : k = l.length := by omega
      have hf := findA_none (unhide hno)
      have HF := hide hf
      clear hf
      go_wp2
      exact bodyPost_ret (v := .tuple #[.agg #[.string ⟨#[]⟩, .bool false, .int .i64 0, .string ⟨#[]⟩], .bool false]) (by simp [results, Try.results210, go_sem]) rfl ⟨⟨_, _, _, _, false, rfl, by rw [unhide HF]; rfl, by rw [unhide HF]; rfl⟩, by (repeat (first | with_reducible assumption | with_reducible exact Below.refl _ _ | with_reducible refine Below.drew ?_ | with_reducible refine bdrewN ?_ _ | (with_reducible refine Below.alloc ?_ ?side _; case side => (first | omega | (simp [go_sem]; done) | (simp [go_sem]; omega))) | (with_reducible refine Below.setCell ?_ ?side _; case side => (first | omega | (simp [go_sem]; done) | (simp [go_sem]; omega)))))⟩

set_option maxHeartbeats 2000000 in
theorem implFindAttr (l : List AttrD) (v : Value) (key : ByteArray) (w : World) (ha : AttrsAt w v l) :
    Calls Try.prog 245 #[v, .string key] w fun e w' => FoundA l key e ∧ Below w.heap.size w w' := by
  obtain ⟨a, cap, rfl⟩ := ha.form
  have hl := ha.len
  have HA := hide ha
  clear ha
  go_enter Try.func245, Try.ntmps245
  go_wp2
  generalize hW1 : w.alloc (Obj.cells #[Value.string { data := #[] }, Value.bool false, Value.int IntKind.i64 0, Value.string { data := #[] }] 180) = w1
  have hb1 : Below w.heap.size w w1 := by rw [← hW1]; exact bnew _ _
  have hs1 : w1.heap.size = w.heap.size + 1 := by rw [← hW1]; simp
  have hr1 : Row w1 w.heap.size 4 := by rw [← hW1]; exact Row.new rfl
  have z0 : w1.cell? ⟨w.heap.size, 0, none⟩ = some (.string ⟨#[]⟩) := by rw [← hW1]; simp [go_sem]
  have z1 : w1.cell? ⟨w.heap.size, 1, none⟩ = some (.bool false) := by rw [← hW1]; simp [go_sem]
  have z2 : w1.cell? ⟨w.heap.size, 2, none⟩ = some (.int .i64 0) := by rw [← hW1]; simp [go_sem]
  have z3 : w1.cell? ⟨w.heap.size, 3, none⟩ = some (.string ⟨#[]⟩) := by rw [← hW1]; simp [go_sem]
  clear hW1
  go_loopw [10] (fun i wk => ∃ k : Nat, k ≤ l.length ∧ i = .int .i64 k ∧ Hid (∀ j, j < k → (l.getD j dA).1 ≠ key) ∧ Below w1.heap.size w1 wk) (fun i _ => l.length - (intOf i).toNat)
  case atStart => exact ⟨0, Nat.zero_le _, rfl, hide (fun j hj => absurd hj (Nat.not_lt_zero _)), Below.refl _ _⟩
  case round =>
    obtain ⟨k, hk, rfl, hno, hbl⟩ := hrel
    have hbs := hbl.size
    have hlt1 : w.heap.size < w1.heap.size := by omega
    rw [← hbl.cell hlt1] at z0 z1 z2 z3
    have f0 := (hr1.2 0 (by omega)).2
    have f1 := (hr1.2 1 (by omega)).2
    have f2 := (hr1.2 2 (by omega)).2
    have f3 := (hr1.2 3 (by omega)).2
    rw [← hbl.frozen hlt1] at f0 f1 f2 f3
    have hlt2 : w.heap.size < wr.heap.size := by omega
    by_cases hlt : k < l.length
    · obtain ⟨b, o, rfl, hbk, c0, c1, c2, c3⟩ := (unhide HA).at k hlt
      have hbk' : b ≠ w.heap.size := by omega
      generalize hX : l.getD k dA = x at *
      obtain ⟨kk, bb, nn, tt⟩ := x
      simp only at c0 c1 c2 c3
      have HX := hide hX
      clear hX
      have hbk1 : b < w1.heap.size := by omega
      rw [← hb1.cell hbk, ← hbl.cell hbk1] at c0 c1 c2 c3
      have hki : (k : Int) < (l.length : Int) := by omega
      by_cases hkey : kk = key
      · subst hkey
        have hf := findA_hit hlt (unhide hno) (by rw [unhide HX])
        have HF := hide hf
        clear hf
        go_wp2
        exact bodyPost_ret (v := .tuple #[.agg #[.string kk, .bool bb, .int .i64 nn, .string tt], .bool true]) (by simp [results, Try.results245, go_sem, *]) rfl ⟨⟨kk, bb, nn, tt, true, rfl, by rw [unhide HF, unhide HX]; rfl, by rw [unhide HF]; rfl⟩, by have hbb := bthen hb1 hbl; (repeat (first | with_reducible assumption | with_reducible exact Below.refl _ _ | with_reducible refine Below.drew ?_ | with_reducible refine bdrewN ?_ _ | (with_reducible refine Below.alloc ?_ ?side _; case side => (first | omega | (simp [go_sem]; done) | (simp [go_sem]; omega))) | (with_reducible refine Below.setCell ?_ ?side _; case side => (first | omega | (simp [go_sem]; done) | (simp [go_sem]; omega)))))⟩
      · have hne' := toList_ne hkey
        go_wp2
        refine ⟨⟨k + 1, by omega, by go_num, hide (fun j hj => ?_), by (repeat (first | with_reducible assumption | with_reducible exact Below.refl _ _ | with_reducible refine Below.drew ?_ | with_reducible refine bdrewN ?_ _ | (with_reducible refine Below.alloc ?_ ?side _; case side => (first | omega | (simp [go_sem]; done) | (simp [go_sem]; omega))) | (with_reducible refine Below.setCell ?_ ?side _; case side => (first | omega | (simp [go_sem]; done) | (simp [go_sem]; omega)))))⟩, by simp [intOf]; omega⟩
        by_cases hjk : j = k
        · subst hjk; rw [unhide HX]; exact hkey
        · exact unhide hno j (by omega)
    · have hki : ¬ (k : Int) < (l.length : Int) := by omega
      obtain rfl : k = l.length := by omega
      have hf := findA_none (unhide hno)
      have HF := hide hf
      clear hf
      go_wp2
      exact bodyPost_ret (v := .tuple #[.agg #[.string ⟨#[]⟩, .bool false, .int .i64 0, .string ⟨#[]⟩], .bool false]) (by simp [results, Try.results245, go_sem, *]) rfl ⟨⟨_, _, _, _, false, rfl, by rw [unhide HF]; rfl, by rw [unhide HF]; rfl⟩, by have hbb := bthen hb1 hbl; (repeat (first | with_reducible assumption | with_reducible exact Below.refl _ _ | with_reducible refine Below.drew ?_ | with_reducible refine bdrewN ?_ _ | (with_reducible refine Below.alloc ?_ ?side _; case side => (first | omega | (simp [go_sem]; done) | (simp [go_sem]; omega))) | (with_reducible refine Below.setCell ?_ ?side _; case side => (first | omega | (simp [go_sem]; done) | (simp [go_sem]; omega)))))⟩

end Go.Proofs.Ytjhlammjnggghaa
