/-
  What draws remembered verdicts for a law: contracts of the specification's functions.
-/
import Derived.Test.YtjhlammjnggghaaDrB
import Derived.Test.YtjhlammjnggghaaRem5
import Derived.Test.YtjhlammjnggghaaForg1
namespace Go.Proofs.Ytjhlammjnggghaa
open Go.ChangeShapes Go.WideShapes Go.ChangeAt Go.RowKit
set_option linter.unusedVariables false
set_option maxRecDepth 100000
variable {B : Nat}

def SmallV (x : VerdictD) : Prop := 0 ≤ x.trace ∧ x.trace ≤ 1000
def AllV (l : List VerdictD) : Prop := ∀ x ∈ l, SmallV x
theorem allV_snoc {l : List VerdictD} {x : VerdictD} (h : AllV l) (hx : SmallV x) : AllV (l ++ [x]) := by
  intro y hy
  rcases List.mem_append.1 hy with hy | hy
  · exact h y hy
  · rw [List.mem_singleton] at hy; subst hy; exact hx
theorem allV_rem {l : List VerdictD} {x : VerdictD} (h : AllV l) (hx : SmallV x) (most : Int) : AllV (remL l x most) := by
  have hA : AllV (remA l x) := allV_snoc (fun y hy => h y (List.mem_filter.1 hy).1) hx
  intro y hy
  unfold remL at hy
  split at hy
  · exact h y hy
  · exact hA y (List.mem_of_mem_drop hy)
theorem allV_ok {l : List VerdictD} (h : AllV l) : ∀ x ∈ l, IntOk x.trace := fun x hx => by
  have h1 := h x hx
  obtain ⟨n, hn⟩ := Int.eq_ofNat_of_zero_le h1.1
  rw [hn]
  exact wfI n (by have := h1.2; omega)
theorem bulk_ver (l : List VerdictD) : bulkL verdictBulk l = l.length := by
  have h : (l.map verdictBulk).sum = 0 := by
    induction l with
    | nil => rfl
    | cons x r ih => rw [List.map_cons, List.sum_cons, ih]; rfl
  unfold bulkL
  omega
theorem ownsV_turn {base : Nat} {w w' : World} {U : Nat → Prop} {e : TypeId} {size : Nat} {v : Value} {n : Nat} {xs : List Value} (h : w.ownsRow base e size v n xs) (ht : Turn U w w') (hU : ∀ k, U k → k < base) : w'.ownsRow base e size v n xs := by
  obtain ⟨h1, h2⟩ := h
  refine ⟨h1, ?_⟩
  rcases h2 with h2 | ⟨g, cap, cur, hv, hg, hh, rest⟩
  · exact .inl h2
  · have hlt : g < w.heap.size := (Array.getElem?_eq_some_iff.1 hh).1
    exact .inr ⟨g, cap, cur, hv, hg, by rw [ht.2.2.2.2 g hlt (fun hu => by have := hU g hu; omega)]; exact hh, rest⟩
def RowV (base : Nat) (w : World) (v : Value) (l : List VerdictD) : Prop := w.ownsRow base 59 3 v l.length (cellsW l)
theorem RowV.read {base : Nat} {w : World} {v : Value} {l : List VerdictD} (h : RowV base w v l) (hl : l.length ≤ 1048576) : LAt 3 verdictR w (Within base w.heap.size) v l := (vers_done h (by omega)).read verdictR_widens verdictO_read
theorem RowV.form {base : Nat} {w : World} {v : Value} {l : List VerdictD} (h : RowV base w v l) : ∃ a c, v = .slice a l.length c := by
  rcases h.2 with ⟨rfl, h0⟩ | ⟨g, cap, _, rfl, _⟩
  · exact ⟨none, 0, by rw [h0]⟩
  · exact ⟨_, _, rfl⟩
theorem wpl_appV {P : Program} {w : World} {ops : Array Oper} {rest : List Oper} {o : Oper} {a : Act} {Q : Exit → Act → World → Prop} (hgd : o.guard = none) (s x : Operand) (t : TypeId)
    (ho : o.op = .call { callee := .builtin .append, args := #[s, x], argTypes := #[t, t] }) (v u : Value) (hs : a.eval s = v) (hx : a.eval x = u) {v' : Value} {w' : World}
    (hr : (Builtin.append_ #[t, t] o.type #[v, u]).run P w = .ok v' w') (h : wpList P ops Q rest (a.put o.dst v') w') : wpList P ops Q (o :: rest) a w := by
  refine wpList_plain hgd fun K hK => ?_
  unfold Oper.wp execOp
  simp only [ho, resolve, invoke, builtin, Sem.run_bind, Sem.run_pure, Result.andThen_ok, List.map_toArray, List.map_cons, List.map_nil, hs, hx, hr]
  exact hK _ _ h
set_option maxHeartbeats 2000000 in
theorem l12Draw_any (b : Nat) (w : World) (hc : Cur B w b) :
    Calls Try.prog 188 #[.pointer (some ⟨b, 0, none⟩)] w fun e w' => (∃ v l, e = .returned v ∧ l.length ≤ 5 ∧ AllV l ∧ RowV w.heap.size w' v l) ∧ Cur B w' b ∧ Turns b w w' := by
  have hlt := hc.lt
  have hr0 : RowV w.heap.size (w.alloc (.cells #[] 59)) (.slice (some ⟨w.heap.size, 0, none⟩) 0 0) [] := World.ownsRow_made (base := w.heap.size) (e := 59) (size := 3) w #[] 0 (Nat.le_refl _) (by omega) rfl
  have hc0 := hc.keep (bnew w (.cells #[] 59))
  have t0 := Turns.allocs (b := b) (w := w) (.cells #[] 59)
  have HR0 := hide hr0
  clear hc hr0
  go_enter Try.func188, Try.ntmps188
  go_upto_region 2 with fail
  generalize World.alloc w _ = w0 at *
  go_wp2_with fail
  refine (l1Below_any b 6 (by omega) w0 hc0).mono ?_
  rintro e w1 ⟨⟨m, rfl, hm0, hm1⟩, hc1, ht1⟩
  obtain ⟨m, rfl⟩ := Int.eq_ofNat_of_zero_le hm0
  have HR1 : Hid (RowV w.heap.size w1 (.slice (some ⟨w.heap.size, 0, none⟩) 0 0) []) := hide (ownsV_turn (unhide HR0) ht1.turn (fun k e => by omega))
  have T1 := t0.trans ht1
  clear HR0 hc0 t0 ht1
  go_upto_region 3 with fail
  go_loopw [3, 4] (fun o i wk => ∃ (k : Nat) (l : List VerdictD), k + l.length ≤ 5 ∧ i = .int .i64 k ∧ Hid (AllV l) ∧ Hid (RowV w.heap.size wk o l) ∧ Cur B wk b ∧ Turns b w wk) (fun _ i _ => (intOf i).toNat)
  case atStart => exact ⟨m, [], by simp; omega, rfl, hide (fun x hx => by simp at hx), HR1, hc1, T1⟩
  case round =>
    obtain ⟨k, l, hk, rfl, HT, HG, hc, ht⟩ := hrel
    have hbs := ht.size
    clear hc1 T1 HR1
    by_cases hlt5 : 0 < k
    · have hki : (0 : Int) < (k : Int) := by omega
      obtain ⟨al, cl, rfl⟩ := (unhide HG).form
      go_wp2_with fail
      refine (l1Below_any b 7 (by omega) wr hc).mono ?_
      rintro e w2 ⟨⟨x, rfl, hx0, hx1⟩, hc2, ht2⟩
      have HG2 : Hid (RowV w.heap.size w2 _ l) := hide (ownsV_turn (unhide HG) ht2.turn (fun k e => by omega))
      have T2 := ht.trans ht2
      clear HG hc ht ht2 hbs
      go_wp2_with fail
      refine (l1Below_any b 9 (by omega) w2 hc2).mono ?_
      rintro e w3 ⟨⟨y, rfl, hy0, hy1⟩, hc3, ht3⟩
      have HG3 : Hid (RowV w.heap.size w3 _ l) := hide (ownsV_turn (unhide HG2) ht3.turn (fun k e => by omega))
      have T3 := T2.trans ht3
      clear HG2 hc2 T2 ht3
      go_wp2_with fail
      refine (l1Once_any b 2 (by omega) w3 hc3).mono ?_
      rintro e w4 ⟨⟨z, rfl⟩, hc4, ht4⟩
      have hrow4 : RowV w.heap.size w4 _ l := ownsV_turn (unhide HG3) ht4.turn (fun k e => by omega)
      have T4 := T3.trans ht4
      have HL := hide (hrow4.read (by omega))
      have hsz4 := T4.size
      clear HG3 hc3 T3 ht4 hrow4
      go_wp2_with fail
      refine (specRememberK l ⟨1 + x, 1 + y, z⟩ 6 _ _ w4 (unhide HL) (by rw [bulk_ver]; omega)).mono ?_
      rintro e w5 ⟨v5, rfl, hrow5, hb5⟩
      have hlen5 := remL_len l ⟨1 + x, 1 + y, z⟩ 6
      have HV5 := hide (allV_rem (unhide HT) (show SmallV ⟨1 + x, 1 + y, z⟩ from ⟨by show (0 : Int) ≤ 1 + x; omega, by show 1 + x ≤ (1000 : Int); omega⟩) 6)
      have HR5 : Hid (RowV w.heap.size w5 v5 (remL l ⟨1 + x, 1 + y, z⟩ 6)) := hide (owns_mono hrow5 hsz4)
      have hc5 := hc4.keep hb5
      have T5 := T4.trans (Turns.of_below hb5)
      clear hc4 T4 hb5 hrow5 HL HT
      generalize remL l ⟨1 + x, 1 + y, z⟩ 6 = L5 at *
      go_wp2
      go_roundw
      case rel => exact ⟨k - 1, L5, by omega, by go_num, HV5, HR5, hc5, T5⟩
      case measure => simp [intOf]; omega
    · have hki : ¬ (0 : Int) < (k : Int) := by omega
      have HF := hide (And.intro HG (And.intro hc ht))
      clear hc ht HG
      go_wp2
      go_ret
      obtain ⟨HG, hc, ht⟩ := unhide HF
      exact ⟨⟨_, rfl, l, by omega, unhide HT, unhide HG⟩, hc, ht⟩
set_option maxHeartbeats 2000000 in
theorem l12Any_any (b : Nat) (w : World) (hc : Cur B w b) :
    Calls Try.prog 122 #[.pointer (some ⟨b, 0, none⟩)] w fun e w' => (∃ v l, e = .returned v ∧ l.length ≤ 6 ∧ AllV l ∧ RowV w.heap.size w' v l) ∧ Cur B w' b ∧ Turns b w w' := by
  have hlt := hc.lt
  have hhB := hc.high
  go_enter Try.func122, Try.ntmps122
  go_wp2_with fail
  refine (l12Draw_any b w hc).mono ?_
  rintro e w1 ⟨⟨v, l, rfl, hl5, hal, hrow⟩, hc1, ht1⟩
  obtain ⟨al, cl, rfl⟩ := hrow.form
  have hs1 := ht1.size
  have HAL := hide hal
  have HROW := hide hrow
  clear hal hrow hc
  go_wp2_with fail
  refine (l1Once_any b 4 (by omega) w1 hc1).mono ?_
  rintro e w2 ⟨⟨z, rfl⟩, hc2, ht2⟩
  have HR2 : Hid (RowV w.heap.size w2 (.slice al l.length cl) l) := hide (ownsV_turn (unhide HROW) ht2.turn (fun k e => by omega))
  have T2 := ht1.trans ht2
  clear HROW hc1 ht1 ht2 hs1
  cases z with
  | false =>
    have HF := hide (And.intro (unhide HR2) (And.intro hc2 T2))
    clear HR2 hc2 T2
    go_wp2
    go_ret
    obtain ⟨h1, h2, h3⟩ := unhide HF
    exact ⟨⟨_, l, rfl, by omega, unhide HAL, h1⟩, h2, h3⟩
  | true =>
    have hs2 := T2.size
    have hlt2 := hc2.lt
    go_wp2_with fail
    refine (l1Int_any b w2.heap.size [0, 1, 2, 1000] 4 _ (hc2.keep (bnew _ _)) (by omega) (by simp) (by simp) (by simp) ?_).mono ?_
    · exact cells_ints w2 3 [0, 1, 2, 1000]
    rintro e w3 ⟨⟨x, rfl, hmx⟩, hc3, ht3⟩
    have hkx : 0 ≤ x ∧ x ≤ 1000 := by simp only [List.mem_cons, List.not_mem_nil, or_false] at hmx; omega
    have T3 := (T2.alloc _).trans ht3
    have HR3 : Hid (RowV w.heap.size w3 (.slice al l.length cl) l) := hide (ownsV_turn (owns_below (unhide HR2) (bnew _ _)) ht3.turn (fun k e => by omega))
    have hs3 := T3.size
    have hlt3 := hc3.lt
    clear HR2 hc2 T2 ht3 hs2 hlt2 hmx
    go_wp2_with fail
    refine (l1Int_any b w3.heap.size [0, 1] 2 _ (hc3.keep (bnew _ _)) (by omega) (by simp) (by simp) (by simp) ?_).mono ?_
    · exact cells_ints w3 3 [0, 1]
    rintro e w4 ⟨⟨y, rfl, hmy⟩, hc4, ht4⟩
    have T4 := (T3.alloc _).trans ht4
    have hrow4 : RowV w.heap.size w4 (.slice al l.length cl) l := ownsV_turn (owns_below (unhide HR3) (bnew _ _)) ht4.turn (fun k e => by omega)
    have hs4 := T4.size
    have hlt4 := hc4.lt
    obtain ⟨v', w5, hr, how, hb5⟩ := appV1 hrow4 hs4 ⟨x, y, false⟩ (by omega)
    have hV := allV_snoc (unhide HAL) (show SmallV ⟨x, y, false⟩ from hkx)
    have hap : RowV w.heap.size w5 v' (l ++ [⟨x, y, false⟩]) := by unfold RowV; rw [List.length_append]; exact how
    have HF := hide (And.intro hV (And.intro hap (And.intro (hc4.keepB (hb5.mono hhB)) (⟨hb5.os.trans T4.os, hb5.tape.trans T4.tape, hb5.output.trans T4.output, Nat.le_trans T4.size hb5.size, fun k hk hkb => (hb5.block k hk).trans (T4.block k hk hkb)⟩ : Turns b w w5))))
    clear hV hap hc4 T4 ht4 hrow4 how hb5 HR3 hc3 T3 hs3 hlt3 hmy
    simp only at hr
    go_wp2_with (first | (at_builtin; refine wpl_appV rfl (.tmp 8) (.tmp 16) 57 rfl _ _ rfl rfl hr ?_))
    go_ret
    obtain ⟨h0, h1, h2, h3⟩ := unhide HF
    exact ⟨⟨_, _, rfl, by rw [List.length_append]; simp; omega, h0, h1⟩, h2, h3⟩
end Go.Proofs.Ytjhlammjnggghaa
