/-
  Forgets of the program: what is known is counted in a map.
-/
import Derived.Test.YtjhlammjnggghaaForg0
import Derived.Maps.OwnOps
import Derived.Maps.Views
namespace Go.Proofs.Ytjhlammjnggghaa
open Go.ChangeShapes Go.WideShapes Go.ChangeAt Go.RowKit Go.Maps
set_option linter.unusedVariables false
set_option maxRecDepth 100000

def IntOk (x : Int) : Prop := (Lit.int .i64 x).wf = true
def cntT (m : List VerdictD) (x : Int) : Nat := m.countP (ofB x)
theorem cntT_step (m : List VerdictD) (x : Int) (k : Nat) (h : k < m.length) : cntT (m.take (k + 1)) x = cntT (m.take k) x + if m[k].trace = x then 1 else 0 := by
  unfold cntT
  rw [List.take_succ_eq_append_getElem h, List.countP_append]
  simp [List.countP_cons, ofB]
theorem cntT_le (m : List VerdictD) (x : Int) (k : Nat) : cntT (m.take k) x ≤ k := by
  have : cntT (m.take k) x ≤ (m.take k).length := List.countP_le_length
  rw [List.length_take] at this
  omega
theorem cntT_is (m : List VerdictD) (x : Int) : (cntT m x = 0) = (verdIs m x = false) := by
  unfold cntT verdIs
  rw [List.countP_eq_zero]
  apply propext
  constructor
  · intro h
    rw [List.find?_eq_none.2 h]
    rfl
  · intro h y hy hb
    have : m.find? (ofB x) = none := by simpa using h
    exact List.find?_eq_none.1 this y hy hb
/-- The map tells of each trace how often it is among the first k. -/
def Tells (m : List VerdictD) (k : Nat) (D : DataW Unit) : Prop := IsMap D ∧ ∀ x, D.atKey (.int .i64 x) (.lit (.int .i64 0)) = .lit (.int .i64 (cntT (m.take k) x))
theorem Tells.start (m : List VerdictD) : Tells m 0 (.map []) := ⟨isMap_empty, fun x => by simp [cntT]; rfl⟩
theorem isKey_int (x : Int) (h : IntOk x) : WideAt.IsKeyLit (.int .i64 x) := (int_keyed (P := Try.prog) Try.underlying3).key (keyOf_int_mk Try.underlying3 h)
theorem Tells.step {m : List VerdictD} {k : Nat} {D : DataW Unit} (h : Tells m k D) (hk : k < m.length) (hw : IntOk m[k].trace) : Tells m (k + 1) (D.put (.int .i64 m[k].trace) (.lit (.int .i64 (cntT (m.take k) m[k].trace + 1)))) := by
  refine ⟨h.1.put _ _, fun x => ?_⟩
  rw [cntT_step m x k hk]
  by_cases e : m[k].trace = x
  · subst e
    rw [atKey_put_same h.1 (isKey_int _ hw), if_pos rfl]
    simp
  · rw [atKey_put_other (fun h => e (by injection h with _ h2; exact h2.symm)), h.2 x, if_neg e, Nat.add_zero]
theorem zeroI (w : World) : (zeroValue 3).run Try.prog w = .ok (.int .i64 0) w := by kernel_rfl
theorem wfI (n : Nat) (h : n ≤ 1048577) : IntOk (n : Int) := by
  unfold IntOk
  have h1 : IntKind.i64.min = -9223372036854775808 := by rfl
  have h2 : IntKind.i64.max = 9223372036854775807 := by rfl
  simp only [Lit.wf, h1, h2, Bool.and_eq_true, decide_eq_true_eq]
  omega
def Knows (w wk : World) (b : Nat) (m : List VerdictD) (k : Nat) : Prop := ∃ D, wk.ownsMap Try.prog 3 (plainElem (H := Unit) Try.prog 3) b k D ∧ Tells m k D ∧ Below w.heap.size w wk
set_option maxHeartbeats 4000000 in
theorem implForgets (l m : List VerdictD) (S0 : Nat → Prop) (v0 : Value) (S1 : Nat → Prop) (v1 : Value) (w : World) (h0 : LAt 3 verdictR w S0 v0 l) (b0 : bulkL verdictBulk l ≤ 1048576) (h1 : LAt 3 verdictR w S1 v1 m) (b1 : bulkL verdictBulk m ≤ 1048576) (hwl : ∀ x ∈ l, IntOk x.trace) (hwm : ∀ x ∈ m, IntOk x.trace) :
    Calls Try.prog 46 #[v0, v1] w fun e w' => ∃ v', e = .returned v' ∧ LOw 1 intO w' (Within w.heap.size w'.heap.size) v' (gone l m) ∧ Below w.heap.size w w' := by
  obtain ⟨a, cap, rfl⟩ := h0.form
  obtain ⟨a1, cap1, rfl⟩ := h1.form
  have hl := bulkL_len verdictBulk l
  have hm := bulkL_len verdictBulk m
  have HA := hide h0
  have HM := hide h1
  have HWL := hide hwl
  have HWM := hide hwm
  clear h0 h1 hwl hwm
  have hk0 : Hid (Knows w (w.alloc (.map #[] 0)) w.heap.size m 0) := hide ⟨_, World.ownsMap_made w _ _ _, Tells.start m, bnew _ _⟩
  have hml : (1048577 : Nat) < maxLen := by unfold maxLen; omega
  have hmm := @run_makeMap Try.prog
  go_enter Try.func46, Try.ntmps46
  go_wp2
  clear hmm
  go_loopw [14] (fun i wk => ∃ k : Nat, k ≤ m.length ∧ i = .int .i64 k ∧ Hid (Knows w wk w.heap.size m k)) (fun i _ => m.length - (intOf i).toNat)
  case atStart => exact ⟨0, Nat.zero_le _, rfl, hk0⟩
  case round =>
    obtain ⟨k, hk, rfl, hkn⟩ := hrel
    clear hk0
    obtain ⟨D, hown, htl, hbl⟩ := unhide hkn
    have hbs := hbl.size
    have hmb := hown.lt
    by_cases hlt : k < m.length
    · have hki : (k : Int) < (m.length : Int) := by omega
      obtain ⟨b, o, cs, rfl, hbk, hSb, hcs, hin⟩ := (unhide HM).at k hlt
      have hin := hin.turn hbk (Below.turn hbl) (fun e => e)
      have hw := unhide HWM _ (List.getElem_mem hlt)
      have hst := htl.step hlt hw
      have hcl := cntT_le m m[k].trace k
      have hat0 := htl.2 m[k].trace
      generalize m[k] = X at *
      obtain rfl : cs = _ := hcs
      have c0 : wr.cell? ⟨b, o + k * 3, none⟩ = some (.int .i64 X.trace) := hin 0 _ rfl
      have c1 : wr.cell? ⟨b, o + k * 3 + 1, none⟩ = some (.int .i64 X.stamp) := hin 1 _ rfl
      have c2 : wr.cell? ⟨b, o + k * 3 + 2, none⟩ = some (.bool X.keep) := hin 2 _ rfl
      have hown1 := hown.kept (World.grownBy_alloc wr (.cells #[.int .i64 X.trace, .int .i64 X.stamp, .bool X.keep] 59) none) (by simp)
      have bl1 := bthen hbl (bnew wr (.cells #[.int .i64 X.trace, .int .i64 X.stamp, .bool X.keep] 59))
      have hkey := keyOf_int_mk (P := Try.prog) Try.underlying3 hw
      generalize hCN : cntT (m.take k) X.trace = CN at *
      have hwc : (Lit.int .i64 ((CN : Int) + 1)).wf = true := by have := wfI (CN + 1) (by omega); unfold IntOk at this; simpa using this
      have HST := hide hst
      have HB1 := hide bl1
      have HAT := hide hat0
      clear hin hst bl1 hat0 hown htl hbl hkn hCN
      go_wp2_with (first | (at_lookup; refine wpList_lookup_own_int (H := Unit) _ rfl (.tmp 18) (.tmp 20) 168 rfl 3 3 .i64 (int_keyed Try.underlying3) Try.underlying168 Try.underlying3 (zeroI _) w.heap.size k _ rfl hown1 _ _ rfl hkey ?_; intro c hat hwc0; obtain rfl : c = (CN : Int) := (by have h := unhide HAT; rw [hat] at h; exact (Lit.int.inj (DataW.lit.inj h)).2)) | (at_mapUpdate; refine wpList_mapUpdate_own (H := Unit) _ rfl (.tmp 18) (.tmp 20) (.tmp 22) 168 rfl 3 3 (int_keyed Try.underlying3) Try.underlying168 _ w.heap.size k _ rfl hown1 (by omega) _ _ _ rfl rfl hkey _ [] (plainElem_int Try.underlying3 hwc) ?_; intro w1 hown2 hgr2))
      have bl2 := grown_below (unhide HB1) hgr2 (fun q e => by rw [Option.some.injEq] at e; omega) (by simp; omega)
      have HK := hide (show Knows w w1 w.heap.size m (k + 1) from ⟨_, hown2, unhide HST, bl2⟩)
      clear hown1 hown2 hgr2 bl2
      go_roundw
      case rel => exact ⟨k + 1, by omega, by go_num, HK⟩
      case measure => simp [intOf]; omega
    · have hki : ¬ (k : Int) < (m.length : Int) := by omega
      obtain rfl : k = m.length := by omega
      have htl : ∀ x, D.atKey (.int .i64 x) (.lit (.int .i64 0)) = .lit (.int .i64 (cntT m x)) := fun x => by have h := htl.2 x; rwa [List.take_length] at h
      have how0 : Hid ((wr.alloc (.cells #[] 3)).ownsRow (w.heap.size + 1) 3 1 (.slice (some ⟨wr.heap.size, 0, none⟩) 0 0) 0 (cellsI2 [])) := hide (World.ownsRow_made (base := w.heap.size + 1) (e := 3) (size := 1) wr #[] 0 (by omega) (by unfold maxLen; omega) rfl)
      have hown0 : Hid ((wr.alloc (.cells #[] 3)).ownsMap Try.prog 3 (plainElem (H := Unit) Try.prog 3) w.heap.size m.length D) := hide (hown.kept (World.grownBy_alloc wr (.cells #[] 3) none) (by simp))
      have bl0 := hide (bthen hbl (bnew wr (.cells #[] 3)))
      have HTL := hide htl
      clear hkn hown hbl htl
      go_wp2
      go_loopw [8, 27] (fun o i wk => ∃ k : Nat, k ≤ l.length ∧ i = .int .i64 k ∧ Hid (wk.ownsRow (w.heap.size + 1) 3 1 o (gone (l.take k) m).length (cellsI2 (gone (l.take k) m))) ∧ Hid (wk.ownsMap Try.prog 3 (plainElem (H := Unit) Try.prog 3) w.heap.size m.length D) ∧ Hid (Below w.heap.size w wk)) (fun _ i _ => l.length - (intOf i).toNat)
      case atStart => exact ⟨0, Nat.zero_le _, rfl, how0, hown0, bl0⟩
      case round =>
        obtain ⟨k, hk2, rfl, hgr, hmp, hbl⟩ := hrel
        have hpre := gone_pre l m k
        have hbl := unhide hbl
        have hbs := hbl.size
        have hmb2 := (unhide hmp).lt
        clear how0 hown0 bl0
        by_cases hlt2 : k < l.length
        · have hki2 : (k : Int) < (l.length : Int) := by omega
          obtain ⟨b, o, cs, rfl, hbk, hSb, hcs, hin⟩ := (unhide HA).at k hlt2
          have hin := hin.turn hbk (Below.turn hbl) (fun e => e)
          have hw := unhide HWL _ (List.getElem_mem hlt2)
          have HS := hide (gone_step l m k hlt2)
          generalize l[k] = X at *
          obtain rfl : cs = _ := hcs
          have c0 : wr.cell? ⟨b, o + k * 3, none⟩ = some (.int .i64 X.trace) := hin 0 _ rfl
          have c1 : wr.cell? ⟨b, o + k * 3 + 1, none⟩ = some (.int .i64 X.stamp) := hin 1 _ rfl
          have c2 : wr.cell? ⟨b, o + k * 3 + 2, none⟩ = some (.bool X.keep) := hin 2 _ rfl
          have bb := bnew wr (.cells #[.int .i64 X.trace, .int .i64 X.stamp, .bool X.keep] 59)
          have PX := Held.new wr [.int .i64 X.trace, .int .i64 X.stamp, .bool X.keep] 59
          have hown1 := (unhide hmp).kept (World.grownBy_alloc wr (.cells #[.int .i64 X.trace, .int .i64 X.stamp, .bool X.keep] 59) none) (by simp)
          have hrow1 := owns_below (unhide hgr) bb
          have B3 := bthen hbl bb
          have hkey := keyOf_int_mk (P := Try.prog) Try.underlying3 hw
          have hat0 := unhide HTL X.trace
          have hci := cntT_is m X.trace
          have hcl : cntT m X.trace ≤ 1048576 := by have := cntT_le m X.trace m.length; rw [List.take_length] at this; omega
          have hsz3 : wr.heap.size + 1 = (World.alloc wr (.cells #[.int .i64 X.trace, .int .i64 X.stamp, .bool X.keep] 59)).heap.size := by simp
          generalize hCN : cntT m X.trace = CN at *
          have HO := hide (And.intro hown1 (And.intro hrow1 B3))
          have HAT := hide hat0
          have HSZ := hide hsz3
          clear hin bb hown1 hrow1 B3 hgr hmp hat0 hCN hsz3
          go_upto_region 11 with fail
          generalize hW3 : World.alloc wr _ = w3 at *
          clear hW3 c0 c1 c2
          obtain ⟨hown1, hrow1, B3⟩ := unhide HO
          have hs3 := B3.size
          have hlt3 := PX.1
          have p0 := PX.2 0 _ rfl
          by_cases e : CN = 0
          · subst e
            have HB : Hid (goneB m X = true) := hide (by rw [goneB, (by simpa using hci : verdIs m X.trace = false)]; rfl)
            have hrow4 := owns_below hrow1 (bnew w3 (.cells #[.int .i64 X.trace] 3))
            have hs4 : w.heap.size + 1 ≤ (w3.alloc (.cells #[.int .i64 X.trace] 3)).heap.size := by simp; omega
            clear HO hci
            go_wp2_with (first | (at_lookup; refine wpList_lookup_own_int (H := Unit) _ rfl (.tmp 31) (.tmp 33) 168 rfl 3 3 .i64 (int_keyed Try.underlying3) Try.underlying168 Try.underlying3 (zeroI _) w.heap.size m.length _ rfl hown1 _ _ rfl hkey ?_; intro c hat hwc0; obtain rfl : c = 0 := (by have h := unhide HAT; rw [hat] at h; exact (Lit.int.inj (DataW.lit.inj h)).2)) | (at_builtin; refine wpl_append2 rfl (.tmp 36) (.tmp 39) 72 rfl (w.heap.size + 1) 3 _ 1 8 Try.underlying72 infoI2 rfl (by decide) _ _ _ rfl hrow4 ⟨_, 0, none⟩ 1 1 [.int .i64 X.trace] rfl rfl (lit_cells4 w3 [.int .i64 X.trace] 3) (by intro v hv; simp at hv; subst hv; rfl) (by omega) (by omega) hs4 ?_))
            intro v' w' how hg hv
            have hmp2 := (hown1.kept (World.grownBy_alloc w3 (.cells #[.int .i64 X.trace] 3) none) (by simp)).kept hg (fun e => by have := (hrow1.lt _ e.symm).1; omega)
            have bl1 := grown_below (bthen B3 (bnew w3 (.cells #[.int .i64 X.trace] 3))) hg (fun q hq => by have := (hrow1.lt q hq).1; omega) (by omega)
            have HST := hide (And.intro how (And.intro hmp2 bl1))
            clear how hg hv bl1 hrow1 hrow4 hown1 hmp2
            go_wp2
            go_roundw
            case rel => exact ⟨k + 1, by omega, by go_num, hide (by rw [unhide HS, unhide HB, if_pos rfl, cellsI2_snoc]; simpa using (unhide HST).1), hide (unhide HST).2.1, hide (unhide HST).2.2⟩
            case measure => simp [intOf]; omega
          · have HB : Hid (goneB m X = false) := hide (by
              have : ¬ verdIs m X.trace = false := fun h => e (hci.mpr h)
              simp [goneB]; simpa using this)
            have q : ((CN : Int) == 0) = false := by simp; omega
            clear HO hci e
            go_wp2_with (first | (at_lookup; refine wpList_lookup_own_int (H := Unit) _ rfl (.tmp 31) (.tmp 33) 168 rfl 3 3 .i64 (int_keyed Try.underlying3) Try.underlying168 Try.underlying3 (zeroI _) w.heap.size m.length _ rfl hown1 _ _ rfl hkey ?_; intro c hat hwc0; obtain rfl : c = (CN : Int) := (by have h := unhide HAT; rw [hat] at h; exact (Lit.int.inj (DataW.lit.inj h)).2)))
            go_roundw
            case rel => exact ⟨k + 1, by omega, by go_num, hide (by rw [unhide HS, unhide HB]; simpa using hrow1), hide hown1, hide B3⟩
            case measure => simp [intOf]; omega
        · have hki2 : ¬ (k : Int) < (l.length : Int) := by omega
          obtain rfl : k = l.length := by omega
          go_wp2
          go_ret
          have h := unhide hgr
          rw [List.take_length] at h
          have hll := gone_len l m
          exact ⟨_, rfl, (ints_done h (by omega)).widens (fun q hq => ⟨by have := hq.1; omega, hq.2⟩), hbl⟩
end Go.Proofs.Ytjhlammjnggghaa
