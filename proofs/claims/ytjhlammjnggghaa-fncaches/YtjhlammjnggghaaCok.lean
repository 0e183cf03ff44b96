/-
  CacheOk of the program, and of the specification.
-/
import Derived.Test.YtjhlammjnggghaaAVerdict
import Derived.Test.YtjhlammjnggghaaAbs2
import Derived.Test.YtjhlammjnggghaaNtw
import Derived.Test.YtjhlammjnggghaaForg0
namespace Go.Proofs.Ytjhlammjnggghaa
open Go.ChangeShapes Go.WideShapes Go.ChangeAt Go.RowKit
set_option linter.unusedVariables false
set_option maxRecDepth 100000

def vokB (v : VerdictD) : Bool := inB v.trace 1 999 && decide (1 ≤ v.stamp)
def wrongB (v : VerdictD) : Bool := !vokB v
def trs (l : List VerdictD) : List Int := l.map VerdictD.trace
theorem trs_len (l : List VerdictD) : (trs l).length = l.length := by simp [trs]
theorem trs_step (l : List VerdictD) (k : Nat) (h : k < l.length) : trs (l.take (k + 1)) = trs (l.take k) ++ [l[k].trace] := by
  unfold trs
  rw [List.take_succ_eq_append_getElem h, List.map_append]
  rfl
def cokB (l : List VerdictD) (most : Int) : Bool := decide ((l.length : Int) ≤ most) && (l.all vokB && decide (trs l).Nodup)
theorem all_wrong (l : List VerdictD) : l.all vokB = !(l.any wrongB) := by
  rw [List.not_any_eq_all_not]
  congr 1
  funext s
  simp [wrongB]
theorem implIdOk (n : Int) (v : Bool) (h : inB n 1 999 = v) (w : World) :
    Calls Try.prog 191 #[.int .i64 n] w fun e w' => e = .returned (.bool v) ∧ w' = w := by
  subst h
  unfold inB
  by_cases h1 : 1 ≤ n <;> by_cases h2 : n ≤ 999 <;> simp only [h1, h2, decide_true, decide_false, Bool.and_true, Bool.and_false] <;>
  · go_enter Try.func191, Try.ntmps191
    go_wp2
    go_ret
    exact ⟨rfl, rfl⟩
theorem implWrong (X : VerdictD) (S0 : Nat → Prop) (cs : List Value) (w : World) (hcs : verdictR w S0 cs X) :
    Calls Try.prog 131 #[.agg cs.toArray] w fun e w' => e = .returned (.bool (wrongB X)) ∧ Below w.heap.size w w' := by
  obtain rfl : cs = _ := hcs
  have hb := bnew w (.cells #[.int .i64 X.trace, .int .i64 X.stamp, .bool X.keep] 59)
  cases e0 : inB X.trace 1 999
  · go_enter Try.func131, Try.ntmps131
    go_wp2_with (first | (go_at_call 191; refine (implIdOk _ _ (by assumption) _).mono ?_; rintro e w' ⟨rfl, rfl⟩))
    go_ret
    exact ⟨ret_bool (by simp [wrongB, vokB, e0]), hb⟩
  · by_cases e1 : X.stamp < 1
    · go_enter Try.func131, Try.ntmps131
      go_wp2_with (first | (go_at_call 191; refine (implIdOk _ _ (by assumption) _).mono ?_; rintro e w' ⟨rfl, rfl⟩))
      go_ret
      exact ⟨ret_bool (by rw [wrongB, vokB, e0, decide_eq_false (show ¬ 1 ≤ X.stamp by omega)]; rfl), hb⟩
    · go_enter Try.func131, Try.ntmps131
      go_wp2_with (first | (go_at_call 191; refine (implIdOk _ _ (by assumption) _).mono ?_; rintro e w' ⟨rfl, rfl⟩))
      go_ret
      exact ⟨ret_bool (by rw [wrongB, vokB, e0, decide_eq_true (show 1 ≤ X.stamp by omega), decide_eq_false (show ¬ X.stamp < 1 by omega)]; rfl), hb⟩
set_option maxHeartbeats 2000000 in
theorem implIdxWrong (l : List VerdictD) (S0 : Nat → Prop) (v0 : Value) (w : World) (h0 : LAt 3 verdictR w S0 v0 l) (b0 : bulkL verdictBulk l ≤ 1048576)  :
    Calls Try.prog 128 #[v0, .func (.func 131) #[] #[]] w fun e w' => e = .returned (.int .i64 (idxv (wrongB) l)) ∧ Below w.heap.size w w' := by
  obtain ⟨a, cap, rfl⟩ := h0.form
  have hl := h0.len
  have HA := hide h0
  clear h0
  go_enter Try.func128, Try.ntmps128
  go_wp2
  go_loopw [8] (fun i wk => ∃ k : Nat, k ≤ l.length ∧ i = .int .i64 k ∧ Hid (∀ j (h : j < l.length), j < k → (wrongB) l[j] = false) ∧ Below w.heap.size w wk) (fun i _ => l.length - (intOf i).toNat)
  case atStart => exact ⟨0, Nat.zero_le _, rfl, hide (fun j h hj => absurd hj (Nat.not_lt_zero _)), Below.refl _ _⟩
  case round =>
    obtain ⟨k, hk, rfl, hno, hbl⟩ := hrel
    have hbs := hbl.size
    by_cases hlt : k < l.length
    · have hki : (k : Int) < (l.length : Int) := by omega
      obtain ⟨b, o, cs, rfl, hbk, hSb, hcs, hin⟩ := (unhide HA).at k hlt
      have hcs := verdictR_keeps _ _ S0 None1 cs _ (Below.turn hbl) none_off hcs
      have hin := hin.turn hbk (Below.turn hbl) (fun e => e)
      have hXb : verdictBulk l[k] ≤ 1048576 := by have := bulkL_mem verdictBulk (List.getElem_mem hlt); omega
      
      have hrw : RowT Try.prog 59 cs.length := by rw [verdictR_len hcs]; exact rowIVerdict
      generalize hX : l[k] = X at *
      have HX := hide hX
      clear hX
      go_wp2_with (first | (refine wpl_load rfl 59 _ rfl _ _ rfl cs hin hrw ?_))
      have hc := implWrong X S0 cs _ hcs
      cases hp : (wrongB) X
      · rw [hp] at hc
        refine hc.mono ?_
        rintro e w2 ⟨rfl, hb2⟩
        clear hc
        go_wp2
        go_roundw
        case rel =>
          refine ⟨k + 1, by omega, by go_num, hide (fun j h hj => ?_), bthen hbl hb2⟩
          by_cases hjk : j = k
          · subst hjk; rw [unhide HX]; exact hp
          · exact unhide hno j h (by omega)
        case measure => simp [intOf]; omega
      · rw [hp] at hc
        refine hc.mono ?_
        rintro e w2 ⟨rfl, hb2⟩
        clear hc
        have HF := hide (idxv_hit (p := wrongB) hlt (unhide hno) (by rw [unhide HX]; exact hp))
        go_wp2
        go_ret
        exact ⟨by rw [unhide HF]; rfl, bthen hbl hb2⟩
    · have hki : ¬ (k : Int) < (l.length : Int) := by omega
      obtain rfl : k = l.length := by omega
      go_wp2
      go_ret
      exact ⟨by rw [idxv_miss (unhide hno)]; rfl, hbl⟩
theorem implHasWrong (l : List VerdictD) (S0 : Nat → Prop) (v0 : Value) (w : World) (h0 : LAt 3 verdictR w S0 v0 l) (b0 : bulkL verdictBulk l ≤ 1048576)  :
    Calls Try.prog 130 #[v0, .func (.func 131) #[] #[]] w fun e w' => e = .returned (.bool (l.any (wrongB))) ∧ Below w.heap.size w w' := by
  obtain ⟨a, cap, rfl⟩ := h0.form
  go_enter Try.func130, Try.ntmps130
  go_wp2_with fail
  refine (implIdxWrong l S0 _ _ h0 b0 ).mono ?_
  rintro e w1 ⟨rfl, hb1⟩
  go_wp2
  go_ret
  exact ⟨ret_bool (by rw [← idxv_any]), hb1⟩
set_option maxHeartbeats 4000000 in
theorem implCacheOk (l : List VerdictD) (most : Int) (S0 : Nat → Prop) (v0 : Value) (w : World) (h0 : LAt 3 verdictR w S0 v0 l) (b0 : bulkL verdictBulk l ≤ 1048576) :
    Calls Try.prog 43 #[v0, .int .i64 most] w fun e w' => e = .returned (.bool (cokB l most)) ∧ Below w.heap.size w w' := by
  have HC := hide (implHasWrong l S0 v0 w h0 b0)
  obtain ⟨a, cap, rfl⟩ := h0.form
  have hl := bulkL_len verdictBulk l
  have HA := hide h0
  clear h0
  by_cases hm : (l.length : Int) ≤ most
  case neg =>
    go_enter Try.func43, Try.ntmps43
    go_wp2
    go_ret
    exact ⟨ret_bool (by rw [cokB, decide_eq_false (show ¬ (l.length : Int) ≤ most by omega)]; rfl), Below.refl _ _⟩
  have hAW := all_wrong l
  cases hw : l.any wrongB
  case true =>
    have HW := hide hw
    have HAW := hide hAW
    clear hw hAW
    go_enter Try.func43, Try.ntmps43
    go_wp2_with fail
    refine (unhide HC).mono ?_
    rintro e w1 ⟨rfl, hb1⟩
    rw [unhide HW]
    go_wp2
    go_ret
    exact ⟨ret_bool (by rw [cokB, unhide HAW, unhide HW]; simp), hb1⟩
  have HW := hide hw
  have HAW := hide hAW
  have HM := hide hm
  clear hw hAW
  go_enter Try.func43, Try.ntmps43
  go_wp2_with fail
  refine (unhide HC).mono ?_
  rintro e w1 ⟨rfl, hb1⟩
  rw [unhide HW]
  have hsz1 := hb1.size
  have how0 := hide (World.ownsRow_made (base := w.heap.size) (e := 3) (size := 1) w1 #[] 0 hsz1 (by unfold maxLen; omega) rfl)
  have hb0 := hide (bthen hb1 (bnew w1 (.cells #[] 3)))
  have hml : (1048577 : Nat) ≤ maxLen := by unfold maxLen; omega
  clear HC
  go_wp2
  go_loopw [5, 19] (fun o i wk => ∃ k : Nat, k ≤ l.length ∧ i = .int .i64 k ∧ Hid (wk.ownsRow w.heap.size 3 1 o k (cellsI2 (trs (l.take k)))) ∧ Below w.heap.size w wk) (fun _ i _ => l.length - (intOf i).toNat)
  case atStart => exact ⟨0, Nat.zero_le _, rfl, how0, unhide hb0⟩
  case round =>
    obtain ⟨k, hk, rfl, hgr, hbl⟩ := hrel
    have hbs := hbl.size
    clear how0 hb0
    by_cases hlt : k < l.length
    · have hki : (k : Int) < (l.length : Int) := by omega
      obtain ⟨b, o, cs, rfl, hbk, hSb, hcs, hin⟩ := (unhide HA).at k hlt
      have hin := hin.turn hbk (Below.turn hbl) (fun e => e)
      have HS := hide (trs_step l k hlt)
      have HKL := hide hlt
      generalize l[k] = X at *
      have hrw : RowT Try.prog 59 cs.length := by rw [verdictR_len hcs]; exact rowIVerdict
      have HL1 := hide (verdictR_len hcs)
      have on1 := verdictR_one hcs
      have hA1 := Held.new wr cs 59
      have hbA := bnew wr (.cells cs.toArray 59)
      have q0 := verdictR_c0 hcs
      have HE0 := hide (And.intro (owns_below (unhide hgr) hbA) (hbl.trans (hbA.mono hbs)))
      clear hgr hbl hbA hcs hlt
      go_upto_region 7 with (first | (refine wpl_load rfl 59 _ rfl _ _ rfl cs hin hrw ?_) | (refine wpl_store_new rfl _ _ _ rfl _ cs rfl rfl ?_ on1 hrw ?_; (rw [unhide HL1]; rfl)))
      generalize hWa : World.alloc wr _ = wa at *
      clear hWa hin on1 hrw
      have p0 := hA1.2 0 _ q0
      obtain ⟨hrow, hbl⟩ := unhide HE0
      clear HE0 hA1 q0
      have hb2 := bnew wa (.cells #[.int .i64 X.trace] 3)
      have hrow2 := owns_below hrow hb2
      have hs2 : w.heap.size ≤ (wa.alloc (.cells #[.int .i64 X.trace] 3)).heap.size := by have := hb2.size; have := hbl.size; omega
      have hkm : k + 1 ≤ 1048577 := by omega
      have HE := hide hbl
      clear hbl hrow
      go_wp2_with (first | (at_builtin; refine wpl_append2 rfl (.tmp 23) (.tmp 26) 72 rfl w.heap.size 3 _ 1 8 Try.underlying72 infoI2 rfl (by decide) _ _ _ rfl hrow2 ⟨_, 0, none⟩ 1 1 [.int .i64 X.trace] rfl rfl (lit_cells4 wa [.int .i64 X.trace] 3) (by intro v hv; simp at hv; subst hv; rfl) (by omega) (by omega) hs2 ?_))
      intro v' w' how hg hv
      have bl1 := grown_below (bthen (unhide HE) hb2) hg (fun q hq => (hrow2.lt q hq).1) hs2
      have HST := hide (And.intro how bl1)
      have HK := hide hk
      clear how hg hv bl1 hrow2 hb2 HE p0
      go_wp2
      go_roundw
      case rel => exact ⟨k + 1, by have := unhide HKL; omega, by go_num, hide (by rw [unhide HS, cellsI2_snoc]; simpa using (unhide HST).1), (unhide HST).2⟩
      case measure => have := unhide HKL; simp [intOf]; omega
    · have hki : ¬ (k : Int) < (l.length : Int) := by omega
      obtain rfl : k = l.length := by omega
      have h := unhide hgr
      rw [List.take_length, ← trs_len l] at h
      have hA := ints_done h (by rw [trs_len]; omega)
      have HN := hide (implNoneTwice (trs l) _ _ wr (hA.read intR_widens intO_read) (by rw [trs_len]; omega))
      clear hgr h hA
      go_wp2_with fail
      refine (unhide HN).mono ?_
      rintro e w3 ⟨rfl, hb3⟩
      have HB := hide (bthen hbl hb3)
      clear hbl hb3
      go_wp2
      go_ret
      exact ⟨ret_bool (by rw [cokB, unhide HAW, unhide HW, decide_eq_true (unhide HM)]; rfl), unhide HB⟩
theorem cok_all {l : List VerdictD} {most : Int} {k : Nat} (hk : k < l.length) (h : vokB l[k] = false) : cokB l most = false := by
  have : l.all vokB = false := by
    rw [List.all_eq_false]
    exact ⟨l[k], List.getElem_mem hk, by rw [h]; simp⟩
  rw [cokB, this]; simp
theorem cok_two {l : List VerdictD} {most : Int} {k m : Nat} (hk : k < l.length) (hm : m < k) (h : (l[m]'(by omega)).trace = l[k].trace) : cokB l most = false := by
  have : ¬ (trs l).Nodup := fun hn => by
    have := List.pairwise_iff_getElem.1 hn m k (by rw [trs_len]; omega) (by rw [trs_len]; omega) hm
    simp [trs] at this
    exact this h
  rw [cokB, decide_eq_false this]; simp
def OkTo (l : List VerdictD) (k : Nat) : Prop := (l.take k).all vokB = true ∧ (trs (l.take k)).Nodup
theorem okTo_succ {l : List VerdictD} {k : Nat} (hk : k < l.length) (h : OkTo l k) (hv : vokB l[k] = true) (hn : ¬ l[k].trace ∈ trs (l.take k)) : OkTo l (k + 1) := by
  refine ⟨?_, ?_⟩
  · rw [List.take_succ_eq_append_getElem hk, List.all_append, h.1]; simp [hv]
  · rw [trs_step l k hk, List.nodup_append]
    exact ⟨h.2, by simp, fun a ha b hb e => hn (by simp at hb; subst hb; subst e; exact ha)⟩
set_option maxHeartbeats 4000000 in
theorem specCacheOk (l : List VerdictD) (most : Int) (S0 : Nat → Prop) (v0 : Value) (w : World) (h0 : LAt 3 verdictR w S0 v0 l) (b0 : bulkL verdictBulk l ≤ 1048576) :
    Calls Try.prog 44 #[v0, .int .i64 most] w fun e w' => e = .returned (.bool (cokB l most)) ∧ Below w.heap.size w w' := by
  obtain ⟨a, cap, rfl⟩ := h0.form
  have hl := bulkL_len verdictBulk l
  have HA := hide h0
  clear h0
  go_enter Try.func44, Try.ntmps44
  go_wp2
  go_loopw [5] (fun i wk => ∃ k : Nat, k ≤ l.length ∧ i = .int .i64 k ∧ Hid (OkTo l k) ∧ Below w.heap.size w wk) (fun i _ => l.length - (intOf i).toNat)
  case atStart => exact ⟨0, Nat.zero_le _, rfl, hide ⟨by simp, by simp [trs]⟩, Below.refl _ _⟩
  case round =>
    obtain ⟨k, hk, rfl, hok, hbl⟩ := hrel
    by_cases hlt : k < l.length
    · have hki : (k : Int) < (l.length : Int) := by omega
      obtain ⟨b, o, cs, rfl, hbk, hSb, hcs, hin0⟩ := (unhide HA).at k hlt
      have hin := hin0.turn hbk (Below.turn hbl) (fun e => e)
      generalize hX : l[k] = X at *
      have HX := hide hX
      clear hX
      obtain rfl : cs = _ := hcs
      have c0 : wr.cell? ⟨b, o + k * 3, none⟩ = some (.int .i64 X.trace) := hin 0 _ rfl
      have c1 : wr.cell? ⟨b, o + k * 3 + 1, none⟩ = some (.int .i64 X.stamp) := hin 1 _ rfl
      have HK : Hid (w.cell? ⟨b, o + k * 3, none⟩ = some (.int .i64 X.trace)) := hide (hin0 0 _ rfl)
      clear hin hin0
      cases e0 : inB X.trace 1 999
      · have HV : Hid (vokB X = false) := hide (by rw [vokB, e0]; rfl)
        go_wp2_with (first | (go_at_call 133; refine (specIn _ _ _ _ (by assumption) _).mono ?_; rintro e w' ⟨rfl, rfl⟩))
        go_ret
        exact ⟨ret_bool (cok_all hlt (by rw [unhide HX]; exact unhide HV)).symm, hbl⟩
      by_cases e1 : X.stamp < 1
      · have HV : Hid (vokB X = false) := hide (by rw [vokB, e0, decide_eq_false (show ¬ 1 ≤ X.stamp by omega)]; rfl)
        go_wp2_with (first | (go_at_call 133; refine (specIn _ _ _ _ (by assumption) _).mono ?_; rintro e w' ⟨rfl, rfl⟩))
        go_ret
        exact ⟨ret_bool (cok_all hlt (by rw [unhide HX]; exact unhide HV)).symm, hbl⟩
      have HV : Hid (vokB X = true) := hide (by rw [vokB, e0, decide_eq_true (show 1 ≤ X.stamp by omega)]; rfl)
      have ht1 : decide (X.stamp < 1) = false := decide_eq_false e1
      clear e1
      go_wp2_with (first | (go_at_call 133; refine (specIn _ _ _ _ (by assumption) _).mono ?_; rintro e w' ⟨rfl, rfl⟩))
      clear c0 c1 e0 ht1
      go_loopw [6] (fun j wk => ∃ m : Nat, m ≤ k ∧ j = .int .i64 m ∧ Hid (¬ X.trace ∈ trs (l.take m)) ∧ Below w.heap.size w wk) (fun j _ => k - (intOf j).toNat)
      case atStart => exact ⟨0, Nat.zero_le _, rfl, hide (by simp [trs]), hbl⟩
      case round =>
        obtain ⟨m, hm, rfl, hno, hbl2⟩ := hrel
        by_cases hmk : m < k
        · have hmi : (m : Int) < (k : Int) := by omega
          have hml : m < l.length := by omega
          have hml' : (m : Int) < (l.length : Int) := by omega
          obtain ⟨b', o', cs', e', hbm, _, hcm, him⟩ := (unhide HA).at m hml
          obtain ⟨rfl, rfl⟩ : b = b' ∧ o = o' := by injection e' with e'; injection e' with e1 e2; exact ⟨e1, e2⟩
          clear e'
          have him := him.turn hbm (Below.turn hbl2) (fun e => e)
          have HT := hide (trs_step l m hml)
          generalize hY : l[m] = Y at *
          have HY := hide hY
          clear hY
          obtain rfl : cs' = _ := hcm
          have c0 : wr.cell? ⟨b, o + k * 3, none⟩ = some (.int .i64 X.trace) := (hbl2.cell (p := ⟨b, o + k * 3, none⟩) hbk).trans (unhide HK)
          have d0 : wr.cell? ⟨b, o + m * 3, none⟩ = some (.int .i64 Y.trace) := him 0 _ rfl
          clear him
          have mixed : Try.prog.follows .mixedOrders = true := by kernel_rfl
          by_cases ht : Y.trace = X.trace
          · have q : (Y.trace == X.trace) = true := by simpa using ht
            have HQ := hide ht
            clear ht
            go_wp2_with fail
            go_quiet (fail)
            go_wp2
            go_ret
            exact ⟨ret_bool (cok_two hlt hmk (by rw [unhide HX, unhide HY]; exact unhide HQ)).symm, by (repeat (first | with_reducible assumption | with_reducible exact Below.refl _ _ | with_reducible refine Below.drew ?_ | with_reducible refine bdrewN ?_ _ | (with_reducible refine Below.alloc ?_ ?side _; case side => (first | omega | (simp [go_sem]; done) | (simp [go_sem]; omega))) | (with_reducible refine Below.setCell ?_ ?side _; case side => (first | omega | (simp [go_sem]; done) | (simp [go_sem]; omega)))))⟩
          · have q : (Y.trace == X.trace) = false := by simpa using ht
            have HQ := hide ht
            clear ht
            go_wp2_with fail
            go_quiet (fail)
            go_wp2
            go_roundw
            case rel => exact ⟨m + 1, by omega, by go_num, hide (by rw [unhide HT]; intro hq; rcases List.mem_append.1 hq with hq | hq; exact unhide hno hq; exact unhide HQ (by simpa using hq : X.trace = Y.trace).symm), by (repeat (first | with_reducible assumption | with_reducible exact Below.refl _ _ | with_reducible refine Below.drew ?_ | with_reducible refine bdrewN ?_ _ | (with_reducible refine Below.alloc ?_ ?side _; case side => (first | omega | (simp [go_sem]; done) | (simp [go_sem]; omega))) | (with_reducible refine Below.setCell ?_ ?side _; case side => (first | omega | (simp [go_sem]; done) | (simp [go_sem]; omega)))))⟩
            case measure => simp [intOf]; omega
        · have hmi : ¬ (m : Int) < (k : Int) := by omega
          obtain rfl : m = k := by omega
          go_wp2
          go_roundw
          case rel => exact ⟨m + 1, by omega, by go_num, hide (okTo_succ hlt (unhide hok) (by rw [unhide HX]; exact unhide HV) (by rw [unhide HX]; exact unhide hno)), hbl2⟩
          case measure => simp [intOf]; omega
    · have hki : ¬ (k : Int) < (l.length : Int) := by omega
      obtain rfl : k = l.length := by omega
      have HO := hide (unhide hok)
      clear hok
      go_wp2
      go_ret
      exact ⟨ret_bool (by have h := unhide HO; unfold OkTo at h; rw [List.take_length] at h; rw [cokB, h.1, decide_eq_true h.2]; simp), hbl⟩
end Go.Proofs.Ytjhlammjnggghaa
