/-
  Contracts of TaskOk's parts, of the program and of the specification.
-/
import Derived.Test.YtklhljknkcmecacPlain3b
import Derived.Test.YtklhljknkcmecacToSt
namespace Go.Proofs.Ytklhljknkcmecac
open Go.ChangeShapes Go.WideShapes Go.ChangeAt Go.RowKit
set_option linter.unusedVariables false
set_option maxRecDepth 100000

def noS : SpanD := (0, 0, 0, 0, false, [])
def noSpanB (x : SpanD) : Bool := sameSB x noS
theorem noSpanB_eq (x : SpanD) : noSpanB x = decide (x.1 = 0 ∧ x.2.1 = 0 ∧ x.2.2.1 = 0 ∧ x.2.2.2.1 = 0 ∧ x.2.2.2.2.1 = false ∧ (x.2.2.2.2.2.length : Int) = 0) := by
  obtain ⟨a, b, c, d, e, f⟩ := x
  rw [Bool.eq_iff_iff]
  simp only [noSpanB, noS, sameSB, sameD, Bool.and_eq_true, decide_eq_true_eq]
  constructor
  · rintro ⟨h1, h2, h3, h4, h5, h6⟩
    exact ⟨of_decide_eq_true h1, of_decide_eq_true h2, of_decide_eq_true h3, of_decide_eq_true h4, of_decide_eq_true h5, by rw [show f = [] from of_decide_eq_true h6]; rfl⟩
  · rintro ⟨h1, h2, h3, h4, h5, h6⟩
    exact ⟨decide_eq_true h1, decide_eq_true h2, decide_eq_true h3, decide_eq_true h4, decide_eq_true h5, decide_eq_true (List.length_eq_zero_iff.1 (by omega))⟩
theorem specNoSpan (x : SpanD) (S0 : Nat → Prop) (c0 : List Value) (w : World) (h0 : spanR w S0 c0 x) (b0 : spanBulk x ≤ 1048576) :
    Calls Try.prog 91 #[.agg c0.toArray] w fun e w' => e = .returned (.bool (noSpanB x)) ∧ Below w.heap.size w w' := by
  have P0 := Held.new w c0 32
  have B0 := bnew w (.cells c0.toArray 32)
  have r0 : RowT Try.prog 32 c0.length := by rw [spanR_len h0]; exact rowISpan
  go_enter Try.func91, Try.ntmps91
  go_upto_region 1 with fail
  generalize World.alloc w _ = w0 at *
  go_wp2_with (first | (refine wpl_load rfl 32 _ rfl _ 0 rfl c0 P0.inB r0 ?_))
  refine (specSameSpanN x noS S0 c0 All1 [.int .i64 0, .int .i64 0, .int .i64 0, .int .i64 0, .bool false, .slice none 0 0] _ (spanR_keeps _ _ _ None1 _ _ (Below.turn B0) none_off h0) b0 ⟨_, rfl, LAt.nil _ _ _ _ _ _⟩ (by simp [spanBulk, noS, bulkL])).mono ?_
  rintro e w1 ⟨rfl, hb1⟩
  go_wp2
  go_ret
  exact ⟨rfl, bthen B0 hb1⟩
theorem implBareOf (x : ItemD) (S0 : Nat → Prop) (c0 : List Value) (w : World) (h0 : itemR w S0 c0 x) :
    Calls Try.prog 175 #[.agg c0.toArray] w fun e w' => e = .returned (.agg #[.int .i64 x.stamp, .int .i64 x.s.1, .int .i64 x.s.2.1, .int .i64 x.s.2.2.1, .int .i64 x.s.2.2.2.1, .bool x.s.2.2.2.2.1, .int .i64 (x.s.2.2.2.2.2.length : Int)]) ∧ Below w.heap.size w w' := by
  obtain ⟨s, rfl, g⟩ := h0
  obtain ⟨a, k, rfl⟩ := g.form
  go_enter Try.func175, Try.ntmps175
  go_wp2
  exact bodyPost_ret (v := .agg #[.int .i64 x.stamp, .int .i64 x.s.1, .int .i64 x.s.2.1, .int .i64 x.s.2.2.1, .int .i64 x.s.2.2.2.1, .bool x.s.2.2.2.2.1, .int .i64 (x.s.2.2.2.2.2.length : Int)]) (by simp [results, Try.results175, go_sem]) rfl ⟨rfl, by (repeat (first | with_reducible assumption | with_reducible exact Below.refl _ _ | with_reducible refine Below.drew ?_ | with_reducible refine bdrewN ?_ _ | (with_reducible refine Below.alloc ?_ ?side _; case side => (first | omega | (simp [go_sem]; done) | (simp [go_sem]; omega))) | (with_reducible refine Below.setCell ?_ ?side _; case side => (first | omega | (simp [go_sem]; done) | (simp [go_sem]; omega)))))⟩
theorem eqBare0 (a b c d e g : Int) (f : Bool) (w : World) :
    (Op.equalIn 10000 200 (.agg #[.int .i64 a, .int .i64 b, .int .i64 c, .int .i64 d, .int .i64 e, .bool f, .int .i64 g]) (.agg #[.int .i64 0, .int .i64 0, .int .i64 0, .int .i64 0, .int .i64 0, .bool false, .int .i64 0])).run Try.prog w = .ok (decide (a = 0 ∧ b = 0 ∧ c = 0 ∧ d = 0 ∧ e = 0 ∧ f = false ∧ g = 0)) w := by
  by_cases h0 : a = 0
  case neg => go_simp
  by_cases h1 : b = 0
  case neg => go_simp
  by_cases h2 : c = 0
  case neg => go_simp
  by_cases h3 : d = 0
  case neg => go_simp
  by_cases h4 : e = 0
  case neg => go_simp
  by_cases h5 : f = false
  case neg => go_simp
  by_cases h6 : g = 0
  case neg => go_simp
  go_simp
theorem implNoThing (x : SpanD) (S0 : Nat → Prop) (c0 : List Value) (w : World) (h0 : spanR w S0 c0 x) :
    Calls Try.prog 94 #[.agg c0.toArray] w fun e w' => e = .returned (.bool (noSpanB x)) ∧ Below w.heap.size w w' := by
  have HR := hide h0
  obtain ⟨s, rfl, g⟩ := h0
  obtain ⟨a, k, rfl⟩ := g.form
  have hc : ∀ w', Below w.heap.size w w' → Calls Try.prog 175 #[.agg #[.int .i64 0, .int .i64 x.1, .int .i64 x.2.1, .int .i64 x.2.2.1, .int .i64 x.2.2.2.1, .bool x.2.2.2.2.1, .slice a x.2.2.2.2.2.length k]] w' fun e w'' => e = .returned (.agg #[.int .i64 (⟨0, x⟩ : ItemD).stamp, .int .i64 (⟨0, x⟩ : ItemD).s.1, .int .i64 (⟨0, x⟩ : ItemD).s.2.1, .int .i64 (⟨0, x⟩ : ItemD).s.2.2.1, .int .i64 (⟨0, x⟩ : ItemD).s.2.2.2.1, .bool (⟨0, x⟩ : ItemD).s.2.2.2.2.1, .int .i64 ((⟨0, x⟩ : ItemD).s.2.2.2.2.2.length : Int)]) ∧ Below w'.heap.size w' w'' :=
    fun w' hb => implBareOf ⟨0, x⟩ S0 _ w' ⟨_, rfl, g.keep attrR_keeps hb⟩
  have HC := hide hc
  clear hc g
  have heq := fun w => eqBare0 0 x.1 x.2.1 x.2.2.1 x.2.2.2.1 (x.2.2.2.2.2.length : Int) x.2.2.2.2.1 w
  have HE := hide heq
  clear heq
  go_enter Try.func94, Try.ntmps94
  go_wp2_with fail
  refine (unhide HC _ (bnew _ _)).mono ?_
  rintro e w1 ⟨rfl, hb1⟩
  have heq := unhide HE
  cases hn : noSpanB x
  · have hn' := hn
    rw [noSpanB_eq] at hn'
    have hd := of_decide_eq_false hn'
    have hne : ∀ w, (Op.equalIn 10000 200 (.agg #[.int .i64 (⟨0, x⟩ : ItemD).stamp, .int .i64 (⟨0, x⟩ : ItemD).s.1, .int .i64 (⟨0, x⟩ : ItemD).s.2.1, .int .i64 (⟨0, x⟩ : ItemD).s.2.2.1, .int .i64 (⟨0, x⟩ : ItemD).s.2.2.2.1, .bool (⟨0, x⟩ : ItemD).s.2.2.2.2.1, .int .i64 ((⟨0, x⟩ : ItemD).s.2.2.2.2.2.length : Int)]) (.agg #[.int .i64 0, .int .i64 0, .int .i64 0, .int .i64 0, .int .i64 0, .bool false, .int .i64 0])).run Try.prog w = .ok false w := fun w => by rw [heq w]; congr 1; exact decide_eq_false (fun h => hd ⟨h.2.1, h.2.2.1, h.2.2.2.1, h.2.2.2.2.1, h.2.2.2.2.2.1, h.2.2.2.2.2.2⟩)
    have HN := hide hn
    clear heq hd hn' hn
    go_wp2
    go_ret
    exact ⟨by rw [unhide HN]; rfl, bthen (bnew _ _) hb1⟩
  · have hn' := hn
    rw [noSpanB_eq] at hn'
    have hd := of_decide_eq_true hn'
    have hne : ∀ w, (Op.equalIn 10000 200 (.agg #[.int .i64 (⟨0, x⟩ : ItemD).stamp, .int .i64 (⟨0, x⟩ : ItemD).s.1, .int .i64 (⟨0, x⟩ : ItemD).s.2.1, .int .i64 (⟨0, x⟩ : ItemD).s.2.2.1, .int .i64 (⟨0, x⟩ : ItemD).s.2.2.2.1, .bool (⟨0, x⟩ : ItemD).s.2.2.2.2.1, .int .i64 ((⟨0, x⟩ : ItemD).s.2.2.2.2.2.length : Int)]) (.agg #[.int .i64 0, .int .i64 0, .int .i64 0, .int .i64 0, .int .i64 0, .bool false, .int .i64 0])).run Try.prog w = .ok true w := fun w => by rw [heq w]; congr 1; exact decide_eq_true (by first | exact ⟨trivial, hd⟩ | exact ⟨rfl, hd⟩)
    have HN := hide hn
    clear heq hd hn' hn
    go_wp2
    go_ret
    exact ⟨by rw [unhide HN]; rfl, bthen (bnew _ _) hb1⟩
theorem implTrailOf (x : TaskD) (S0 : Nat → Prop) (c0 : List Value) (w : World) (h0 : taskR w S0 c0 x) :
    Calls Try.prog 95 #[.agg c0.toArray] w fun e w' => e = .returned (.agg #[.int .i64 x.trace, .int .i64 x.stamp]) ∧ Below w.heap.size w w' := by
  obtain ⟨s, s', rfl, g, g'⟩ := h0
  go_enter Try.func95, Try.ntmps95
  go_wp2
  exact bodyPost_ret (v := .agg #[.int .i64 x.trace, .int .i64 x.stamp]) (by simp [results, Try.results95, go_sem]) rfl ⟨rfl, by (repeat (first | with_reducible assumption | with_reducible exact Below.refl _ _ | with_reducible refine Below.drew ?_ | with_reducible refine bdrewN ?_ _ | (with_reducible refine Below.alloc ?_ ?side _; case side => (first | omega | (simp [go_sem]; done) | (simp [go_sem]; omega))) | (with_reducible refine Below.setCell ?_ ?side _; case side => (first | omega | (simp [go_sem]; done) | (simp [go_sem]; omega)))))⟩
def tnB (a b : Int) : Bool := inB a 1 999 && decide (1 ≤ b)
def noTnB (a b : Int) : Bool := decide (a = 0 ∧ b = 0)
theorem eqName0 (a b : Int) (w : World) : (Op.equalIn 10000 122 (.agg #[.int .i64 a, .int .i64 b]) (.agg #[.int .i64 0, .int .i64 0])).run Try.prog w = .ok (noTnB a b) w := by
  unfold noTnB
  by_cases h0 : a = 0
  case neg => go_simp
  by_cases h1 : b = 0
  case neg => go_simp
  go_simp
theorem implRight (a b : Int) (w : World) :
    Calls Try.prog 98 #[.agg #[.int .i64 a, .int .i64 b]] w fun e w' => e = .returned (.bool (tnB a b)) ∧ Below w.heap.size w w' := by
  cases e0 : inB a 1 999
  all_goals
    go_enter Try.func98, Try.ntmps98
    go_wp2_with (first | (go_at_call 176; refine (implIdOk _ _ (by assumption) _).mono ?_; rintro e w' ⟨rfl, rfl⟩))
    go_ret
    exact ⟨ret_bool (by simp [tnB, e0]), by (repeat (first | with_reducible assumption | with_reducible exact Below.refl _ _ | with_reducible refine Below.drew ?_ | with_reducible refine bdrewN ?_ _ | (with_reducible refine Below.alloc ?_ ?side _; case side => (first | omega | (simp [go_sem]; done) | (simp [go_sem]; omega))) | (with_reducible refine Below.setCell ?_ ?side _; case side => (first | omega | (simp [go_sem]; done) | (simp [go_sem]; omega)))))⟩
def dropB (x : TaskD) : Bool := if x.pc = 3 then tnB x.trace x.stamp else noTnB x.trace x.stamp
theorem implDropOk (x : TaskD) (S0 : Nat → Prop) (c0 : List Value) (w : World) (h0 : taskR w S0 c0 x) :
    Calls Try.prog 97 #[.agg c0.toArray] w fun e w' => e = .returned (.bool (dropB x)) ∧ Below w.heap.size w w' := by
  have HR := hide h0
  have P0 := Held.new w c0 35
  have B0 := bnew w (.cells c0.toArray 35)
  have r0 : RowT Try.prog 35 c0.length := by rw [taskR_len h0]; exact rowITask
  clear h0
  by_cases e : x.pc = 3
  · have q : (x.pc == 3) = true := by simpa using e
    have HF := hide (show dropB x = tnB x.trace x.stamp by rw [dropB, if_pos e])
    clear e
    go_enter Try.func97, Try.ntmps97
    go_upto_region 1 with fail
    generalize World.alloc w _ = w0 at *
    have p1 := P0.2 1 _ (taskR_c1 (unhide HR))
    go_wp2_with (first | (refine wpl_loadG (by rfl) 35 _ rfl _ 0 rfl c0 P0.inB r0 ?_))
    refine (implTrailOf x S0 c0 _ (taskR_keeps _ _ _ None1 _ _ (Below.turn B0) none_off (unhide HR))).mono ?_
    rintro e w1 ⟨rfl, hb1⟩
    clear p1
    go_wp2_with fail
    refine (implRight x.trace x.stamp _).mono ?_
    rintro e w2 ⟨rfl, hb2⟩
    go_wp2
    go_ret
    exact ⟨ret_bool (unhide HF).symm, bthen B0 (bthen hb1 hb2)⟩
  · have q : (x.pc == 3) = false := by simpa using e
    have HF := hide (show dropB x = noTnB x.trace x.stamp by rw [dropB, if_neg e])
    clear e
    have heq := fun w => eqName0 x.trace x.stamp w
    have HE := hide heq
    clear heq
    go_enter Try.func97, Try.ntmps97
    go_upto_region 1 with fail
    generalize World.alloc w _ = w0 at *
    have p1 := P0.2 1 _ (taskR_c1 (unhide HR))
    go_wp2_with (first | (refine wpl_loadG (by rfl) 35 _ rfl _ 0 rfl c0 P0.inB r0 ?_))
    refine (implTrailOf x S0 c0 _ (taskR_keeps _ _ _ None1 _ _ (Below.turn B0) none_off (unhide HR))).mono ?_
    rintro e w1 ⟨rfl, hb1⟩
    clear p1
    have hd := fun h : noTnB x.trace x.stamp = false => of_decide_eq_false h
    cases hn : noTnB x.trace x.stamp
    · have hd' := of_decide_eq_false hn
      by_cases t0 : x.trace = 0
      · have t1 : ¬ x.stamp = 0 := fun h => hd' ⟨t0, h⟩
        have q1 : (x.trace == 0) = true := by simpa using t0
        have q2 : (x.stamp == 0) = false := by simpa using t1
        have HN := hide hn
        clear hd hd' hn
        go_wp2
        go_ret
        exact ⟨ret_bool (by rw [unhide HF, unhide HN]), bthen B0 hb1⟩
      · have HN := hide hn
        clear hd hd' hn
        go_wp2
        go_ret
        exact ⟨ret_bool (by rw [unhide HF, unhide HN]), bthen B0 hb1⟩
    · obtain ⟨t0, t1⟩ := of_decide_eq_true hn
      have HN := hide hn
      clear hd hn
      rw [t0, t1]
      clear t0 t1
      go_wp2
      go_ret
      exact ⟨ret_bool (by rw [unhide HF, unhide HN]), bthen B0 hb1⟩
def oddB (st : Int) (y : ItemD) : Bool := !(itemB y && decide (y.stamp = st))
theorem implHand1 (y : ItemD) (st : Int) (S0 : Nat → Prop) (c0 : List Value) (bp : Nat) (w : World) (h0 : itemR w S0 c0 y) (b0 : itemBulk y ≤ 1048576) (hp : w.cell? ⟨bp, 9, none⟩ = some (.int .i64 st)) (hbp : bp < w.heap.size) :
    Calls Try.prog 180 #[.agg c0.toArray, .pointer (some ⟨bp, 0, none⟩)] w fun e w' => e = .returned (.bool (oddB st y)) ∧ Below w.heap.size w w' := by
  have HR := hide h0
  have P0 := Held.new w c0 120
  have B0 := bnew w (.cells c0.toArray 120)
  have r0 : RowT Try.prog 120 c0.length := by rw [itemR_len h0]; exact rowIItem
  have hq := hp
  rw [← B0.cell (p := ⟨bp, 9, none⟩) hbp] at hq
  clear h0 hp
  by_cases e : y.stamp = st
  · have q : (y.stamp != st) = false := by simpa using e
    have HE := hide e
    clear e
    go_enter Try.func180, Try.ntmps180
    go_upto_region 1 with fail
    generalize World.alloc w _ = w0 at *
    have p0 := P0.2 0 _ (itemR_c0 (unhide HR))
    go_wp2_with (first | (refine wpl_loadG (by rfl) 120 _ rfl _ 0 rfl c0 P0.inB r0 ?_))
    refine (implItemOk y S0 c0 _ (itemR_keeps _ _ _ None1 _ _ (Below.turn B0) none_off (unhide HR)) b0).mono ?_
    rintro e w1 ⟨rfl, hb1⟩
    clear p0 hq
    go_wp2
    go_ret
    exact ⟨ret_bool (by rw [oddB, decide_eq_true (unhide HE), Bool.and_true]), bthen B0 hb1⟩
  · have q : (y.stamp != st) = true := by simpa using e
    go_enter Try.func180, Try.ntmps180
    go_upto_region 1 with fail
    generalize World.alloc w _ = w0 at *
    have p0 := P0.2 0 _ (itemR_c0 (unhide HR))
    go_wp2
    go_ret
    exact ⟨ret_bool (by rw [oddB, decide_eq_false e, Bool.and_false]; rfl), B0⟩
set_option maxHeartbeats 2000000 in
theorem implIdxOdd (l : List ItemD) (S0 : Nat → Prop) (v0 : Value) (w : World) (h0 : LAt 7 itemR w S0 v0 l) (b0 : bulkL itemBulk l ≤ 1048576) (st : Int) (bp : Nat) (hp : w.cell? ⟨bp, 9, none⟩ = some (.int .i64 st)) (hbp : bp < w.heap.size) :
    Calls Try.prog 224 #[v0, .func (.func 180) #[] #[.pointer (some ⟨bp, 0, none⟩)]] w fun e w' => e = .returned (.int .i64 (idxv (oddB st) l)) ∧ Below w.heap.size w w' := by
  obtain ⟨a, cap, rfl⟩ := h0.form
  have hl := h0.len
  have HA := hide h0
  clear h0
  go_enter Try.func224, Try.ntmps224
  go_wp2
  go_loopw [8] (fun i wk => ∃ k : Nat, k ≤ l.length ∧ i = .int .i64 k ∧ Hid (∀ j (h : j < l.length), j < k → (oddB st) l[j] = false) ∧ Below w.heap.size w wk) (fun i _ => l.length - (intOf i).toNat)
  case atStart => exact ⟨0, Nat.zero_le _, rfl, hide (fun j h hj => absurd hj (Nat.not_lt_zero _)), Below.refl _ _⟩
  case round =>
    obtain ⟨k, hk, rfl, hno, hbl⟩ := hrel
    have hbs := hbl.size
    by_cases hlt : k < l.length
    · have hki : (k : Int) < (l.length : Int) := by omega
      obtain ⟨b, o, cs, rfl, hbk, hSb, hcs, hin⟩ := (unhide HA).at k hlt
      have hcs := itemR_keeps _ _ S0 None1 cs _ (Below.turn hbl) none_off hcs
      have hin := hin.turn hbk (Below.turn hbl) (fun e => e)
      have hXb : itemBulk l[k] ≤ 1048576 := by have := bulkL_mem itemBulk (List.getElem_mem hlt); omega
      have hpk : wr.cell? ⟨bp, 9, none⟩ = some (.int .i64 st) := by rw [hbl.cell (p := ⟨bp, 9, none⟩) hbp]; exact hp
      have hrw : RowT Try.prog 120 cs.length := by rw [itemR_len hcs]; exact rowIItem
      generalize hX : l[k] = X at *
      have HX := hide hX
      clear hX
      go_wp2_with (first | (refine wpl_load rfl 120 _ rfl _ _ rfl cs hin hrw ?_))
      have hc := implHand1 X st S0 cs bp _ hcs hXb hpk (Nat.lt_of_lt_of_le hbp hbs)
      cases hp : (oddB st) X
      · rw [hp] at hc
        refine hc.mono ?_
        rintro e w2 ⟨rfl, hb2⟩
        clear hc
        go_wp2
        go_roundw
        case rel =>
          refine ⟨k + 1, by omega, by go_num, hide (fun j h hj => ?_), bthen hbl hb2⟩
          by_cases hjk : j = k
          · subst hjk; rw [unhide HX]; exact hp
          · exact unhide hno j h (by omega)
        case measure => simp [intOf]; omega
      · rw [hp] at hc
        refine hc.mono ?_
        rintro e w2 ⟨rfl, hb2⟩
        clear hc
        have HF := hide (idxv_hit (p := oddB st) hlt (unhide hno) (by rw [unhide HX]; exact hp))
        go_wp2
        go_ret
        exact ⟨by rw [unhide HF]; rfl, bthen hbl hb2⟩
    · have hki : ¬ (k : Int) < (l.length : Int) := by omega
      obtain rfl : k = l.length := by omega
      go_wp2
      go_ret
      exact ⟨by rw [idxv_miss (unhide hno)]; rfl, hbl⟩
theorem implHasOdd (l : List ItemD) (S0 : Nat → Prop) (v0 : Value) (w : World) (h0 : LAt 7 itemR w S0 v0 l) (b0 : bulkL itemBulk l ≤ 1048576) (st : Int) (bp : Nat) (hp : w.cell? ⟨bp, 9, none⟩ = some (.int .i64 st)) (hbp : bp < w.heap.size) :
    Calls Try.prog 182 #[v0, .func (.func 180) #[] #[.pointer (some ⟨bp, 0, none⟩)]] w fun e w' => e = .returned (.bool (l.any (oddB st))) ∧ Below w.heap.size w w' := by
  obtain ⟨a, cap, rfl⟩ := h0.form
  go_enter Try.func182, Try.ntmps182
  go_wp2_with fail
  refine (implIdxOdd l S0 _ _ h0 b0 st bp hp hbp).mono ?_
  rintro e w1 ⟨rfl, hb1⟩
  go_wp2
  go_ret
  exact ⟨ret_bool (by rw [← idxv_any]), hb1⟩
def okItB (st : Int) (y : ItemD) : Bool := itemB y && decide (y.stamp = st)
def handB (x : TaskD) : Bool := x.hand.all (okItB x.stamp) && decide ((x.pc = 3) ↔ (0 < x.hand.length))
theorem all_odd (st : Int) (l : List ItemD) : l.all (okItB st) = !(l.any (oddB st)) := by
  rw [List.not_any_eq_all_not]
  congr 1
  funext s
  simp [oddB, okItB]
theorem implHandOk (x : TaskD) (S0 : Nat → Prop) (c0 : List Value) (w : World) (h0 : taskR w S0 c0 x) (b0 : taskBulk x ≤ 1048576) :
    Calls Try.prog 99 #[.agg c0.toArray] w fun e w' => e = .returned (.bool (handB x)) ∧ Below w.heap.size w w' := by
  obtain ⟨a, k, q10, g⟩ := taskR_c10 h0
  have hl := g.len
  have HQ := hide q10
  have HG := hide g
  clear q10 g
  have HR := hide h0
  have P0 := Held.new w c0 35
  have B0 := bnew w (.cells c0.toArray 35)
  have r0 : RowT Try.prog 35 c0.length := by rw [taskR_len h0]; exact rowITask
  have hmf := hmf
  clear h0
  have hbb : bulkL itemBulk x.hand ≤ 1048576 := by unfold taskBulk at b0; omega
  by_cases e : x.pc = 3
  case neg =>
    have q : (x.pc != 3) = true := by simpa using e
    by_cases n0 : x.hand.length = 0
    all_goals
      go_enter Try.func99, Try.ntmps99
      go_upto_region 1 with fail
      generalize World.alloc w _ = w0 at *
      have p1 := P0.2 1 _ (taskR_c1 (unhide HR))
      have p10 := P0.2 10 _ (unhide HQ)
      go_wp2
      go_ret
      refine ⟨ret_bool ?_, B0⟩
      rw [handB]
    · have : x.hand = [] := List.length_eq_zero_iff.1 n0
      simp [this, e]
    · have : decide ((x.pc = 3) ↔ (0 < x.hand.length)) = false := decide_eq_false (fun h => e (h.2 (by omega)))
      rw [this, Bool.and_false]
      exact beq_eq_false_iff_ne.2 (by omega)
  have q : (x.pc != 3) = false := by simpa using e
  by_cases n0 : 0 < (x.hand.length : Int)
  case neg =>
    have HF := hide (show handB x = false by rw [handB, decide_eq_false (p := (x.pc = 3) ↔ (0 < x.hand.length)) (fun h => n0 (by have := h.1 e; omega)), Bool.and_false])
    clear e
    go_enter Try.func99, Try.ntmps99
    go_upto_region 1 with fail
    generalize World.alloc w _ = w0 at *
    have p1 := P0.2 1 _ (taskR_c1 (unhide HR))
    have p10 := P0.2 10 _ (unhide HQ)
    go_wp2
    go_ret
    exact ⟨ret_bool (unhide HF).symm, B0⟩
  have HF := hide (show handB x = !(x.hand.any (oddB x.stamp)) by rw [handB, decide_eq_true (p := (x.pc = 3) ↔ (0 < x.hand.length)) ⟨fun _ => by omega, fun _ => e⟩, Bool.and_true, all_odd])
  clear e
  go_enter Try.func99, Try.ntmps99
  go_upto_region 1 with fail
  generalize World.alloc w _ = w0 at *
  have p1 := P0.2 1 _ (taskR_c1 (unhide HR))
  have p10 := P0.2 10 _ (unhide HQ)
  go_wp2_with fail
  refine (implHasOdd x.hand S0 _ _ ((unhide HG).keep itemR_keeps B0) hbb x.stamp w.heap.size (P0.2 9 _ (taskR_c9 (unhide HR))) P0.1).mono ?_
  rintro e w1 ⟨rfl, hb1⟩
  clear p1 p10
  go_wp2
  go_ret
  exact ⟨ret_bool (unhide HF).symm, bthen B0 hb1⟩
end Go.Proofs.Ytklhljknkcmecac
