/-
  World: what lies in memory, read and owned; contracts of the law's own sizes, copies and comparisons.
-/
import Derived.Test.YtciipadkdglhmaaTConf
import Derived.Test.YtciipadkdglhmaaTStripe
import Derived.Test.YtciipadkdglhmaaABucket
import Derived.Test.YtciipadkdglhmaaTVerdict
import Derived.Test.YtciipadkdglhmaaAWheel
import Derived.Test.YtciipadkdglhmaaTTimer
import Derived.Test.YtciipadkdglhmaaTItem
import Derived.Test.YtciipadkdglhmaaTTask
import Derived.Test.YtciipadkdglhmaaTDeed
import Derived.Test.YtciipadkdglhmaaToSt
import Derived.Deep.CutRange
namespace Go.Proofs.Ytciipadkdglhmaa
open Go.ChangeShapes Go.WideShapes Go.ChangeAt Go.RowKit
set_option linter.unusedVariables false
set_option maxRecDepth 100000

structure WorldD where
  c : ConfD
  time : Int
  shut : Bool
  st : List StripeD
  ruleHeld : Int
  b : BucketD
  cache : List VerdictD
  used : Int
  w : WheelD
  due : List TimerD
  queue : List ItemD
  out : List ItemD
  tasks : List TaskD
  deeds : List DeedD
  next : Int
theorem rd_set {α : Type} {n : Nat} {C : World → (Nat → Prop) → List Value → α → Prop} (hC : Keeps C) {wk : World} {lo hi b i : Nat} {u v : Value} {l : List α} (h : LAt n C wk (Within lo hi) v l) (hlo : b < lo) : LAt n C (wk.setCell ⟨b, i, none⟩ u) (Within lo hi) v l :=
  h.turn hC (Turn.set wk ⟨b, i, none⟩ u) (fun k hk e => by have := hk.1; have e' : k = b := e; omega)
theorem rd_put {α : Type} {n : Nat} {C : World → (Nat → Prop) → List Value → α → Prop} (hC : Keeps C) {wk : World} {lo hi b o : Nat} {cs : List Value} {v : Value} {l : List α} (h : LAt n C wk (Within lo hi) v l) (hlo : b < lo) : LAt n C (putL b o cs 0 wk) (Within lo hi) v l :=
  h.turn hC (putL_turn b o cs 0 wk) (fun k hk e => by have := hk.1; have e' : k = b := e; omega)
def worldBulk (x : WorldD) : Nat := x.c.rule.key.size + x.c.rule.text.size + bulkL polBulk x.c.rule.l + bulkL stripeBulk x.st + bulkL verdictBulk x.cache + bulkL timerSBulk x.w.near + bulkL timerSBulk x.w.far + bulkL timerBulk x.w.rest + bulkL timerBulk x.due + bulkL itemBulk x.queue + bulkL itemBulk x.out + bulkL taskBulk x.tasks + bulkL deedBulk x.deeds
def worldR (w : World) (S : Nat → Prop) (cs : List Value) (x : WorldD) : Prop := ∃ s0 s1 s2 s3 s4 s5 s6 s7 s8 s9 s10, cs = [.int .i64 x.c.stripes, .int .i64 x.c.wait, .int .i64 x.c.budget, .int .i64 x.c.cache, .int .i64 x.c.queue, .int .i64 x.c.rate, .int .i64 x.c.burst, .int .i64 x.c.rule.kind, .int .i64 x.c.rule.n, .string x.c.rule.key, .string x.c.rule.text, s0, .int .i64 x.time, .bool x.shut, s1, .int .i64 x.ruleHeld, .int .i64 x.b.rate, .int .i64 x.b.burst, .int .i64 x.b.tokens, .int .i64 x.b.since, s2, .int .i64 x.used, .int .i64 x.w.now, s3, s4, s5, s6, s7, s8, s9, s10, .int .i64 x.next] ∧ x.c.rule.key.size ≤ maxLen ∧ x.c.rule.text.size ≤ maxLen ∧ LAt 5 polR w S s0 x.c.rule.l ∧ LAt 2 stripeR w S s1 x.st ∧ LAt 3 verdictR w S s2 x.cache ∧ LAt 1 timerSR w S s3 x.w.near ∧ LAt 1 timerSR w S s4 x.w.far ∧ LAt 3 timerR w S s5 x.w.rest ∧ LAt 3 timerR w S s6 x.due ∧ LAt 7 itemR w S s7 x.queue ∧ LAt 7 itemR w S s8 x.out ∧ LAt 12 taskR w S s9 x.tasks ∧ LAt 20 deedR w S s10 x.deeds
def worldO (w : World) (S : Nat → Prop) (cs : List Value) (x : WorldD) : Prop := worldR w S cs x
theorem worldR_keeps : Keeps worldR := by
  intro w w' S T cs x ht hd h
  obtain ⟨s0, s1, s2, s3, s4, s5, s6, s7, s8, s9, s10, e, q0, q1, g0, g1, g2, g3, g4, g5, g6, g7, g8, g9, g10⟩ := h
  exact ⟨s0, s1, s2, s3, s4, s5, s6, s7, s8, s9, s10, e, q0, q1, g0.turn polR_keeps ht hd, g1.turn stripeR_keeps ht hd, g2.turn verdictR_keeps ht hd, g3.turn timerSR_keeps ht hd, g4.turn timerSR_keeps ht hd, g5.turn timerR_keeps ht hd, g6.turn timerR_keeps ht hd, g7.turn itemR_keeps ht hd, g8.turn itemR_keeps ht hd, g9.turn taskR_keeps ht hd, g10.turn deedR_keeps ht hd⟩
theorem worldR_widens : Widens worldR := by
  intro w S T cs x hs h
  obtain ⟨s0, s1, s2, s3, s4, s5, s6, s7, s8, s9, s10, e, q0, q1, g0, g1, g2, g3, g4, g5, g6, g7, g8, g9, g10⟩ := h
  exact ⟨s0, s1, s2, s3, s4, s5, s6, s7, s8, s9, s10, e, q0, q1, g0.widens polR_widens hs, g1.widens stripeR_widens hs, g2.widens verdictR_widens hs, g3.widens timerSR_widens hs, g4.widens timerSR_widens hs, g5.widens timerR_widens hs, g6.widens timerR_widens hs, g7.widens itemR_widens hs, g8.widens itemR_widens hs, g9.widens taskR_widens hs, g10.widens deedR_widens hs⟩
theorem worldO_keeps : Keeps worldO := worldR_keeps
theorem worldO_widens : Widens worldO := worldR_widens
theorem worldO_read (w : World) (S : Nat → Prop) (cs : List Value) (x : WorldD) (h : worldO w S cs x) : worldR w S cs x := h
theorem worldO_len {w : World} {S : Nat → Prop} {cs : List Value} {x : WorldD} (h : worldO w S cs x) : cs.length = 32 := by
  obtain ⟨s0, s1, s2, s3, s4, s5, s6, s7, s8, s9, s10, rfl, _, _, _, _, _, _, _, _, _, _, _, _, _⟩ := h; rfl

set_option maxHeartbeats 2000000 in
theorem mSzWorld (x : WorldD) (S : Nat → Prop) (cs : List Value) (left : Int) (w : World) (h0 : 0 ≤ left) (h1 : left ≤ 1048576) (hx : worldR w S cs x) :
    Calls Try.prog 4 #[.agg cs.toArray, .int .i64 left] w fun e w' => (∃ z : Int, e = .returned (.int .i64 z) ∧ (z < 0 ∨ (0 ≤ z ∧ z + worldBulk x ≤ left))) ∧ Below w.heap.size w w' := by
  unfold worldBulk
  obtain ⟨s0, s1, s2, s3, s4, s5, s6, s7, s8, s9, s10, rfl, q0, q1, g0, g1, g2, g3, g4, g5, g6, g7, g8, g9, g10⟩ := hx
  obtain ⟨a0, k0, rfl⟩ := g0.form
  obtain ⟨a1, k1, rfl⟩ := g1.form
  obtain ⟨a2, k2, rfl⟩ := g2.form
  obtain ⟨a3, k3, rfl⟩ := g3.form
  obtain ⟨a4, k4, rfl⟩ := g4.form
  obtain ⟨a5, k5, rfl⟩ := g5.form
  obtain ⟨a6, k6, rfl⟩ := g6.form
  obtain ⟨a7, k7, rfl⟩ := g7.form
  obtain ⟨a8, k8, rfl⟩ := g8.form
  obtain ⟨a9, k9, rfl⟩ := g9.form
  obtain ⟨a10, k10, rfl⟩ := g10.form
  have H0 := Held.new w [.int .i64 x.c.stripes, .int .i64 x.c.wait, .int .i64 x.c.budget, .int .i64 x.c.cache, .int .i64 x.c.queue, .int .i64 x.c.rate, .int .i64 x.c.burst, .int .i64 x.c.rule.kind, .int .i64 x.c.rule.n, .string x.c.rule.key, .string x.c.rule.text, .slice a0 x.c.rule.l.length k0, .int .i64 x.time, .bool x.shut, .slice a1 x.st.length k1, .int .i64 x.ruleHeld, .int .i64 x.b.rate, .int .i64 x.b.burst, .int .i64 x.b.tokens, .int .i64 x.b.since, .slice a2 x.cache.length k2, .int .i64 x.used, .int .i64 x.w.now, .slice a3 x.w.near.length k3, .slice a4 x.w.far.length k4, .slice a5 x.w.rest.length k5, .slice a6 x.due.length k6, .slice a7 x.queue.length k7, .slice a8 x.out.length k8, .slice a9 x.tasks.length k9, .slice a10 x.deeds.length k10, .int .i64 x.next] 39
  have B0 := bnew w (.cells #[.int .i64 x.c.stripes, .int .i64 x.c.wait, .int .i64 x.c.budget, .int .i64 x.c.cache, .int .i64 x.c.queue, .int .i64 x.c.rate, .int .i64 x.c.burst, .int .i64 x.c.rule.kind, .int .i64 x.c.rule.n, .string x.c.rule.key, .string x.c.rule.text, .slice a0 x.c.rule.l.length k0, .int .i64 x.time, .bool x.shut, .slice a1 x.st.length k1, .int .i64 x.ruleHeld, .int .i64 x.b.rate, .int .i64 x.b.burst, .int .i64 x.b.tokens, .int .i64 x.b.since, .slice a2 x.cache.length k2, .int .i64 x.used, .int .i64 x.w.now, .slice a3 x.w.near.length k3, .slice a4 x.w.far.length k4, .slice a5 x.w.rest.length k5, .slice a6 x.due.length k6, .slice a7 x.queue.length k7, .slice a8 x.out.length k8, .slice a9 x.tasks.length k9, .slice a10 x.deeds.length k10, .int .i64 x.next] 39)
  go_enter Try.func4, Try.ntmps4
  go_wp2_with fail
  refine (mSzConf x.c S [.int .i64 x.c.stripes, .int .i64 x.c.wait, .int .i64 x.c.budget, .int .i64 x.c.cache, .int .i64 x.c.queue, .int .i64 x.c.rate, .int .i64 x.c.burst, .int .i64 x.c.rule.kind, .int .i64 x.c.rule.n, .string x.c.rule.key, .string x.c.rule.text, .slice a0 x.c.rule.l.length k0] left _ h0 h1 ⟨_, rfl, q0, q1, g0.keep polR_keeps B0⟩).mono ?_
  rintro e w1 ⟨⟨z1, rfl, hz1⟩, hb1⟩
  have HZ1 := hide hz1
  have B1 := bthen B0 hb1
  have H1 := H0.keep hb1
  clear hz1 hb1
  by_cases hneg1 : z1 < 0
  · go_wp2
    go_ret
    exact ⟨⟨_, rfl, .inl (by omega)⟩, B1⟩
  have hzz1 : 0 ≤ z1 ∧ z1 + confBulk x.c ≤ left := by rcases unhide HZ1 with h | h <;> omega
  clear HZ1
  have p14 := H1.2 14 _ rfl
  go_wp2_with fail
  refine (mSzStripeS x.st S _ z1 _ (by omega) (by omega) (g1.keep stripeR_keeps B1)).mono ?_
  rintro e w2 ⟨⟨z2, rfl, hz2⟩, hb2⟩
  have HZ2 := hide hz2
  have B2 := bthen B1 hb2
  have H2 := H1.keep hb2
  clear hz2 hb2
  clear p14
  by_cases hneg2 : z2 < 0
  · go_wp2
    go_ret
    exact ⟨⟨_, rfl, .inl (by omega)⟩, B2⟩
  have hzz2 : 0 ≤ z2 ∧ z2 + bulkL stripeBulk x.st ≤ z1 := by rcases unhide HZ2 with h | h <;> omega
  clear HZ2
  have p20 := H2.2 20 _ rfl
  go_wp2_with fail
  refine (mSzVerdictS x.cache S _ z2 _ (by omega) (by omega) (g2.keep verdictR_keeps B2)).mono ?_
  rintro e w3 ⟨⟨z3, rfl, hz3⟩, hb3⟩
  have HZ3 := hide hz3
  have B3 := bthen B2 hb3
  have H3 := H2.keep hb3
  clear hz3 hb3
  clear p20
  by_cases hneg3 : z3 < 0
  · go_wp2
    go_ret
    exact ⟨⟨_, rfl, .inl (by omega)⟩, B3⟩
  have hzz3 : 0 ≤ z3 ∧ z3 + bulkL verdictBulk x.cache ≤ z2 := by rcases unhide HZ3 with h | h <;> omega
  clear HZ3
  have p22 := H3.2 22 _ rfl
  have p23 := H3.2 23 _ rfl
  have p24 := H3.2 24 _ rfl
  have p25 := H3.2 25 _ rfl
  go_wp2_with fail
  refine (mSzWheel x.w S [.int .i64 x.w.now, .slice a3 x.w.near.length k3, .slice a4 x.w.far.length k4, .slice a5 x.w.rest.length k5] z3 _ (by omega) (by omega) ⟨_, _, _, rfl, g3.keep timerSR_keeps B3, g4.keep timerSR_keeps B3, g5.keep timerR_keeps B3⟩).mono ?_
  rintro e w4 ⟨⟨z4, rfl, hz4⟩, hb4⟩
  have HZ4 := hide hz4
  have B4 := bthen B3 hb4
  have H4 := H3.keep hb4
  clear hz4 hb4
  clear p22 p23 p24 p25
  by_cases hneg4 : z4 < 0
  · go_wp2
    go_ret
    exact ⟨⟨_, rfl, .inl (by omega)⟩, B4⟩
  have hzz4 : 0 ≤ z4 ∧ z4 + wheelBulk x.w ≤ z3 := by rcases unhide HZ4 with h | h <;> omega
  clear HZ4
  have p26 := H4.2 26 _ rfl
  go_wp2_with fail
  refine (mSzTimerS x.due S _ z4 _ (by omega) (by omega) (g6.keep timerR_keeps B4)).mono ?_
  rintro e w5 ⟨⟨z5, rfl, hz5⟩, hb5⟩
  have HZ5 := hide hz5
  have B5 := bthen B4 hb5
  have H5 := H4.keep hb5
  clear hz5 hb5
  clear p26
  by_cases hneg5 : z5 < 0
  · go_wp2
    go_ret
    exact ⟨⟨_, rfl, .inl (by omega)⟩, B5⟩
  have hzz5 : 0 ≤ z5 ∧ z5 + bulkL timerBulk x.due ≤ z4 := by rcases unhide HZ5 with h | h <;> omega
  clear HZ5
  have p27 := H5.2 27 _ rfl
  go_wp2_with fail
  refine (mSzItemS x.queue S _ z5 _ (by omega) (by omega) (g7.keep itemR_keeps B5)).mono ?_
  rintro e w6 ⟨⟨z6, rfl, hz6⟩, hb6⟩
  have HZ6 := hide hz6
  have B6 := bthen B5 hb6
  have H6 := H5.keep hb6
  clear hz6 hb6
  clear p27
  by_cases hneg6 : z6 < 0
  · go_wp2
    go_ret
    exact ⟨⟨_, rfl, .inl (by omega)⟩, B6⟩
  have hzz6 : 0 ≤ z6 ∧ z6 + bulkL itemBulk x.queue ≤ z5 := by rcases unhide HZ6 with h | h <;> omega
  clear HZ6
  have p28 := H6.2 28 _ rfl
  go_wp2_with fail
  refine (mSzItemS x.out S _ z6 _ (by omega) (by omega) (g8.keep itemR_keeps B6)).mono ?_
  rintro e w7 ⟨⟨z7, rfl, hz7⟩, hb7⟩
  have HZ7 := hide hz7
  have B7 := bthen B6 hb7
  have H7 := H6.keep hb7
  clear hz7 hb7
  clear p28
  by_cases hneg7 : z7 < 0
  · go_wp2
    go_ret
    exact ⟨⟨_, rfl, .inl (by omega)⟩, B7⟩
  have hzz7 : 0 ≤ z7 ∧ z7 + bulkL itemBulk x.out ≤ z6 := by rcases unhide HZ7 with h | h <;> omega
  clear HZ7
  have p29 := H7.2 29 _ rfl
  go_wp2_with fail
  refine (mSzTaskS x.tasks S _ z7 _ (by omega) (by omega) (g9.keep taskR_keeps B7)).mono ?_
  rintro e w8 ⟨⟨z8, rfl, hz8⟩, hb8⟩
  have HZ8 := hide hz8
  have B8 := bthen B7 hb8
  have H8 := H7.keep hb8
  clear hz8 hb8
  clear p29
  by_cases hneg8 : z8 < 0
  · go_wp2
    go_ret
    exact ⟨⟨_, rfl, .inl (by omega)⟩, B8⟩
  have hzz8 : 0 ≤ z8 ∧ z8 + bulkL taskBulk x.tasks ≤ z7 := by rcases unhide HZ8 with h | h <;> omega
  clear HZ8
  have p30 := H8.2 30 _ rfl
  go_wp2_with fail
  refine (mSzDeedS x.deeds S _ z8 _ (by omega) (by omega) (g10.keep deedR_keeps B8)).mono ?_
  rintro e w9 ⟨⟨z9, rfl, hz9⟩, hb9⟩
  have HZ9 := hide hz9
  have B9 := bthen B8 hb9
  have H9 := H8.keep hb9
  clear hz9 hb9
  clear p30
  by_cases hneg9 : z9 < 0
  · go_wp2
    go_ret
    exact ⟨⟨_, rfl, .inl (by omega)⟩, B9⟩
  have hzz9 : 0 ≤ z9 ∧ z9 + bulkL deedBulk x.deeds ≤ z8 := by rcases unhide HZ9 with h | h <;> omega
  clear HZ9
  have hfin : z9 < 0 ∨ (0 ≤ z9 ∧ z9 + (x.c.rule.key.size + x.c.rule.text.size + bulkL polBulk x.c.rule.l + bulkL stripeBulk x.st + bulkL verdictBulk x.cache + bulkL timerSBulk x.w.near + bulkL timerSBulk x.w.far + bulkL timerBulk x.w.rest + bulkL timerBulk x.due + bulkL itemBulk x.queue + bulkL itemBulk x.out + bulkL taskBulk x.tasks + bulkL deedBulk x.deeds : Nat) ≤ left) := by unfold confBulk wheelBulk at *; omega
  have HF := hide hfin
  clear hfin
  go_wp2
  go_ret
  exact ⟨⟨_, rfl, unhide HF⟩, B9⟩

theorem rowLWorld : RowT Try.prog 39 32 := ⟨_, Try.underlying39, rfl, by kernel_rfl⟩
theorem rowIWorld : RowT Try.prog 60 32 := ⟨_, Try.underlying60, rfl, by kernel_rfl⟩
set_option maxHeartbeats 4000000 in
theorem mToWorld (x : WorldD) (S : Nat → Prop) (cs : List Value) (w : World) (hb : worldBulk x ≤ 1048576) (hx : worldR w S cs x) :
    Calls Try.prog 6 #[.agg cs.toArray] w fun e w' => ∃ cs', e = .returned (.agg cs'.toArray) ∧ worldO w' (Within w.heap.size w'.heap.size) cs' x ∧ Below w.heap.size w w' := by
  obtain ⟨s0, s1, s2, s3, s4, s5, s6, s7, s8, s9, s10, rfl, q0, q1, g0, g1, g2, g3, g4, g5, g6, g7, g8, g9, g10⟩ := hx
  obtain ⟨a0, k0, rfl⟩ := g0.form
  obtain ⟨a1, k1, rfl⟩ := g1.form
  obtain ⟨a2, k2, rfl⟩ := g2.form
  obtain ⟨a3, k3, rfl⟩ := g3.form
  obtain ⟨a4, k4, rfl⟩ := g4.form
  obtain ⟨a5, k5, rfl⟩ := g5.form
  obtain ⟨a6, k6, rfl⟩ := g6.form
  obtain ⟨a7, k7, rfl⟩ := g7.form
  obtain ⟨a8, k8, rfl⟩ := g8.form
  obtain ⟨a9, k9, rfl⟩ := g9.form
  obtain ⟨a10, k10, rfl⟩ := g10.form
  unfold worldBulk at hb
  go_enter Try.func6, Try.ntmps6
  go_upto_region 2 with fail
  generalize hW : World.alloc (World.alloc (World.alloc w _) _) _ = w1
  have T1 : ToSt w w1 32 [.int .i64 x.c.stripes, .int .i64 x.c.wait, .int .i64 x.c.budget, .int .i64 x.c.cache, .int .i64 x.c.queue, .int .i64 x.c.rate, .int .i64 x.c.burst, .int .i64 x.c.rule.kind, .int .i64 x.c.rule.n, .string x.c.rule.key, .string x.c.rule.text, .slice a0 x.c.rule.l.length k0, .int .i64 x.time, .bool x.shut, .slice a1 x.st.length k1, .int .i64 x.ruleHeld, .int .i64 x.b.rate, .int .i64 x.b.burst, .int .i64 x.b.tokens, .int .i64 x.b.since, .slice a2 x.cache.length k2, .int .i64 x.used, .int .i64 x.w.now, .slice a3 x.w.near.length k3, .slice a4 x.w.far.length k4, .slice a5 x.w.rest.length k5, .slice a6 x.due.length k6, .slice a7 x.queue.length k7, .slice a8 x.out.length k8, .slice a9 x.tasks.length k9, .slice a10 x.deeds.length k10, .int .i64 x.next] [.int .i64 0, .int .i64 0, .int .i64 0, .int .i64 0, .int .i64 0, .int .i64 0, .int .i64 0, .int .i64 0, .int .i64 0, .string ⟨#[]⟩, .string ⟨#[]⟩, .slice none 0 0, .int .i64 0, .bool false, .slice none 0 0, .int .i64 0, .int .i64 0, .int .i64 0, .int .i64 0, .int .i64 0, .slice none 0 0, .int .i64 0, .int .i64 0, .slice none 0 0, .slice none 0 0, .slice none 0 0, .slice none 0 0, .slice none 0 0, .slice none 0 0, .slice none 0 0, .slice none 0 0, .int .i64 0] := by rw [← hW]; exact ToSt.start w 32 [.int .i64 x.c.stripes, .int .i64 x.c.wait, .int .i64 x.c.budget, .int .i64 x.c.cache, .int .i64 x.c.queue, .int .i64 x.c.rate, .int .i64 x.c.burst, .int .i64 x.c.rule.kind, .int .i64 x.c.rule.n, .string x.c.rule.key, .string x.c.rule.text, .slice a0 x.c.rule.l.length k0, .int .i64 x.time, .bool x.shut, .slice a1 x.st.length k1, .int .i64 x.ruleHeld, .int .i64 x.b.rate, .int .i64 x.b.burst, .int .i64 x.b.tokens, .int .i64 x.b.since, .slice a2 x.cache.length k2, .int .i64 x.used, .int .i64 x.w.now, .slice a3 x.w.near.length k3, .slice a4 x.w.far.length k4, .slice a5 x.w.rest.length k5, .slice a6 x.due.length k6, .slice a7 x.queue.length k7, .slice a8 x.out.length k8, .slice a9 x.tasks.length k9, .slice a10 x.deeds.length k10, .int .i64 x.next] [.int .i64 0, .int .i64 0, .int .i64 0, .int .i64 0, .int .i64 0, .int .i64 0, .int .i64 0, .int .i64 0, .int .i64 0, .string ⟨#[]⟩, .string ⟨#[]⟩, .slice none 0 0, .int .i64 0, .bool false, .slice none 0 0, .int .i64 0, .int .i64 0, .int .i64 0, .int .i64 0, .int .i64 0, .slice none 0 0, .int .i64 0, .int .i64 0, .slice none 0 0, .slice none 0 0, .slice none 0 0, .slice none 0 0, .slice none 0 0, .slice none 0 0, .slice none 0 0, .slice none 0 0, .int .i64 0] [.int .i64 0, .int .i64 0, .int .i64 0, .int .i64 0, .int .i64 0, .int .i64 0, .int .i64 0, .int .i64 0, .int .i64 0, .string ⟨#[]⟩, .string ⟨#[]⟩, .slice none 0 0, .int .i64 0, .bool false, .slice none 0 0, .int .i64 0, .int .i64 0, .int .i64 0, .int .i64 0, .int .i64 0, .slice none 0 0, .int .i64 0, .int .i64 0, .slice none 0 0, .slice none 0 0, .slice none 0 0, .slice none 0 0, .slice none 0 0, .slice none 0 0, .slice none 0 0, .slice none 0 0, .int .i64 0] 39 60 rfl rfl
  clear hW
  have c1 := T1.parIn 0 [.int .i64 x.c.stripes, .int .i64 x.c.wait, .int .i64 x.c.budget, .int .i64 x.c.cache, .int .i64 x.c.queue, .int .i64 x.c.rate, .int .i64 x.c.burst, .int .i64 x.c.rule.kind, .int .i64 x.c.rule.n, .string x.c.rule.key, .string x.c.rule.text, .slice a0 x.c.rule.l.length k0] rfl
  go_wp2_with (first | (refine wpl_load rfl 26 _ rfl _ _ rfl [.int .i64 x.c.stripes, .int .i64 x.c.wait, .int .i64 x.c.budget, .int .i64 x.c.cache, .int .i64 x.c.queue, .int .i64 x.c.rate, .int .i64 x.c.burst, .int .i64 x.c.rule.kind, .int .i64 x.c.rule.n, .string x.c.rule.key, .string x.c.rule.text, .slice a0 x.c.rule.l.length k0] c1 rowLConf ?_))
  clear c1
  refine (mToConf x.c S [.int .i64 x.c.stripes, .int .i64 x.c.wait, .int .i64 x.c.budget, .int .i64 x.c.cache, .int .i64 x.c.queue, .int .i64 x.c.rate, .int .i64 x.c.burst, .int .i64 x.c.rule.kind, .int .i64 x.c.rule.n, .string x.c.rule.key, .string x.c.rule.text, .slice a0 x.c.rule.l.length k0] w1 (by first | omega | (unfold confBulk; omega)) ⟨_, rfl, q0, q1, g0.keep polR_keeps T1.below⟩).mono ?_
  rintro e w2 ⟨cs2, rfl, yy, hb2⟩
  obtain ⟨t0, rfl, _, _, y0⟩ := confO_read _ _ _ _ yy
  obtain ⟨b0, m0, rfl⟩ := y0.form
  have hz2 := hb2.size
  have T2 := T1.call hb2
  have hs1 := T1.size
  clear hb2 T1
  have c2 := T2.wr 0 12 (by omega)
  go_upto_region 3 with (first | (refine wpl_store_at rfl 48 _ _ rfl _ _ [.int .i64 x.c.stripes, .int .i64 x.c.wait, .int .i64 x.c.budget, .int .i64 x.c.cache, .int .i64 x.c.queue, .int .i64 x.c.rate, .int .i64 x.c.burst, .int .i64 x.c.rule.kind, .int .i64 x.c.rule.n, .string x.c.rule.key, .string x.c.rule.text, .slice b0 x.c.rule.l.length m0] rfl rfl c2 (by intro v hv; simp only [List.mem_cons, List.not_mem_nil, or_false] at hv; rcases hv with rfl | rfl | rfl | rfl | rfl | rfl | rfl | rfl | rfl | rfl | rfl | rfl <;> rfl) rowIConf ?_))
  clear c2
  generalize hW : putL _ _ _ _ w2 = w3
  have T3 : ToSt w w3 32 [.int .i64 x.c.stripes, .int .i64 x.c.wait, .int .i64 x.c.budget, .int .i64 x.c.cache, .int .i64 x.c.queue, .int .i64 x.c.rate, .int .i64 x.c.burst, .int .i64 x.c.rule.kind, .int .i64 x.c.rule.n, .string x.c.rule.key, .string x.c.rule.text, .slice a0 x.c.rule.l.length k0, .int .i64 x.time, .bool x.shut, .slice a1 x.st.length k1, .int .i64 x.ruleHeld, .int .i64 x.b.rate, .int .i64 x.b.burst, .int .i64 x.b.tokens, .int .i64 x.b.since, .slice a2 x.cache.length k2, .int .i64 x.used, .int .i64 x.w.now, .slice a3 x.w.near.length k3, .slice a4 x.w.far.length k4, .slice a5 x.w.rest.length k5, .slice a6 x.due.length k6, .slice a7 x.queue.length k7, .slice a8 x.out.length k8, .slice a9 x.tasks.length k9, .slice a10 x.deeds.length k10, .int .i64 x.next] [.int .i64 x.c.stripes, .int .i64 x.c.wait, .int .i64 x.c.budget, .int .i64 x.c.cache, .int .i64 x.c.queue, .int .i64 x.c.rate, .int .i64 x.c.burst, .int .i64 x.c.rule.kind, .int .i64 x.c.rule.n, .string x.c.rule.key, .string x.c.rule.text, .slice b0 x.c.rule.l.length m0, .int .i64 0, .bool false, .slice none 0 0, .int .i64 0, .int .i64 0, .int .i64 0, .int .i64 0, .int .i64 0, .slice none 0 0, .int .i64 0, .int .i64 0, .slice none 0 0, .slice none 0 0, .slice none 0 0, .slice none 0 0, .slice none 0 0, .slice none 0 0, .slice none 0 0, .slice none 0 0, .int .i64 0] := by rw [← hW]; exact T2.put 0 [.int .i64 x.c.stripes, .int .i64 x.c.wait, .int .i64 x.c.budget, .int .i64 x.c.cache, .int .i64 x.c.queue, .int .i64 x.c.rate, .int .i64 x.c.burst, .int .i64 x.c.rule.kind, .int .i64 x.c.rule.n, .string x.c.rule.key, .string x.c.rule.text, .slice b0 x.c.rule.l.length m0] (by simp)
  have y0 := rd_put (b := w.heap.size + 2) (o := 0) (cs := [.int .i64 x.c.stripes, .int .i64 x.c.wait, .int .i64 x.c.budget, .int .i64 x.c.cache, .int .i64 x.c.queue, .int .i64 x.c.rate, .int .i64 x.c.burst, .int .i64 x.c.rule.kind, .int .i64 x.c.rule.n, .string x.c.rule.key, .string x.c.rule.text, .slice b0 x.c.rule.l.length m0]) polR_keeps y0 (by omega)
  rw [hW] at y0
  have hz3 : w2.heap.size ≤ w3.heap.size := by rw [← hW]; exact (putL_turn _ _ _ _ _).size
  clear hW T2
  have c1 := T3.par 12 _ rfl
  have c2 := T3.old 12 _ rfl
  have c3 := T3.free 12 (by omega)
  go_upto_region 4 with fail
  clear c1 c2 c3
  generalize hW : World.setCell w3 _ _ = w4
  have T4 : ToSt w w4 32 [.int .i64 x.c.stripes, .int .i64 x.c.wait, .int .i64 x.c.budget, .int .i64 x.c.cache, .int .i64 x.c.queue, .int .i64 x.c.rate, .int .i64 x.c.burst, .int .i64 x.c.rule.kind, .int .i64 x.c.rule.n, .string x.c.rule.key, .string x.c.rule.text, .slice a0 x.c.rule.l.length k0, .int .i64 x.time, .bool x.shut, .slice a1 x.st.length k1, .int .i64 x.ruleHeld, .int .i64 x.b.rate, .int .i64 x.b.burst, .int .i64 x.b.tokens, .int .i64 x.b.since, .slice a2 x.cache.length k2, .int .i64 x.used, .int .i64 x.w.now, .slice a3 x.w.near.length k3, .slice a4 x.w.far.length k4, .slice a5 x.w.rest.length k5, .slice a6 x.due.length k6, .slice a7 x.queue.length k7, .slice a8 x.out.length k8, .slice a9 x.tasks.length k9, .slice a10 x.deeds.length k10, .int .i64 x.next] [.int .i64 x.c.stripes, .int .i64 x.c.wait, .int .i64 x.c.budget, .int .i64 x.c.cache, .int .i64 x.c.queue, .int .i64 x.c.rate, .int .i64 x.c.burst, .int .i64 x.c.rule.kind, .int .i64 x.c.rule.n, .string x.c.rule.key, .string x.c.rule.text, .slice b0 x.c.rule.l.length m0, .int .i64 x.time, .bool false, .slice none 0 0, .int .i64 0, .int .i64 0, .int .i64 0, .int .i64 0, .int .i64 0, .slice none 0 0, .int .i64 0, .int .i64 0, .slice none 0 0, .slice none 0 0, .slice none 0 0, .slice none 0 0, .slice none 0 0, .slice none 0 0, .slice none 0 0, .slice none 0 0, .int .i64 0] := by rw [← hW]; exact T3.set 12 (.int .i64 x.time) (by simp)
  have y0 := rd_set (b := w.heap.size + 2) (i := 12) (u := .int .i64 x.time) polR_keeps y0 (by omega)
  rw [hW] at y0
  have hz4 : w4.heap.size = w3.heap.size := by rw [← hW]; simp
  clear hW T3
  have c1 := T4.par 13 _ rfl
  have c2 := T4.old 13 _ rfl
  have c3 := T4.free 13 (by omega)
  go_upto_region 5 with fail
  clear c1 c2 c3
  generalize hW : World.setCell w4 _ _ = w5
  have T5 : ToSt w w5 32 [.int .i64 x.c.stripes, .int .i64 x.c.wait, .int .i64 x.c.budget, .int .i64 x.c.cache, .int .i64 x.c.queue, .int .i64 x.c.rate, .int .i64 x.c.burst, .int .i64 x.c.rule.kind, .int .i64 x.c.rule.n, .string x.c.rule.key, .string x.c.rule.text, .slice a0 x.c.rule.l.length k0, .int .i64 x.time, .bool x.shut, .slice a1 x.st.length k1, .int .i64 x.ruleHeld, .int .i64 x.b.rate, .int .i64 x.b.burst, .int .i64 x.b.tokens, .int .i64 x.b.since, .slice a2 x.cache.length k2, .int .i64 x.used, .int .i64 x.w.now, .slice a3 x.w.near.length k3, .slice a4 x.w.far.length k4, .slice a5 x.w.rest.length k5, .slice a6 x.due.length k6, .slice a7 x.queue.length k7, .slice a8 x.out.length k8, .slice a9 x.tasks.length k9, .slice a10 x.deeds.length k10, .int .i64 x.next] [.int .i64 x.c.stripes, .int .i64 x.c.wait, .int .i64 x.c.budget, .int .i64 x.c.cache, .int .i64 x.c.queue, .int .i64 x.c.rate, .int .i64 x.c.burst, .int .i64 x.c.rule.kind, .int .i64 x.c.rule.n, .string x.c.rule.key, .string x.c.rule.text, .slice b0 x.c.rule.l.length m0, .int .i64 x.time, .bool x.shut, .slice none 0 0, .int .i64 0, .int .i64 0, .int .i64 0, .int .i64 0, .int .i64 0, .slice none 0 0, .int .i64 0, .int .i64 0, .slice none 0 0, .slice none 0 0, .slice none 0 0, .slice none 0 0, .slice none 0 0, .slice none 0 0, .slice none 0 0, .slice none 0 0, .int .i64 0] := by rw [← hW]; exact T4.set 13 (.bool x.shut) (by simp)
  have y0 := rd_set (b := w.heap.size + 2) (i := 13) (u := .bool x.shut) polR_keeps y0 (by omega)
  rw [hW] at y0
  have hz5 : w5.heap.size = w4.heap.size := by rw [← hW]; simp
  clear hW T4
  have c1 := T5.par 14 _ rfl
  go_wp2_with fail
  clear c1
  refine (mToStripeS x.st S _ w5 (by omega) (g1.keep stripeR_keeps T5.below)).mono ?_
  rintro e w6 ⟨v6, rfl, y1, hb6⟩
  obtain ⟨b1, m1, rfl⟩ := y1.form
  have y1 := y1.read stripeR_widens stripeO_read
  have y0 := y0.keep polR_keeps hb6
  have hz6 := hb6.size
  have T6 := T5.call hb6
  have hs5 := T5.size
  clear hb6 T5
  have c2 := T6.old 14 _ rfl
  have c3 := T6.free 14 (by omega)
  go_upto_region 6 with fail
  clear c2 c3
  generalize hW : World.setCell w6 _ _ = w7
  have T7 : ToSt w w7 32 [.int .i64 x.c.stripes, .int .i64 x.c.wait, .int .i64 x.c.budget, .int .i64 x.c.cache, .int .i64 x.c.queue, .int .i64 x.c.rate, .int .i64 x.c.burst, .int .i64 x.c.rule.kind, .int .i64 x.c.rule.n, .string x.c.rule.key, .string x.c.rule.text, .slice a0 x.c.rule.l.length k0, .int .i64 x.time, .bool x.shut, .slice a1 x.st.length k1, .int .i64 x.ruleHeld, .int .i64 x.b.rate, .int .i64 x.b.burst, .int .i64 x.b.tokens, .int .i64 x.b.since, .slice a2 x.cache.length k2, .int .i64 x.used, .int .i64 x.w.now, .slice a3 x.w.near.length k3, .slice a4 x.w.far.length k4, .slice a5 x.w.rest.length k5, .slice a6 x.due.length k6, .slice a7 x.queue.length k7, .slice a8 x.out.length k8, .slice a9 x.tasks.length k9, .slice a10 x.deeds.length k10, .int .i64 x.next] [.int .i64 x.c.stripes, .int .i64 x.c.wait, .int .i64 x.c.budget, .int .i64 x.c.cache, .int .i64 x.c.queue, .int .i64 x.c.rate, .int .i64 x.c.burst, .int .i64 x.c.rule.kind, .int .i64 x.c.rule.n, .string x.c.rule.key, .string x.c.rule.text, .slice b0 x.c.rule.l.length m0, .int .i64 x.time, .bool x.shut, .slice b1 x.st.length m1, .int .i64 0, .int .i64 0, .int .i64 0, .int .i64 0, .int .i64 0, .slice none 0 0, .int .i64 0, .int .i64 0, .slice none 0 0, .slice none 0 0, .slice none 0 0, .slice none 0 0, .slice none 0 0, .slice none 0 0, .slice none 0 0, .slice none 0 0, .int .i64 0] := by rw [← hW]; exact T6.set 14 (.slice b1 x.st.length m1) (by simp)
  have y0 := rd_set (b := w.heap.size + 2) (i := 14) (u := .slice b1 x.st.length m1) polR_keeps y0 (by omega)
  rw [hW] at y0
  have y1 := rd_set (b := w.heap.size + 2) (i := 14) (u := .slice b1 x.st.length m1) stripeR_keeps y1 (by omega)
  rw [hW] at y1
  have hz7 : w6.heap.size ≤ w7.heap.size := by rw [← hW]; simp
  clear hW T6
  have c1 := T7.par 15 _ rfl
  have c2 := T7.old 15 _ rfl
  have c3 := T7.free 15 (by omega)
  go_upto_region 7 with fail
  clear c1 c2 c3
  generalize hW : World.setCell w7 _ _ = w8
  have T8 : ToSt w w8 32 [.int .i64 x.c.stripes, .int .i64 x.c.wait, .int .i64 x.c.budget, .int .i64 x.c.cache, .int .i64 x.c.queue, .int .i64 x.c.rate, .int .i64 x.c.burst, .int .i64 x.c.rule.kind, .int .i64 x.c.rule.n, .string x.c.rule.key, .string x.c.rule.text, .slice a0 x.c.rule.l.length k0, .int .i64 x.time, .bool x.shut, .slice a1 x.st.length k1, .int .i64 x.ruleHeld, .int .i64 x.b.rate, .int .i64 x.b.burst, .int .i64 x.b.tokens, .int .i64 x.b.since, .slice a2 x.cache.length k2, .int .i64 x.used, .int .i64 x.w.now, .slice a3 x.w.near.length k3, .slice a4 x.w.far.length k4, .slice a5 x.w.rest.length k5, .slice a6 x.due.length k6, .slice a7 x.queue.length k7, .slice a8 x.out.length k8, .slice a9 x.tasks.length k9, .slice a10 x.deeds.length k10, .int .i64 x.next] [.int .i64 x.c.stripes, .int .i64 x.c.wait, .int .i64 x.c.budget, .int .i64 x.c.cache, .int .i64 x.c.queue, .int .i64 x.c.rate, .int .i64 x.c.burst, .int .i64 x.c.rule.kind, .int .i64 x.c.rule.n, .string x.c.rule.key, .string x.c.rule.text, .slice b0 x.c.rule.l.length m0, .int .i64 x.time, .bool x.shut, .slice b1 x.st.length m1, .int .i64 x.ruleHeld, .int .i64 0, .int .i64 0, .int .i64 0, .int .i64 0, .slice none 0 0, .int .i64 0, .int .i64 0, .slice none 0 0, .slice none 0 0, .slice none 0 0, .slice none 0 0, .slice none 0 0, .slice none 0 0, .slice none 0 0, .slice none 0 0, .int .i64 0] := by rw [← hW]; exact T7.set 15 (.int .i64 x.ruleHeld) (by simp)
  have y0 := rd_set (b := w.heap.size + 2) (i := 15) (u := .int .i64 x.ruleHeld) polR_keeps y0 (by omega)
  rw [hW] at y0
  have y1 := rd_set (b := w.heap.size + 2) (i := 15) (u := .int .i64 x.ruleHeld) stripeR_keeps y1 (by omega)
  rw [hW] at y1
  have hz8 : w8.heap.size = w7.heap.size := by rw [← hW]; simp
  clear hW T7
  have c1 := T8.parIn 16 [.int .i64 x.b.rate, .int .i64 x.b.burst, .int .i64 x.b.tokens, .int .i64 x.b.since] rfl
  go_wp2_with (first | (refine wpl_load rfl 29 _ rfl _ _ rfl [.int .i64 x.b.rate, .int .i64 x.b.burst, .int .i64 x.b.tokens, .int .i64 x.b.since] c1 rowLBucket ?_))
  clear c1
  refine (mToBucket x.b S [.int .i64 x.b.rate, .int .i64 x.b.burst, .int .i64 x.b.tokens, .int .i64 x.b.since] w8 (by first | omega | (unfold bucketBulk; omega)) rfl).mono ?_
  rintro e w9 ⟨cs9, rfl, yy, hb9⟩
  obtain rfl : _ = _ := yy
  have y0 := y0.keep polR_keeps hb9
  have y1 := y1.keep stripeR_keeps hb9
  have hz9 := hb9.size
  have T9 := T8.call hb9
  have hs8 := T8.size
  clear hb9 T8
  have c2 := T9.wr 16 4 (by omega)
  go_upto_region 8 with (first | (refine wpl_store_at rfl 50 _ _ rfl _ _ [.int .i64 x.b.rate, .int .i64 x.b.burst, .int .i64 x.b.tokens, .int .i64 x.b.since] rfl rfl c2 (by intro v hv; simp only [List.mem_cons, List.not_mem_nil, or_false] at hv; rcases hv with rfl | rfl | rfl | rfl <;> rfl) rowIBucket ?_))
  clear c2
  generalize hW : putL _ _ _ _ w9 = w10
  have T10 : ToSt w w10 32 [.int .i64 x.c.stripes, .int .i64 x.c.wait, .int .i64 x.c.budget, .int .i64 x.c.cache, .int .i64 x.c.queue, .int .i64 x.c.rate, .int .i64 x.c.burst, .int .i64 x.c.rule.kind, .int .i64 x.c.rule.n, .string x.c.rule.key, .string x.c.rule.text, .slice a0 x.c.rule.l.length k0, .int .i64 x.time, .bool x.shut, .slice a1 x.st.length k1, .int .i64 x.ruleHeld, .int .i64 x.b.rate, .int .i64 x.b.burst, .int .i64 x.b.tokens, .int .i64 x.b.since, .slice a2 x.cache.length k2, .int .i64 x.used, .int .i64 x.w.now, .slice a3 x.w.near.length k3, .slice a4 x.w.far.length k4, .slice a5 x.w.rest.length k5, .slice a6 x.due.length k6, .slice a7 x.queue.length k7, .slice a8 x.out.length k8, .slice a9 x.tasks.length k9, .slice a10 x.deeds.length k10, .int .i64 x.next] [.int .i64 x.c.stripes, .int .i64 x.c.wait, .int .i64 x.c.budget, .int .i64 x.c.cache, .int .i64 x.c.queue, .int .i64 x.c.rate, .int .i64 x.c.burst, .int .i64 x.c.rule.kind, .int .i64 x.c.rule.n, .string x.c.rule.key, .string x.c.rule.text, .slice b0 x.c.rule.l.length m0, .int .i64 x.time, .bool x.shut, .slice b1 x.st.length m1, .int .i64 x.ruleHeld, .int .i64 x.b.rate, .int .i64 x.b.burst, .int .i64 x.b.tokens, .int .i64 x.b.since, .slice none 0 0, .int .i64 0, .int .i64 0, .slice none 0 0, .slice none 0 0, .slice none 0 0, .slice none 0 0, .slice none 0 0, .slice none 0 0, .slice none 0 0, .slice none 0 0, .int .i64 0] := by rw [← hW]; exact T9.put 16 [.int .i64 x.b.rate, .int .i64 x.b.burst, .int .i64 x.b.tokens, .int .i64 x.b.since] (by simp)
  have y0 := rd_put (b := w.heap.size + 2) (o := 16) (cs := [.int .i64 x.b.rate, .int .i64 x.b.burst, .int .i64 x.b.tokens, .int .i64 x.b.since]) polR_keeps y0 (by omega)
  rw [hW] at y0
  have y1 := rd_put (b := w.heap.size + 2) (o := 16) (cs := [.int .i64 x.b.rate, .int .i64 x.b.burst, .int .i64 x.b.tokens, .int .i64 x.b.since]) stripeR_keeps y1 (by omega)
  rw [hW] at y1
  have hz10 : w9.heap.size ≤ w10.heap.size := by rw [← hW]; exact (putL_turn _ _ _ _ _).size
  clear hW T9
  have c1 := T10.par 20 _ rfl
  go_wp2_with fail
  clear c1
  refine (mToVerdictS x.cache S _ w10 (by omega) (g2.keep verdictR_keeps T10.below)).mono ?_
  rintro e w11 ⟨v11, rfl, y2, hb11⟩
  obtain ⟨b2, m2, rfl⟩ := y2.form
  have y2 := y2.read verdictR_widens verdictO_read
  have y0 := y0.keep polR_keeps hb11
  have y1 := y1.keep stripeR_keeps hb11
  have hz11 := hb11.size
  have T11 := T10.call hb11
  have hs10 := T10.size
  clear hb11 T10
  have c2 := T11.old 20 _ rfl
  have c3 := T11.free 20 (by omega)
  go_upto_region 9 with fail
  clear c2 c3
  generalize hW : World.setCell w11 _ _ = w12
  have T12 : ToSt w w12 32 [.int .i64 x.c.stripes, .int .i64 x.c.wait, .int .i64 x.c.budget, .int .i64 x.c.cache, .int .i64 x.c.queue, .int .i64 x.c.rate, .int .i64 x.c.burst, .int .i64 x.c.rule.kind, .int .i64 x.c.rule.n, .string x.c.rule.key, .string x.c.rule.text, .slice a0 x.c.rule.l.length k0, .int .i64 x.time, .bool x.shut, .slice a1 x.st.length k1, .int .i64 x.ruleHeld, .int .i64 x.b.rate, .int .i64 x.b.burst, .int .i64 x.b.tokens, .int .i64 x.b.since, .slice a2 x.cache.length k2, .int .i64 x.used, .int .i64 x.w.now, .slice a3 x.w.near.length k3, .slice a4 x.w.far.length k4, .slice a5 x.w.rest.length k5, .slice a6 x.due.length k6, .slice a7 x.queue.length k7, .slice a8 x.out.length k8, .slice a9 x.tasks.length k9, .slice a10 x.deeds.length k10, .int .i64 x.next] [.int .i64 x.c.stripes, .int .i64 x.c.wait, .int .i64 x.c.budget, .int .i64 x.c.cache, .int .i64 x.c.queue, .int .i64 x.c.rate, .int .i64 x.c.burst, .int .i64 x.c.rule.kind, .int .i64 x.c.rule.n, .string x.c.rule.key, .string x.c.rule.text, .slice b0 x.c.rule.l.length m0, .int .i64 x.time, .bool x.shut, .slice b1 x.st.length m1, .int .i64 x.ruleHeld, .int .i64 x.b.rate, .int .i64 x.b.burst, .int .i64 x.b.tokens, .int .i64 x.b.since, .slice b2 x.cache.length m2, .int .i64 0, .int .i64 0, .slice none 0 0, .slice none 0 0, .slice none 0 0, .slice none 0 0, .slice none 0 0, .slice none 0 0, .slice none 0 0, .slice none 0 0, .int .i64 0] := by rw [← hW]; exact T11.set 20 (.slice b2 x.cache.length m2) (by simp)
  have y0 := rd_set (b := w.heap.size + 2) (i := 20) (u := .slice b2 x.cache.length m2) polR_keeps y0 (by omega)
  rw [hW] at y0
  have y1 := rd_set (b := w.heap.size + 2) (i := 20) (u := .slice b2 x.cache.length m2) stripeR_keeps y1 (by omega)
  rw [hW] at y1
  have y2 := rd_set (b := w.heap.size + 2) (i := 20) (u := .slice b2 x.cache.length m2) verdictR_keeps y2 (by omega)
  rw [hW] at y2
  have hz12 : w11.heap.size ≤ w12.heap.size := by rw [← hW]; simp
  clear hW T11
  have c1 := T12.par 21 _ rfl
  have c2 := T12.old 21 _ rfl
  have c3 := T12.free 21 (by omega)
  go_upto_region 10 with fail
  clear c1 c2 c3
  generalize hW : World.setCell w12 _ _ = w13
  have T13 : ToSt w w13 32 [.int .i64 x.c.stripes, .int .i64 x.c.wait, .int .i64 x.c.budget, .int .i64 x.c.cache, .int .i64 x.c.queue, .int .i64 x.c.rate, .int .i64 x.c.burst, .int .i64 x.c.rule.kind, .int .i64 x.c.rule.n, .string x.c.rule.key, .string x.c.rule.text, .slice a0 x.c.rule.l.length k0, .int .i64 x.time, .bool x.shut, .slice a1 x.st.length k1, .int .i64 x.ruleHeld, .int .i64 x.b.rate, .int .i64 x.b.burst, .int .i64 x.b.tokens, .int .i64 x.b.since, .slice a2 x.cache.length k2, .int .i64 x.used, .int .i64 x.w.now, .slice a3 x.w.near.length k3, .slice a4 x.w.far.length k4, .slice a5 x.w.rest.length k5, .slice a6 x.due.length k6, .slice a7 x.queue.length k7, .slice a8 x.out.length k8, .slice a9 x.tasks.length k9, .slice a10 x.deeds.length k10, .int .i64 x.next] [.int .i64 x.c.stripes, .int .i64 x.c.wait, .int .i64 x.c.budget, .int .i64 x.c.cache, .int .i64 x.c.queue, .int .i64 x.c.rate, .int .i64 x.c.burst, .int .i64 x.c.rule.kind, .int .i64 x.c.rule.n, .string x.c.rule.key, .string x.c.rule.text, .slice b0 x.c.rule.l.length m0, .int .i64 x.time, .bool x.shut, .slice b1 x.st.length m1, .int .i64 x.ruleHeld, .int .i64 x.b.rate, .int .i64 x.b.burst, .int .i64 x.b.tokens, .int .i64 x.b.since, .slice b2 x.cache.length m2, .int .i64 x.used, .int .i64 0, .slice none 0 0, .slice none 0 0, .slice none 0 0, .slice none 0 0, .slice none 0 0, .slice none 0 0, .slice none 0 0, .slice none 0 0, .int .i64 0] := by rw [← hW]; exact T12.set 21 (.int .i64 x.used) (by simp)
  have y0 := rd_set (b := w.heap.size + 2) (i := 21) (u := .int .i64 x.used) polR_keeps y0 (by omega)
  rw [hW] at y0
  have y1 := rd_set (b := w.heap.size + 2) (i := 21) (u := .int .i64 x.used) stripeR_keeps y1 (by omega)
  rw [hW] at y1
  have y2 := rd_set (b := w.heap.size + 2) (i := 21) (u := .int .i64 x.used) verdictR_keeps y2 (by omega)
  rw [hW] at y2
  have hz13 : w13.heap.size = w12.heap.size := by rw [← hW]; simp
  clear hW T12
  have c1 := T13.parIn 22 [.int .i64 x.w.now, .slice a3 x.w.near.length k3, .slice a4 x.w.far.length k4, .slice a5 x.w.rest.length k5] rfl
  go_wp2_with (first | (refine wpl_load rfl 34 _ rfl _ _ rfl [.int .i64 x.w.now, .slice a3 x.w.near.length k3, .slice a4 x.w.far.length k4, .slice a5 x.w.rest.length k5] c1 rowLWheel ?_))
  clear c1
  refine (mToWheel x.w S [.int .i64 x.w.now, .slice a3 x.w.near.length k3, .slice a4 x.w.far.length k4, .slice a5 x.w.rest.length k5] w13 (by first | omega | (unfold wheelBulk; omega)) ⟨_, _, _, rfl, g3.keep timerSR_keeps T13.below, g4.keep timerSR_keeps T13.below, g5.keep timerR_keeps T13.below⟩).mono ?_
  rintro e w14 ⟨cs14, rfl, yy, hb14⟩
  obtain ⟨t3, t4, t5, rfl, y3, y4, y5⟩ := wheelO_read _ _ _ _ yy
  obtain ⟨b3, m3, rfl⟩ := y3.form
  obtain ⟨b4, m4, rfl⟩ := y4.form
  obtain ⟨b5, m5, rfl⟩ := y5.form
  have y0 := y0.keep polR_keeps hb14
  have y1 := y1.keep stripeR_keeps hb14
  have y2 := y2.keep verdictR_keeps hb14
  have hz14 := hb14.size
  have T14 := T13.call hb14
  have hs13 := T13.size
  clear hb14 T13
  have c2 := T14.wr 22 4 (by omega)
  go_upto_region 11 with (first | (refine wpl_store_at rfl 55 _ _ rfl _ _ [.int .i64 x.w.now, .slice b3 x.w.near.length m3, .slice b4 x.w.far.length m4, .slice b5 x.w.rest.length m5] rfl rfl c2 (by intro v hv; simp only [List.mem_cons, List.not_mem_nil, or_false] at hv; rcases hv with rfl | rfl | rfl | rfl <;> rfl) rowIWheel ?_))
  clear c2
  generalize hW : putL _ _ _ _ w14 = w15
  have T15 : ToSt w w15 32 [.int .i64 x.c.stripes, .int .i64 x.c.wait, .int .i64 x.c.budget, .int .i64 x.c.cache, .int .i64 x.c.queue, .int .i64 x.c.rate, .int .i64 x.c.burst, .int .i64 x.c.rule.kind, .int .i64 x.c.rule.n, .string x.c.rule.key, .string x.c.rule.text, .slice a0 x.c.rule.l.length k0, .int .i64 x.time, .bool x.shut, .slice a1 x.st.length k1, .int .i64 x.ruleHeld, .int .i64 x.b.rate, .int .i64 x.b.burst, .int .i64 x.b.tokens, .int .i64 x.b.since, .slice a2 x.cache.length k2, .int .i64 x.used, .int .i64 x.w.now, .slice a3 x.w.near.length k3, .slice a4 x.w.far.length k4, .slice a5 x.w.rest.length k5, .slice a6 x.due.length k6, .slice a7 x.queue.length k7, .slice a8 x.out.length k8, .slice a9 x.tasks.length k9, .slice a10 x.deeds.length k10, .int .i64 x.next] [.int .i64 x.c.stripes, .int .i64 x.c.wait, .int .i64 x.c.budget, .int .i64 x.c.cache, .int .i64 x.c.queue, .int .i64 x.c.rate, .int .i64 x.c.burst, .int .i64 x.c.rule.kind, .int .i64 x.c.rule.n, .string x.c.rule.key, .string x.c.rule.text, .slice b0 x.c.rule.l.length m0, .int .i64 x.time, .bool x.shut, .slice b1 x.st.length m1, .int .i64 x.ruleHeld, .int .i64 x.b.rate, .int .i64 x.b.burst, .int .i64 x.b.tokens, .int .i64 x.b.since, .slice b2 x.cache.length m2, .int .i64 x.used, .int .i64 x.w.now, .slice b3 x.w.near.length m3, .slice b4 x.w.far.length m4, .slice b5 x.w.rest.length m5, .slice none 0 0, .slice none 0 0, .slice none 0 0, .slice none 0 0, .slice none 0 0, .int .i64 0] := by rw [← hW]; exact T14.put 22 [.int .i64 x.w.now, .slice b3 x.w.near.length m3, .slice b4 x.w.far.length m4, .slice b5 x.w.rest.length m5] (by simp)
  have y0 := rd_put (b := w.heap.size + 2) (o := 22) (cs := [.int .i64 x.w.now, .slice b3 x.w.near.length m3, .slice b4 x.w.far.length m4, .slice b5 x.w.rest.length m5]) polR_keeps y0 (by omega)
  rw [hW] at y0
  have y1 := rd_put (b := w.heap.size + 2) (o := 22) (cs := [.int .i64 x.w.now, .slice b3 x.w.near.length m3, .slice b4 x.w.far.length m4, .slice b5 x.w.rest.length m5]) stripeR_keeps y1 (by omega)
  rw [hW] at y1
  have y2 := rd_put (b := w.heap.size + 2) (o := 22) (cs := [.int .i64 x.w.now, .slice b3 x.w.near.length m3, .slice b4 x.w.far.length m4, .slice b5 x.w.rest.length m5]) verdictR_keeps y2 (by omega)
  rw [hW] at y2
  have y3 := rd_put (b := w.heap.size + 2) (o := 22) (cs := [.int .i64 x.w.now, .slice b3 x.w.near.length m3, .slice b4 x.w.far.length m4, .slice b5 x.w.rest.length m5]) timerSR_keeps y3 (by omega)
  rw [hW] at y3
  have y4 := rd_put (b := w.heap.size + 2) (o := 22) (cs := [.int .i64 x.w.now, .slice b3 x.w.near.length m3, .slice b4 x.w.far.length m4, .slice b5 x.w.rest.length m5]) timerSR_keeps y4 (by omega)
  rw [hW] at y4
  have y5 := rd_put (b := w.heap.size + 2) (o := 22) (cs := [.int .i64 x.w.now, .slice b3 x.w.near.length m3, .slice b4 x.w.far.length m4, .slice b5 x.w.rest.length m5]) timerR_keeps y5 (by omega)
  rw [hW] at y5
  have hz15 : w14.heap.size ≤ w15.heap.size := by rw [← hW]; exact (putL_turn _ _ _ _ _).size
  clear hW T14
  have c1 := T15.par 26 _ rfl
  go_wp2_with fail
  clear c1
  refine (mToTimerS x.due S _ w15 (by omega) (g6.keep timerR_keeps T15.below)).mono ?_
  rintro e w16 ⟨v16, rfl, y6, hb16⟩
  obtain ⟨b6, m6, rfl⟩ := y6.form
  have y6 := y6.read timerR_widens timerO_read
  have y0 := y0.keep polR_keeps hb16
  have y1 := y1.keep stripeR_keeps hb16
  have y2 := y2.keep verdictR_keeps hb16
  have y3 := y3.keep timerSR_keeps hb16
  have y4 := y4.keep timerSR_keeps hb16
  have y5 := y5.keep timerR_keeps hb16
  have hz16 := hb16.size
  have T16 := T15.call hb16
  have hs15 := T15.size
  clear hb16 T15
  have c2 := T16.old 26 _ rfl
  have c3 := T16.free 26 (by omega)
  go_upto_region 12 with fail
  clear c2 c3
  generalize hW : World.setCell w16 _ _ = w17
  have T17 : ToSt w w17 32 [.int .i64 x.c.stripes, .int .i64 x.c.wait, .int .i64 x.c.budget, .int .i64 x.c.cache, .int .i64 x.c.queue, .int .i64 x.c.rate, .int .i64 x.c.burst, .int .i64 x.c.rule.kind, .int .i64 x.c.rule.n, .string x.c.rule.key, .string x.c.rule.text, .slice a0 x.c.rule.l.length k0, .int .i64 x.time, .bool x.shut, .slice a1 x.st.length k1, .int .i64 x.ruleHeld, .int .i64 x.b.rate, .int .i64 x.b.burst, .int .i64 x.b.tokens, .int .i64 x.b.since, .slice a2 x.cache.length k2, .int .i64 x.used, .int .i64 x.w.now, .slice a3 x.w.near.length k3, .slice a4 x.w.far.length k4, .slice a5 x.w.rest.length k5, .slice a6 x.due.length k6, .slice a7 x.queue.length k7, .slice a8 x.out.length k8, .slice a9 x.tasks.length k9, .slice a10 x.deeds.length k10, .int .i64 x.next] [.int .i64 x.c.stripes, .int .i64 x.c.wait, .int .i64 x.c.budget, .int .i64 x.c.cache, .int .i64 x.c.queue, .int .i64 x.c.rate, .int .i64 x.c.burst, .int .i64 x.c.rule.kind, .int .i64 x.c.rule.n, .string x.c.rule.key, .string x.c.rule.text, .slice b0 x.c.rule.l.length m0, .int .i64 x.time, .bool x.shut, .slice b1 x.st.length m1, .int .i64 x.ruleHeld, .int .i64 x.b.rate, .int .i64 x.b.burst, .int .i64 x.b.tokens, .int .i64 x.b.since, .slice b2 x.cache.length m2, .int .i64 x.used, .int .i64 x.w.now, .slice b3 x.w.near.length m3, .slice b4 x.w.far.length m4, .slice b5 x.w.rest.length m5, .slice b6 x.due.length m6, .slice none 0 0, .slice none 0 0, .slice none 0 0, .slice none 0 0, .int .i64 0] := by rw [← hW]; exact T16.set 26 (.slice b6 x.due.length m6) (by simp)
  have y0 := rd_set (b := w.heap.size + 2) (i := 26) (u := .slice b6 x.due.length m6) polR_keeps y0 (by omega)
  rw [hW] at y0
  have y1 := rd_set (b := w.heap.size + 2) (i := 26) (u := .slice b6 x.due.length m6) stripeR_keeps y1 (by omega)
  rw [hW] at y1
  have y2 := rd_set (b := w.heap.size + 2) (i := 26) (u := .slice b6 x.due.length m6) verdictR_keeps y2 (by omega)
  rw [hW] at y2
  have y3 := rd_set (b := w.heap.size + 2) (i := 26) (u := .slice b6 x.due.length m6) timerSR_keeps y3 (by omega)
  rw [hW] at y3
  have y4 := rd_set (b := w.heap.size + 2) (i := 26) (u := .slice b6 x.due.length m6) timerSR_keeps y4 (by omega)
  rw [hW] at y4
  have y5 := rd_set (b := w.heap.size + 2) (i := 26) (u := .slice b6 x.due.length m6) timerR_keeps y5 (by omega)
  rw [hW] at y5
  have y6 := rd_set (b := w.heap.size + 2) (i := 26) (u := .slice b6 x.due.length m6) timerR_keeps y6 (by omega)
  rw [hW] at y6
  have hz17 : w16.heap.size ≤ w17.heap.size := by rw [← hW]; simp
  clear hW T16
  have c1 := T17.par 27 _ rfl
  go_wp2_with fail
  clear c1
  refine (mToItemS x.queue S _ w17 (by omega) (g7.keep itemR_keeps T17.below)).mono ?_
  rintro e w18 ⟨v18, rfl, y7, hb18⟩
  obtain ⟨b7, m7, rfl⟩ := y7.form
  have y7 := y7.read itemR_widens itemO_read
  have y0 := y0.keep polR_keeps hb18
  have y1 := y1.keep stripeR_keeps hb18
  have y2 := y2.keep verdictR_keeps hb18
  have y3 := y3.keep timerSR_keeps hb18
  have y4 := y4.keep timerSR_keeps hb18
  have y5 := y5.keep timerR_keeps hb18
  have y6 := y6.keep timerR_keeps hb18
  have hz18 := hb18.size
  have T18 := T17.call hb18
  have hs17 := T17.size
  clear hb18 T17
  have c2 := T18.old 27 _ rfl
  have c3 := T18.free 27 (by omega)
  go_upto_region 13 with fail
  clear c2 c3
  generalize hW : World.setCell w18 _ _ = w19
  have T19 : ToSt w w19 32 [.int .i64 x.c.stripes, .int .i64 x.c.wait, .int .i64 x.c.budget, .int .i64 x.c.cache, .int .i64 x.c.queue, .int .i64 x.c.rate, .int .i64 x.c.burst, .int .i64 x.c.rule.kind, .int .i64 x.c.rule.n, .string x.c.rule.key, .string x.c.rule.text, .slice a0 x.c.rule.l.length k0, .int .i64 x.time, .bool x.shut, .slice a1 x.st.length k1, .int .i64 x.ruleHeld, .int .i64 x.b.rate, .int .i64 x.b.burst, .int .i64 x.b.tokens, .int .i64 x.b.since, .slice a2 x.cache.length k2, .int .i64 x.used, .int .i64 x.w.now, .slice a3 x.w.near.length k3, .slice a4 x.w.far.length k4, .slice a5 x.w.rest.length k5, .slice a6 x.due.length k6, .slice a7 x.queue.length k7, .slice a8 x.out.length k8, .slice a9 x.tasks.length k9, .slice a10 x.deeds.length k10, .int .i64 x.next] [.int .i64 x.c.stripes, .int .i64 x.c.wait, .int .i64 x.c.budget, .int .i64 x.c.cache, .int .i64 x.c.queue, .int .i64 x.c.rate, .int .i64 x.c.burst, .int .i64 x.c.rule.kind, .int .i64 x.c.rule.n, .string x.c.rule.key, .string x.c.rule.text, .slice b0 x.c.rule.l.length m0, .int .i64 x.time, .bool x.shut, .slice b1 x.st.length m1, .int .i64 x.ruleHeld, .int .i64 x.b.rate, .int .i64 x.b.burst, .int .i64 x.b.tokens, .int .i64 x.b.since, .slice b2 x.cache.length m2, .int .i64 x.used, .int .i64 x.w.now, .slice b3 x.w.near.length m3, .slice b4 x.w.far.length m4, .slice b5 x.w.rest.length m5, .slice b6 x.due.length m6, .slice b7 x.queue.length m7, .slice none 0 0, .slice none 0 0, .slice none 0 0, .int .i64 0] := by rw [← hW]; exact T18.set 27 (.slice b7 x.queue.length m7) (by simp)
  have y0 := rd_set (b := w.heap.size + 2) (i := 27) (u := .slice b7 x.queue.length m7) polR_keeps y0 (by omega)
  rw [hW] at y0
  have y1 := rd_set (b := w.heap.size + 2) (i := 27) (u := .slice b7 x.queue.length m7) stripeR_keeps y1 (by omega)
  rw [hW] at y1
  have y2 := rd_set (b := w.heap.size + 2) (i := 27) (u := .slice b7 x.queue.length m7) verdictR_keeps y2 (by omega)
  rw [hW] at y2
  have y3 := rd_set (b := w.heap.size + 2) (i := 27) (u := .slice b7 x.queue.length m7) timerSR_keeps y3 (by omega)
  rw [hW] at y3
  have y4 := rd_set (b := w.heap.size + 2) (i := 27) (u := .slice b7 x.queue.length m7) timerSR_keeps y4 (by omega)
  rw [hW] at y4
  have y5 := rd_set (b := w.heap.size + 2) (i := 27) (u := .slice b7 x.queue.length m7) timerR_keeps y5 (by omega)
  rw [hW] at y5
  have y6 := rd_set (b := w.heap.size + 2) (i := 27) (u := .slice b7 x.queue.length m7) timerR_keeps y6 (by omega)
  rw [hW] at y6
  have y7 := rd_set (b := w.heap.size + 2) (i := 27) (u := .slice b7 x.queue.length m7) itemR_keeps y7 (by omega)
  rw [hW] at y7
  have hz19 : w18.heap.size ≤ w19.heap.size := by rw [← hW]; simp
  clear hW T18
  have c1 := T19.par 28 _ rfl
  go_wp2_with fail
  clear c1
  refine (mToItemS x.out S _ w19 (by omega) (g8.keep itemR_keeps T19.below)).mono ?_
  rintro e w20 ⟨v20, rfl, y8, hb20⟩
  obtain ⟨b8, m8, rfl⟩ := y8.form
  have y8 := y8.read itemR_widens itemO_read
  have y0 := y0.keep polR_keeps hb20
  have y1 := y1.keep stripeR_keeps hb20
  have y2 := y2.keep verdictR_keeps hb20
  have y3 := y3.keep timerSR_keeps hb20
  have y4 := y4.keep timerSR_keeps hb20
  have y5 := y5.keep timerR_keeps hb20
  have y6 := y6.keep timerR_keeps hb20
  have y7 := y7.keep itemR_keeps hb20
  have hz20 := hb20.size
  have T20 := T19.call hb20
  have hs19 := T19.size
  clear hb20 T19
  have c2 := T20.old 28 _ rfl
  have c3 := T20.free 28 (by omega)
  go_upto_region 14 with fail
  clear c2 c3
  generalize hW : World.setCell w20 _ _ = w21
  have T21 : ToSt w w21 32 [.int .i64 x.c.stripes, .int .i64 x.c.wait, .int .i64 x.c.budget, .int .i64 x.c.cache, .int .i64 x.c.queue, .int .i64 x.c.rate, .int .i64 x.c.burst, .int .i64 x.c.rule.kind, .int .i64 x.c.rule.n, .string x.c.rule.key, .string x.c.rule.text, .slice a0 x.c.rule.l.length k0, .int .i64 x.time, .bool x.shut, .slice a1 x.st.length k1, .int .i64 x.ruleHeld, .int .i64 x.b.rate, .int .i64 x.b.burst, .int .i64 x.b.tokens, .int .i64 x.b.since, .slice a2 x.cache.length k2, .int .i64 x.used, .int .i64 x.w.now, .slice a3 x.w.near.length k3, .slice a4 x.w.far.length k4, .slice a5 x.w.rest.length k5, .slice a6 x.due.length k6, .slice a7 x.queue.length k7, .slice a8 x.out.length k8, .slice a9 x.tasks.length k9, .slice a10 x.deeds.length k10, .int .i64 x.next] [.int .i64 x.c.stripes, .int .i64 x.c.wait, .int .i64 x.c.budget, .int .i64 x.c.cache, .int .i64 x.c.queue, .int .i64 x.c.rate, .int .i64 x.c.burst, .int .i64 x.c.rule.kind, .int .i64 x.c.rule.n, .string x.c.rule.key, .string x.c.rule.text, .slice b0 x.c.rule.l.length m0, .int .i64 x.time, .bool x.shut, .slice b1 x.st.length m1, .int .i64 x.ruleHeld, .int .i64 x.b.rate, .int .i64 x.b.burst, .int .i64 x.b.tokens, .int .i64 x.b.since, .slice b2 x.cache.length m2, .int .i64 x.used, .int .i64 x.w.now, .slice b3 x.w.near.length m3, .slice b4 x.w.far.length m4, .slice b5 x.w.rest.length m5, .slice b6 x.due.length m6, .slice b7 x.queue.length m7, .slice b8 x.out.length m8, .slice none 0 0, .slice none 0 0, .int .i64 0] := by rw [← hW]; exact T20.set 28 (.slice b8 x.out.length m8) (by simp)
  have y0 := rd_set (b := w.heap.size + 2) (i := 28) (u := .slice b8 x.out.length m8) polR_keeps y0 (by omega)
  rw [hW] at y0
  have y1 := rd_set (b := w.heap.size + 2) (i := 28) (u := .slice b8 x.out.length m8) stripeR_keeps y1 (by omega)
  rw [hW] at y1
  have y2 := rd_set (b := w.heap.size + 2) (i := 28) (u := .slice b8 x.out.length m8) verdictR_keeps y2 (by omega)
  rw [hW] at y2
  have y3 := rd_set (b := w.heap.size + 2) (i := 28) (u := .slice b8 x.out.length m8) timerSR_keeps y3 (by omega)
  rw [hW] at y3
  have y4 := rd_set (b := w.heap.size + 2) (i := 28) (u := .slice b8 x.out.length m8) timerSR_keeps y4 (by omega)
  rw [hW] at y4
  have y5 := rd_set (b := w.heap.size + 2) (i := 28) (u := .slice b8 x.out.length m8) timerR_keeps y5 (by omega)
  rw [hW] at y5
  have y6 := rd_set (b := w.heap.size + 2) (i := 28) (u := .slice b8 x.out.length m8) timerR_keeps y6 (by omega)
  rw [hW] at y6
  have y7 := rd_set (b := w.heap.size + 2) (i := 28) (u := .slice b8 x.out.length m8) itemR_keeps y7 (by omega)
  rw [hW] at y7
  have y8 := rd_set (b := w.heap.size + 2) (i := 28) (u := .slice b8 x.out.length m8) itemR_keeps y8 (by omega)
  rw [hW] at y8
  have hz21 : w20.heap.size ≤ w21.heap.size := by rw [← hW]; simp
  clear hW T20
  have c1 := T21.par 29 _ rfl
  go_wp2_with fail
  clear c1
  refine (mToTaskS x.tasks S _ w21 (by omega) (g9.keep taskR_keeps T21.below)).mono ?_
  rintro e w22 ⟨v22, rfl, y9, hb22⟩
  obtain ⟨b9, m9, rfl⟩ := y9.form
  have y9 := y9.read taskR_widens taskO_read
  have y0 := y0.keep polR_keeps hb22
  have y1 := y1.keep stripeR_keeps hb22
  have y2 := y2.keep verdictR_keeps hb22
  have y3 := y3.keep timerSR_keeps hb22
  have y4 := y4.keep timerSR_keeps hb22
  have y5 := y5.keep timerR_keeps hb22
  have y6 := y6.keep timerR_keeps hb22
  have y7 := y7.keep itemR_keeps hb22
  have y8 := y8.keep itemR_keeps hb22
  have hz22 := hb22.size
  have T22 := T21.call hb22
  have hs21 := T21.size
  clear hb22 T21
  have c2 := T22.old 29 _ rfl
  have c3 := T22.free 29 (by omega)
  go_upto_region 15 with fail
  clear c2 c3
  generalize hW : World.setCell w22 _ _ = w23
  have T23 : ToSt w w23 32 [.int .i64 x.c.stripes, .int .i64 x.c.wait, .int .i64 x.c.budget, .int .i64 x.c.cache, .int .i64 x.c.queue, .int .i64 x.c.rate, .int .i64 x.c.burst, .int .i64 x.c.rule.kind, .int .i64 x.c.rule.n, .string x.c.rule.key, .string x.c.rule.text, .slice a0 x.c.rule.l.length k0, .int .i64 x.time, .bool x.shut, .slice a1 x.st.length k1, .int .i64 x.ruleHeld, .int .i64 x.b.rate, .int .i64 x.b.burst, .int .i64 x.b.tokens, .int .i64 x.b.since, .slice a2 x.cache.length k2, .int .i64 x.used, .int .i64 x.w.now, .slice a3 x.w.near.length k3, .slice a4 x.w.far.length k4, .slice a5 x.w.rest.length k5, .slice a6 x.due.length k6, .slice a7 x.queue.length k7, .slice a8 x.out.length k8, .slice a9 x.tasks.length k9, .slice a10 x.deeds.length k10, .int .i64 x.next] [.int .i64 x.c.stripes, .int .i64 x.c.wait, .int .i64 x.c.budget, .int .i64 x.c.cache, .int .i64 x.c.queue, .int .i64 x.c.rate, .int .i64 x.c.burst, .int .i64 x.c.rule.kind, .int .i64 x.c.rule.n, .string x.c.rule.key, .string x.c.rule.text, .slice b0 x.c.rule.l.length m0, .int .i64 x.time, .bool x.shut, .slice b1 x.st.length m1, .int .i64 x.ruleHeld, .int .i64 x.b.rate, .int .i64 x.b.burst, .int .i64 x.b.tokens, .int .i64 x.b.since, .slice b2 x.cache.length m2, .int .i64 x.used, .int .i64 x.w.now, .slice b3 x.w.near.length m3, .slice b4 x.w.far.length m4, .slice b5 x.w.rest.length m5, .slice b6 x.due.length m6, .slice b7 x.queue.length m7, .slice b8 x.out.length m8, .slice b9 x.tasks.length m9, .slice none 0 0, .int .i64 0] := by rw [← hW]; exact T22.set 29 (.slice b9 x.tasks.length m9) (by simp)
  have y0 := rd_set (b := w.heap.size + 2) (i := 29) (u := .slice b9 x.tasks.length m9) polR_keeps y0 (by omega)
  rw [hW] at y0
  have y1 := rd_set (b := w.heap.size + 2) (i := 29) (u := .slice b9 x.tasks.length m9) stripeR_keeps y1 (by omega)
  rw [hW] at y1
  have y2 := rd_set (b := w.heap.size + 2) (i := 29) (u := .slice b9 x.tasks.length m9) verdictR_keeps y2 (by omega)
  rw [hW] at y2
  have y3 := rd_set (b := w.heap.size + 2) (i := 29) (u := .slice b9 x.tasks.length m9) timerSR_keeps y3 (by omega)
  rw [hW] at y3
  have y4 := rd_set (b := w.heap.size + 2) (i := 29) (u := .slice b9 x.tasks.length m9) timerSR_keeps y4 (by omega)
  rw [hW] at y4
  have y5 := rd_set (b := w.heap.size + 2) (i := 29) (u := .slice b9 x.tasks.length m9) timerR_keeps y5 (by omega)
  rw [hW] at y5
  have y6 := rd_set (b := w.heap.size + 2) (i := 29) (u := .slice b9 x.tasks.length m9) timerR_keeps y6 (by omega)
  rw [hW] at y6
  have y7 := rd_set (b := w.heap.size + 2) (i := 29) (u := .slice b9 x.tasks.length m9) itemR_keeps y7 (by omega)
  rw [hW] at y7
  have y8 := rd_set (b := w.heap.size + 2) (i := 29) (u := .slice b9 x.tasks.length m9) itemR_keeps y8 (by omega)
  rw [hW] at y8
  have y9 := rd_set (b := w.heap.size + 2) (i := 29) (u := .slice b9 x.tasks.length m9) taskR_keeps y9 (by omega)
  rw [hW] at y9
  have hz23 : w22.heap.size ≤ w23.heap.size := by rw [← hW]; simp
  clear hW T22
  have c1 := T23.par 30 _ rfl
  go_wp2_with fail
  clear c1
  refine (mToDeedS x.deeds S _ w23 (by omega) (g10.keep deedR_keeps T23.below)).mono ?_
  rintro e w24 ⟨v24, rfl, y10, hb24⟩
  obtain ⟨b10, m10, rfl⟩ := y10.form
  have y10 := y10.read deedR_widens deedO_read
  have y0 := y0.keep polR_keeps hb24
  have y1 := y1.keep stripeR_keeps hb24
  have y2 := y2.keep verdictR_keeps hb24
  have y3 := y3.keep timerSR_keeps hb24
  have y4 := y4.keep timerSR_keeps hb24
  have y5 := y5.keep timerR_keeps hb24
  have y6 := y6.keep timerR_keeps hb24
  have y7 := y7.keep itemR_keeps hb24
  have y8 := y8.keep itemR_keeps hb24
  have y9 := y9.keep taskR_keeps hb24
  have hz24 := hb24.size
  have T24 := T23.call hb24
  have hs23 := T23.size
  clear hb24 T23
  have c2 := T24.old 30 _ rfl
  have c3 := T24.free 30 (by omega)
  go_upto_region 16 with fail
  clear c2 c3
  generalize hW : World.setCell w24 _ _ = w25
  have T25 : ToSt w w25 32 [.int .i64 x.c.stripes, .int .i64 x.c.wait, .int .i64 x.c.budget, .int .i64 x.c.cache, .int .i64 x.c.queue, .int .i64 x.c.rate, .int .i64 x.c.burst, .int .i64 x.c.rule.kind, .int .i64 x.c.rule.n, .string x.c.rule.key, .string x.c.rule.text, .slice a0 x.c.rule.l.length k0, .int .i64 x.time, .bool x.shut, .slice a1 x.st.length k1, .int .i64 x.ruleHeld, .int .i64 x.b.rate, .int .i64 x.b.burst, .int .i64 x.b.tokens, .int .i64 x.b.since, .slice a2 x.cache.length k2, .int .i64 x.used, .int .i64 x.w.now, .slice a3 x.w.near.length k3, .slice a4 x.w.far.length k4, .slice a5 x.w.rest.length k5, .slice a6 x.due.length k6, .slice a7 x.queue.length k7, .slice a8 x.out.length k8, .slice a9 x.tasks.length k9, .slice a10 x.deeds.length k10, .int .i64 x.next] [.int .i64 x.c.stripes, .int .i64 x.c.wait, .int .i64 x.c.budget, .int .i64 x.c.cache, .int .i64 x.c.queue, .int .i64 x.c.rate, .int .i64 x.c.burst, .int .i64 x.c.rule.kind, .int .i64 x.c.rule.n, .string x.c.rule.key, .string x.c.rule.text, .slice b0 x.c.rule.l.length m0, .int .i64 x.time, .bool x.shut, .slice b1 x.st.length m1, .int .i64 x.ruleHeld, .int .i64 x.b.rate, .int .i64 x.b.burst, .int .i64 x.b.tokens, .int .i64 x.b.since, .slice b2 x.cache.length m2, .int .i64 x.used, .int .i64 x.w.now, .slice b3 x.w.near.length m3, .slice b4 x.w.far.length m4, .slice b5 x.w.rest.length m5, .slice b6 x.due.length m6, .slice b7 x.queue.length m7, .slice b8 x.out.length m8, .slice b9 x.tasks.length m9, .slice b10 x.deeds.length m10, .int .i64 0] := by rw [← hW]; exact T24.set 30 (.slice b10 x.deeds.length m10) (by simp)
  have y0 := rd_set (b := w.heap.size + 2) (i := 30) (u := .slice b10 x.deeds.length m10) polR_keeps y0 (by omega)
  rw [hW] at y0
  have y1 := rd_set (b := w.heap.size + 2) (i := 30) (u := .slice b10 x.deeds.length m10) stripeR_keeps y1 (by omega)
  rw [hW] at y1
  have y2 := rd_set (b := w.heap.size + 2) (i := 30) (u := .slice b10 x.deeds.length m10) verdictR_keeps y2 (by omega)
  rw [hW] at y2
  have y3 := rd_set (b := w.heap.size + 2) (i := 30) (u := .slice b10 x.deeds.length m10) timerSR_keeps y3 (by omega)
  rw [hW] at y3
  have y4 := rd_set (b := w.heap.size + 2) (i := 30) (u := .slice b10 x.deeds.length m10) timerSR_keeps y4 (by omega)
  rw [hW] at y4
  have y5 := rd_set (b := w.heap.size + 2) (i := 30) (u := .slice b10 x.deeds.length m10) timerR_keeps y5 (by omega)
  rw [hW] at y5
  have y6 := rd_set (b := w.heap.size + 2) (i := 30) (u := .slice b10 x.deeds.length m10) timerR_keeps y6 (by omega)
  rw [hW] at y6
  have y7 := rd_set (b := w.heap.size + 2) (i := 30) (u := .slice b10 x.deeds.length m10) itemR_keeps y7 (by omega)
  rw [hW] at y7
  have y8 := rd_set (b := w.heap.size + 2) (i := 30) (u := .slice b10 x.deeds.length m10) itemR_keeps y8 (by omega)
  rw [hW] at y8
  have y9 := rd_set (b := w.heap.size + 2) (i := 30) (u := .slice b10 x.deeds.length m10) taskR_keeps y9 (by omega)
  rw [hW] at y9
  have y10 := rd_set (b := w.heap.size + 2) (i := 30) (u := .slice b10 x.deeds.length m10) deedR_keeps y10 (by omega)
  rw [hW] at y10
  have hz25 : w24.heap.size ≤ w25.heap.size := by rw [← hW]; simp
  clear hW T24
  have c1 := T25.par 31 _ rfl
  have c2 := T25.old 31 _ rfl
  have c3 := T25.free 31 (by omega)
  go_upto_region 17 with fail
  clear c1 c2 c3
  generalize hW : World.setCell w25 _ _ = w26
  have T26 : ToSt w w26 32 [.int .i64 x.c.stripes, .int .i64 x.c.wait, .int .i64 x.c.budget, .int .i64 x.c.cache, .int .i64 x.c.queue, .int .i64 x.c.rate, .int .i64 x.c.burst, .int .i64 x.c.rule.kind, .int .i64 x.c.rule.n, .string x.c.rule.key, .string x.c.rule.text, .slice a0 x.c.rule.l.length k0, .int .i64 x.time, .bool x.shut, .slice a1 x.st.length k1, .int .i64 x.ruleHeld, .int .i64 x.b.rate, .int .i64 x.b.burst, .int .i64 x.b.tokens, .int .i64 x.b.since, .slice a2 x.cache.length k2, .int .i64 x.used, .int .i64 x.w.now, .slice a3 x.w.near.length k3, .slice a4 x.w.far.length k4, .slice a5 x.w.rest.length k5, .slice a6 x.due.length k6, .slice a7 x.queue.length k7, .slice a8 x.out.length k8, .slice a9 x.tasks.length k9, .slice a10 x.deeds.length k10, .int .i64 x.next] [.int .i64 x.c.stripes, .int .i64 x.c.wait, .int .i64 x.c.budget, .int .i64 x.c.cache, .int .i64 x.c.queue, .int .i64 x.c.rate, .int .i64 x.c.burst, .int .i64 x.c.rule.kind, .int .i64 x.c.rule.n, .string x.c.rule.key, .string x.c.rule.text, .slice b0 x.c.rule.l.length m0, .int .i64 x.time, .bool x.shut, .slice b1 x.st.length m1, .int .i64 x.ruleHeld, .int .i64 x.b.rate, .int .i64 x.b.burst, .int .i64 x.b.tokens, .int .i64 x.b.since, .slice b2 x.cache.length m2, .int .i64 x.used, .int .i64 x.w.now, .slice b3 x.w.near.length m3, .slice b4 x.w.far.length m4, .slice b5 x.w.rest.length m5, .slice b6 x.due.length m6, .slice b7 x.queue.length m7, .slice b8 x.out.length m8, .slice b9 x.tasks.length m9, .slice b10 x.deeds.length m10, .int .i64 x.next] := by rw [← hW]; exact T25.set 31 (.int .i64 x.next) (by simp)
  have y0 := rd_set (b := w.heap.size + 2) (i := 31) (u := .int .i64 x.next) polR_keeps y0 (by omega)
  rw [hW] at y0
  have y1 := rd_set (b := w.heap.size + 2) (i := 31) (u := .int .i64 x.next) stripeR_keeps y1 (by omega)
  rw [hW] at y1
  have y2 := rd_set (b := w.heap.size + 2) (i := 31) (u := .int .i64 x.next) verdictR_keeps y2 (by omega)
  rw [hW] at y2
  have y3 := rd_set (b := w.heap.size + 2) (i := 31) (u := .int .i64 x.next) timerSR_keeps y3 (by omega)
  rw [hW] at y3
  have y4 := rd_set (b := w.heap.size + 2) (i := 31) (u := .int .i64 x.next) timerSR_keeps y4 (by omega)
  rw [hW] at y4
  have y5 := rd_set (b := w.heap.size + 2) (i := 31) (u := .int .i64 x.next) timerR_keeps y5 (by omega)
  rw [hW] at y5
  have y6 := rd_set (b := w.heap.size + 2) (i := 31) (u := .int .i64 x.next) timerR_keeps y6 (by omega)
  rw [hW] at y6
  have y7 := rd_set (b := w.heap.size + 2) (i := 31) (u := .int .i64 x.next) itemR_keeps y7 (by omega)
  rw [hW] at y7
  have y8 := rd_set (b := w.heap.size + 2) (i := 31) (u := .int .i64 x.next) itemR_keeps y8 (by omega)
  rw [hW] at y8
  have y9 := rd_set (b := w.heap.size + 2) (i := 31) (u := .int .i64 x.next) taskR_keeps y9 (by omega)
  rw [hW] at y9
  have y10 := rd_set (b := w.heap.size + 2) (i := 31) (u := .int .i64 x.next) deedR_keeps y10 (by omega)
  rw [hW] at y10
  have hz26 : w26.heap.size = w25.heap.size := by rw [← hW]; simp
  clear hW T25
  have hs26 := T26.size
  have hfin : worldO w26 (Within (w.heap.size + 3) w26.heap.size) [.int .i64 x.c.stripes, .int .i64 x.c.wait, .int .i64 x.c.budget, .int .i64 x.c.cache, .int .i64 x.c.queue, .int .i64 x.c.rate, .int .i64 x.c.burst, .int .i64 x.c.rule.kind, .int .i64 x.c.rule.n, .string x.c.rule.key, .string x.c.rule.text, .slice b0 x.c.rule.l.length m0, .int .i64 x.time, .bool x.shut, .slice b1 x.st.length m1, .int .i64 x.ruleHeld, .int .i64 x.b.rate, .int .i64 x.b.burst, .int .i64 x.b.tokens, .int .i64 x.b.since, .slice b2 x.cache.length m2, .int .i64 x.used, .int .i64 x.w.now, .slice b3 x.w.near.length m3, .slice b4 x.w.far.length m4, .slice b5 x.w.rest.length m5, .slice b6 x.due.length m6, .slice b7 x.queue.length m7, .slice b8 x.out.length m8, .slice b9 x.tasks.length m9, .slice b10 x.deeds.length m10, .int .i64 x.next] x := ⟨_, _, _, _, _, _, _, _, _, _, _, rfl, q0, q1, y0.widens polR_widens (fun k hk => ⟨by have := hk.1; omega, by have := hk.2; omega⟩), y1.widens stripeR_widens (fun k hk => ⟨by have := hk.1; omega, by have := hk.2; omega⟩), y2.widens verdictR_widens (fun k hk => ⟨by have := hk.1; omega, by have := hk.2; omega⟩), y3.widens timerSR_widens (fun k hk => ⟨by have := hk.1; omega, by have := hk.2; omega⟩), y4.widens timerSR_widens (fun k hk => ⟨by have := hk.1; omega, by have := hk.2; omega⟩), y5.widens timerR_widens (fun k hk => ⟨by have := hk.1; omega, by have := hk.2; omega⟩), y6.widens timerR_widens (fun k hk => ⟨by have := hk.1; omega, by have := hk.2; omega⟩), y7.widens itemR_widens (fun k hk => ⟨by have := hk.1; omega, by have := hk.2; omega⟩), y8.widens itemR_widens (fun k hk => ⟨by have := hk.1; omega, by have := hk.2; omega⟩), y9.widens taskR_widens (fun k hk => ⟨by have := hk.1; omega, by have := hk.2; omega⟩), y10.widens deedR_widens (fun k hk => ⟨by have := hk.1; omega, by have := hk.2; omega⟩)⟩
  have HF := hide hfin
  clear hfin y0 y1 y2 y3 y4 y5 y6 y7 y8 y9 y10
  have c1 := T26.2.2.2.2.1.inB
  have c2 := T26.2.2.2.1
  obtain ⟨f1, f2, f3⟩ := T26.fin rfl
  have HG := hide (And.intro f1 (And.intro f2 f3))
  clear f1 f2 f3
  go_wp2_with (first | (refine wpl_load rfl 60 _ rfl _ 0 rfl _ c1 rowIWorld ?_) | (refine wpl_store_at rfl 60 _ _ rfl _ 0 [.int .i64 x.c.stripes, .int .i64 x.c.wait, .int .i64 x.c.budget, .int .i64 x.c.cache, .int .i64 x.c.queue, .int .i64 x.c.rate, .int .i64 x.c.burst, .int .i64 x.c.rule.kind, .int .i64 x.c.rule.n, .string x.c.rule.key, .string x.c.rule.text, .slice b0 x.c.rule.l.length m0, .int .i64 x.time, .bool x.shut, .slice b1 x.st.length m1, .int .i64 x.ruleHeld, .int .i64 x.b.rate, .int .i64 x.b.burst, .int .i64 x.b.tokens, .int .i64 x.b.since, .slice b2 x.cache.length m2, .int .i64 x.used, .int .i64 x.w.now, .slice b3 x.w.near.length m3, .slice b4 x.w.far.length m4, .slice b5 x.w.rest.length m5, .slice b6 x.due.length m6, .slice b7 x.queue.length m7, .slice b8 x.out.length m8, .slice b9 x.tasks.length m9, .slice b10 x.deeds.length m10, .int .i64 x.next] rfl rfl c2 (by intro v hv; simp only [List.mem_cons, List.not_mem_nil, or_false] at hv; rcases hv with rfl | rfl | rfl | rfl | rfl | rfl | rfl | rfl | rfl | rfl | rfl | rfl | rfl | rfl | rfl | rfl | rfl | rfl | rfl | rfl | rfl | rfl | rfl | rfl | rfl | rfl | rfl | rfl | rfl | rfl | rfl | rfl <;> rfl) rowIWorld ?_))
  obtain ⟨f1, f2, f3⟩ := unhide HG
  refine bodyPost_ret (v := .agg #[.int .i64 x.c.stripes, .int .i64 x.c.wait, .int .i64 x.c.budget, .int .i64 x.c.cache, .int .i64 x.c.queue, .int .i64 x.c.rate, .int .i64 x.c.burst, .int .i64 x.c.rule.kind, .int .i64 x.c.rule.n, .string x.c.rule.key, .string x.c.rule.text, .slice b0 x.c.rule.l.length m0, .int .i64 x.time, .bool x.shut, .slice b1 x.st.length m1, .int .i64 x.ruleHeld, .int .i64 x.b.rate, .int .i64 x.b.burst, .int .i64 x.b.tokens, .int .i64 x.b.since, .slice b2 x.cache.length m2, .int .i64 x.used, .int .i64 x.w.now, .slice b3 x.w.near.length m3, .slice b4 x.w.far.length m4, .slice b5 x.w.rest.length m5, .slice b6 x.due.length m6, .slice b7 x.queue.length m7, .slice b8 x.out.length m8, .slice b9 x.tasks.length m9, .slice b10 x.deeds.length m10, .int .i64 x.next]) (res_row (t := 2) (cs := [.int .i64 x.c.stripes, .int .i64 x.c.wait, .int .i64 x.c.budget, .int .i64 x.c.cache, .int .i64 x.c.queue, .int .i64 x.c.rate, .int .i64 x.c.burst, .int .i64 x.c.rule.kind, .int .i64 x.c.rule.n, .string x.c.rule.key, .string x.c.rule.text, .slice b0 x.c.rule.l.length m0, .int .i64 x.time, .bool x.shut, .slice b1 x.st.length m1, .int .i64 x.ruleHeld, .int .i64 x.b.rate, .int .i64 x.b.burst, .int .i64 x.b.tokens, .int .i64 x.b.since, .slice b2 x.cache.length m2, .int .i64 x.used, .int .i64 x.w.now, .slice b3 x.w.near.length m3, .slice b4 x.w.far.length m4, .slice b5 x.w.rest.length m5, .slice b6 x.due.length m6, .slice b7 x.queue.length m7, .slice b8 x.out.length m8, .slice b9 x.tasks.length m9, .slice b10 x.deeds.length m10, .int .i64 x.next]) rfl rfl f1 rowIWorld) rfl ⟨[.int .i64 x.c.stripes, .int .i64 x.c.wait, .int .i64 x.c.budget, .int .i64 x.c.cache, .int .i64 x.c.queue, .int .i64 x.c.rate, .int .i64 x.c.burst, .int .i64 x.c.rule.kind, .int .i64 x.c.rule.n, .string x.c.rule.key, .string x.c.rule.text, .slice b0 x.c.rule.l.length m0, .int .i64 x.time, .bool x.shut, .slice b1 x.st.length m1, .int .i64 x.ruleHeld, .int .i64 x.b.rate, .int .i64 x.b.burst, .int .i64 x.b.tokens, .int .i64 x.b.since, .slice b2 x.cache.length m2, .int .i64 x.used, .int .i64 x.w.now, .slice b3 x.w.near.length m3, .slice b4 x.w.far.length m4, .slice b5 x.w.rest.length m5, .slice b6 x.due.length m6, .slice b7 x.queue.length m7, .slice b8 x.out.length m8, .slice b9 x.tasks.length m9, .slice b10 x.deeds.length m10, .int .i64 x.next], rfl, ?_, f2⟩
  exact own_fin worldO_keeps worldO_widens (unhide HF) f3 (fun k hk e => by omega) (by omega)

set_option maxHeartbeats 4000000 in
theorem mEqWorld (x : WorldD) (S S' : Nat → Prop) (cs cs' : List Value) (w : World) (hx : worldR w S cs x) (hy : worldR w S' cs' x) :
    Calls Try.prog 9 #[.agg cs.toArray, .agg cs'.toArray] w fun e w' => e = .returned (.bool true) ∧ Below w.heap.size w w' := by
  obtain ⟨s0, s1, s2, s3, s4, s5, s6, s7, s8, s9, s10, rfl, q0, q1, g0, g1, g2, g3, g4, g5, g6, g7, g8, g9, g10⟩ := hx
  obtain ⟨a0, k0, rfl⟩ := g0.form
  obtain ⟨a1, k1, rfl⟩ := g1.form
  obtain ⟨a2, k2, rfl⟩ := g2.form
  obtain ⟨a3, k3, rfl⟩ := g3.form
  obtain ⟨a4, k4, rfl⟩ := g4.form
  obtain ⟨a5, k5, rfl⟩ := g5.form
  obtain ⟨a6, k6, rfl⟩ := g6.form
  obtain ⟨a7, k7, rfl⟩ := g7.form
  obtain ⟨a8, k8, rfl⟩ := g8.form
  obtain ⟨a9, k9, rfl⟩ := g9.form
  obtain ⟨a10, k10, rfl⟩ := g10.form
  obtain ⟨sy0, sy1, sy2, sy3, sy4, sy5, sy6, sy7, sy8, sy9, sy10, rfl, qy0, qy1, gy0, gy1, gy2, gy3, gy4, gy5, gy6, gy7, gy8, gy9, gy10⟩ := hy
  obtain ⟨ay0, ky0, rfl⟩ := gy0.form
  obtain ⟨ay1, ky1, rfl⟩ := gy1.form
  obtain ⟨ay2, ky2, rfl⟩ := gy2.form
  obtain ⟨ay3, ky3, rfl⟩ := gy3.form
  obtain ⟨ay4, ky4, rfl⟩ := gy4.form
  obtain ⟨ay5, ky5, rfl⟩ := gy5.form
  obtain ⟨ay6, ky6, rfl⟩ := gy6.form
  obtain ⟨ay7, ky7, rfl⟩ := gy7.form
  obtain ⟨ay8, ky8, rfl⟩ := gy8.form
  obtain ⟨ay9, ky9, rfl⟩ := gy9.form
  obtain ⟨ay10, ky10, rfl⟩ := gy10.form
  have P0 := (Held.new w [.int .i64 x.c.stripes, .int .i64 x.c.wait, .int .i64 x.c.budget, .int .i64 x.c.cache, .int .i64 x.c.queue, .int .i64 x.c.rate, .int .i64 x.c.burst, .int .i64 x.c.rule.kind, .int .i64 x.c.rule.n, .string x.c.rule.key, .string x.c.rule.text, .slice a0 x.c.rule.l.length k0, .int .i64 x.time, .bool x.shut, .slice a1 x.st.length k1, .int .i64 x.ruleHeld, .int .i64 x.b.rate, .int .i64 x.b.burst, .int .i64 x.b.tokens, .int .i64 x.b.since, .slice a2 x.cache.length k2, .int .i64 x.used, .int .i64 x.w.now, .slice a3 x.w.near.length k3, .slice a4 x.w.far.length k4, .slice a5 x.w.rest.length k5, .slice a6 x.due.length k6, .slice a7 x.queue.length k7, .slice a8 x.out.length k8, .slice a9 x.tasks.length k9, .slice a10 x.deeds.length k10, .int .i64 x.next] 60).keep (bnew _ (.cells #[.int .i64 x.c.stripes, .int .i64 x.c.wait, .int .i64 x.c.budget, .int .i64 x.c.cache, .int .i64 x.c.queue, .int .i64 x.c.rate, .int .i64 x.c.burst, .int .i64 x.c.rule.kind, .int .i64 x.c.rule.n, .string x.c.rule.key, .string x.c.rule.text, .slice ay0 x.c.rule.l.length ky0, .int .i64 x.time, .bool x.shut, .slice ay1 x.st.length ky1, .int .i64 x.ruleHeld, .int .i64 x.b.rate, .int .i64 x.b.burst, .int .i64 x.b.tokens, .int .i64 x.b.since, .slice ay2 x.cache.length ky2, .int .i64 x.used, .int .i64 x.w.now, .slice ay3 x.w.near.length ky3, .slice ay4 x.w.far.length ky4, .slice ay5 x.w.rest.length ky5, .slice ay6 x.due.length ky6, .slice ay7 x.queue.length ky7, .slice ay8 x.out.length ky8, .slice ay9 x.tasks.length ky9, .slice ay10 x.deeds.length ky10, .int .i64 x.next] 60))
  have Q0 := Held.new (w.alloc (.cells #[.int .i64 x.c.stripes, .int .i64 x.c.wait, .int .i64 x.c.budget, .int .i64 x.c.cache, .int .i64 x.c.queue, .int .i64 x.c.rate, .int .i64 x.c.burst, .int .i64 x.c.rule.kind, .int .i64 x.c.rule.n, .string x.c.rule.key, .string x.c.rule.text, .slice a0 x.c.rule.l.length k0, .int .i64 x.time, .bool x.shut, .slice a1 x.st.length k1, .int .i64 x.ruleHeld, .int .i64 x.b.rate, .int .i64 x.b.burst, .int .i64 x.b.tokens, .int .i64 x.b.since, .slice a2 x.cache.length k2, .int .i64 x.used, .int .i64 x.w.now, .slice a3 x.w.near.length k3, .slice a4 x.w.far.length k4, .slice a5 x.w.rest.length k5, .slice a6 x.due.length k6, .slice a7 x.queue.length k7, .slice a8 x.out.length k8, .slice a9 x.tasks.length k9, .slice a10 x.deeds.length k10, .int .i64 x.next] 60)) [.int .i64 x.c.stripes, .int .i64 x.c.wait, .int .i64 x.c.budget, .int .i64 x.c.cache, .int .i64 x.c.queue, .int .i64 x.c.rate, .int .i64 x.c.burst, .int .i64 x.c.rule.kind, .int .i64 x.c.rule.n, .string x.c.rule.key, .string x.c.rule.text, .slice ay0 x.c.rule.l.length ky0, .int .i64 x.time, .bool x.shut, .slice ay1 x.st.length ky1, .int .i64 x.ruleHeld, .int .i64 x.b.rate, .int .i64 x.b.burst, .int .i64 x.b.tokens, .int .i64 x.b.since, .slice ay2 x.cache.length ky2, .int .i64 x.used, .int .i64 x.w.now, .slice ay3 x.w.near.length ky3, .slice ay4 x.w.far.length ky4, .slice ay5 x.w.rest.length ky5, .slice ay6 x.due.length ky6, .slice ay7 x.queue.length ky7, .slice ay8 x.out.length ky8, .slice ay9 x.tasks.length ky9, .slice ay10 x.deeds.length ky10, .int .i64 x.next] 60
  rw [show (w.alloc (.cells #[.int .i64 x.c.stripes, .int .i64 x.c.wait, .int .i64 x.c.budget, .int .i64 x.c.cache, .int .i64 x.c.queue, .int .i64 x.c.rate, .int .i64 x.c.burst, .int .i64 x.c.rule.kind, .int .i64 x.c.rule.n, .string x.c.rule.key, .string x.c.rule.text, .slice a0 x.c.rule.l.length k0, .int .i64 x.time, .bool x.shut, .slice a1 x.st.length k1, .int .i64 x.ruleHeld, .int .i64 x.b.rate, .int .i64 x.b.burst, .int .i64 x.b.tokens, .int .i64 x.b.since, .slice a2 x.cache.length k2, .int .i64 x.used, .int .i64 x.w.now, .slice a3 x.w.near.length k3, .slice a4 x.w.far.length k4, .slice a5 x.w.rest.length k5, .slice a6 x.due.length k6, .slice a7 x.queue.length k7, .slice a8 x.out.length k8, .slice a9 x.tasks.length k9, .slice a10 x.deeds.length k10, .int .i64 x.next] 60)).heap.size = w.heap.size + 1 by simp] at Q0
  have B0 := bthen (bnew w (.cells #[.int .i64 x.c.stripes, .int .i64 x.c.wait, .int .i64 x.c.budget, .int .i64 x.c.cache, .int .i64 x.c.queue, .int .i64 x.c.rate, .int .i64 x.c.burst, .int .i64 x.c.rule.kind, .int .i64 x.c.rule.n, .string x.c.rule.key, .string x.c.rule.text, .slice a0 x.c.rule.l.length k0, .int .i64 x.time, .bool x.shut, .slice a1 x.st.length k1, .int .i64 x.ruleHeld, .int .i64 x.b.rate, .int .i64 x.b.burst, .int .i64 x.b.tokens, .int .i64 x.b.since, .slice a2 x.cache.length k2, .int .i64 x.used, .int .i64 x.w.now, .slice a3 x.w.near.length k3, .slice a4 x.w.far.length k4, .slice a5 x.w.rest.length k5, .slice a6 x.due.length k6, .slice a7 x.queue.length k7, .slice a8 x.out.length k8, .slice a9 x.tasks.length k9, .slice a10 x.deeds.length k10, .int .i64 x.next] 60)) (bnew _ (.cells #[.int .i64 x.c.stripes, .int .i64 x.c.wait, .int .i64 x.c.budget, .int .i64 x.c.cache, .int .i64 x.c.queue, .int .i64 x.c.rate, .int .i64 x.c.burst, .int .i64 x.c.rule.kind, .int .i64 x.c.rule.n, .string x.c.rule.key, .string x.c.rule.text, .slice ay0 x.c.rule.l.length ky0, .int .i64 x.time, .bool x.shut, .slice ay1 x.st.length ky1, .int .i64 x.ruleHeld, .int .i64 x.b.rate, .int .i64 x.b.burst, .int .i64 x.b.tokens, .int .i64 x.b.since, .slice ay2 x.cache.length ky2, .int .i64 x.used, .int .i64 x.w.now, .slice ay3 x.w.near.length ky3, .slice ay4 x.w.far.length ky4, .slice ay5 x.w.rest.length ky5, .slice ay6 x.due.length ky6, .slice ay7 x.queue.length ky7, .slice ay8 x.out.length ky8, .slice ay9 x.tasks.length ky9, .slice ay10 x.deeds.length ky10, .int .i64 x.next] 60))
  go_enter Try.func9, Try.ntmps9
  go_wp2_with fail
  generalize World.alloc (World.alloc w _) _ = w0 at *
  refine (mEqConf x.c S S' [.int .i64 x.c.stripes, .int .i64 x.c.wait, .int .i64 x.c.budget, .int .i64 x.c.cache, .int .i64 x.c.queue, .int .i64 x.c.rate, .int .i64 x.c.burst, .int .i64 x.c.rule.kind, .int .i64 x.c.rule.n, .string x.c.rule.key, .string x.c.rule.text, .slice a0 x.c.rule.l.length k0] [.int .i64 x.c.stripes, .int .i64 x.c.wait, .int .i64 x.c.budget, .int .i64 x.c.cache, .int .i64 x.c.queue, .int .i64 x.c.rate, .int .i64 x.c.burst, .int .i64 x.c.rule.kind, .int .i64 x.c.rule.n, .string x.c.rule.key, .string x.c.rule.text, .slice ay0 x.c.rule.l.length ky0] _ ⟨_, rfl, q0, q1, g0.keep polR_keeps B0⟩ ⟨_, rfl, qy0, qy1, gy0.keep polR_keeps B0⟩).mono ?_
  rintro e w1 ⟨rfl, hb1⟩
  have B1 := bthen B0 hb1
  have P1 := P0.keep hb1
  have Q1 := Q0.keep hb1
  clear hb1
  have p12 := P1.2 12 _ rfl
  have p13 := P1.2 13 _ rfl
  have p14 := P1.2 14 _ rfl
  have q_12 := Q1.2 12 _ rfl
  have q_13 := Q1.2 13 _ rfl
  have q_14 := Q1.2 14 _ rfl
  go_wp2_with fail
  refine (mEqStripeS x.st S S' _ _ _ (g1.keep stripeR_keeps B1) (gy1.keep stripeR_keeps B1)).mono ?_
  rintro e w2 ⟨rfl, hb2⟩
  have B2 := bthen B1 hb2
  have P2 := P1.keep hb2
  have Q2 := Q1.keep hb2
  clear hb2
  clear p12 p13 p14
  clear q_12 q_13 q_14
  have p15 := P2.2 15 _ rfl
  have p16 := P2.2 16 _ rfl
  have p17 := P2.2 17 _ rfl
  have p18 := P2.2 18 _ rfl
  have p19 := P2.2 19 _ rfl
  have q_15 := Q2.2 15 _ rfl
  have q_16 := Q2.2 16 _ rfl
  have q_17 := Q2.2 17 _ rfl
  have q_18 := Q2.2 18 _ rfl
  have q_19 := Q2.2 19 _ rfl
  go_wp2_with fail
  refine (mEqBucket x.b S S' [.int .i64 x.b.rate, .int .i64 x.b.burst, .int .i64 x.b.tokens, .int .i64 x.b.since] [.int .i64 x.b.rate, .int .i64 x.b.burst, .int .i64 x.b.tokens, .int .i64 x.b.since] _ rfl rfl).mono ?_
  rintro e w3 ⟨rfl, hb3⟩
  have B3 := bthen B2 hb3
  have P3 := P2.keep hb3
  have Q3 := Q2.keep hb3
  clear hb3
  clear p15 p16 p17 p18 p19
  clear q_15 q_16 q_17 q_18 q_19
  have p20 := P3.2 20 _ rfl
  have q_20 := Q3.2 20 _ rfl
  go_wp2_with fail
  refine (mEqVerdictS x.cache S S' _ _ _ (g2.keep verdictR_keeps B3) (gy2.keep verdictR_keeps B3)).mono ?_
  rintro e w4 ⟨rfl, hb4⟩
  have B4 := bthen B3 hb4
  have P4 := P3.keep hb4
  have Q4 := Q3.keep hb4
  clear hb4
  clear p20
  clear q_20
  have p21 := P4.2 21 _ rfl
  have p22 := P4.2 22 _ rfl
  have p23 := P4.2 23 _ rfl
  have p24 := P4.2 24 _ rfl
  have p25 := P4.2 25 _ rfl
  have q_21 := Q4.2 21 _ rfl
  have q_22 := Q4.2 22 _ rfl
  have q_23 := Q4.2 23 _ rfl
  have q_24 := Q4.2 24 _ rfl
  have q_25 := Q4.2 25 _ rfl
  go_wp2_with fail
  refine (mEqWheel x.w S S' [.int .i64 x.w.now, .slice a3 x.w.near.length k3, .slice a4 x.w.far.length k4, .slice a5 x.w.rest.length k5] [.int .i64 x.w.now, .slice ay3 x.w.near.length ky3, .slice ay4 x.w.far.length ky4, .slice ay5 x.w.rest.length ky5] _ ⟨_, _, _, rfl, g3.keep timerSR_keeps B4, g4.keep timerSR_keeps B4, g5.keep timerR_keeps B4⟩ ⟨_, _, _, rfl, gy3.keep timerSR_keeps B4, gy4.keep timerSR_keeps B4, gy5.keep timerR_keeps B4⟩).mono ?_
  rintro e w5 ⟨rfl, hb5⟩
  have B5 := bthen B4 hb5
  have P5 := P4.keep hb5
  have Q5 := Q4.keep hb5
  clear hb5
  clear p21 p22 p23 p24 p25
  clear q_21 q_22 q_23 q_24 q_25
  have p26 := P5.2 26 _ rfl
  have q_26 := Q5.2 26 _ rfl
  go_wp2_with fail
  refine (mEqTimerS x.due S S' _ _ _ (g6.keep timerR_keeps B5) (gy6.keep timerR_keeps B5)).mono ?_
  rintro e w6 ⟨rfl, hb6⟩
  have B6 := bthen B5 hb6
  have P6 := P5.keep hb6
  have Q6 := Q5.keep hb6
  clear hb6
  clear p26
  clear q_26
  have p27 := P6.2 27 _ rfl
  have q_27 := Q6.2 27 _ rfl
  go_wp2_with fail
  refine (mEqItemS x.queue S S' _ _ _ (g7.keep itemR_keeps B6) (gy7.keep itemR_keeps B6)).mono ?_
  rintro e w7 ⟨rfl, hb7⟩
  have B7 := bthen B6 hb7
  have P7 := P6.keep hb7
  have Q7 := Q6.keep hb7
  clear hb7
  clear p27
  clear q_27
  have p28 := P7.2 28 _ rfl
  have q_28 := Q7.2 28 _ rfl
  go_wp2_with fail
  refine (mEqItemS x.out S S' _ _ _ (g8.keep itemR_keeps B7) (gy8.keep itemR_keeps B7)).mono ?_
  rintro e w8 ⟨rfl, hb8⟩
  have B8 := bthen B7 hb8
  have P8 := P7.keep hb8
  have Q8 := Q7.keep hb8
  clear hb8
  clear p28
  clear q_28
  have p29 := P8.2 29 _ rfl
  have q_29 := Q8.2 29 _ rfl
  go_wp2_with fail
  refine (mEqTaskS x.tasks S S' _ _ _ (g9.keep taskR_keeps B8) (gy9.keep taskR_keeps B8)).mono ?_
  rintro e w9 ⟨rfl, hb9⟩
  have B9 := bthen B8 hb9
  have P9 := P8.keep hb9
  have Q9 := Q8.keep hb9
  clear hb9
  clear p29
  clear q_29
  have p30 := P9.2 30 _ rfl
  have q_30 := Q9.2 30 _ rfl
  go_wp2_with fail
  refine (mEqDeedS x.deeds S S' _ _ _ (g10.keep deedR_keeps B9) (gy10.keep deedR_keeps B9)).mono ?_
  rintro e w10 ⟨rfl, hb10⟩
  have B10 := bthen B9 hb10
  have P10 := P9.keep hb10
  have Q10 := Q9.keep hb10
  clear hb10
  clear p30
  clear q_30
  have p31 := P10.2 31 _ rfl
  have q_31 := Q10.2 31 _ rfl
  go_wp2
  go_ret
  exact ⟨rfl, B10⟩

end Go.Proofs.Ytciipadkdglhmaa
