/-
  DueBy of the program.
-/
import Derived.Test.YtanpmbjjppfkeaaDue1
import Derived.Test.YtanpmbjjppfkeaaTim0
import Derived.Test.YtanpmbjjppfkeaaSrt1
namespace Go.Proofs.Ytanpmbjjppfkeaa
open Go.ChangeShapes Go.WideShapes Go.ChangeAt Go.RowKit Go.Sort
set_option linter.unusedVariables false
set_option maxRecDepth 100000

theorem due_cnt (x : WheelD) (a : Int) (b0 : wheelBulk x ≤ 1048576) : (dueZ (allT x) a).length ≤ 16777216 := by
  have := allT_len x b0
  have := dueZ_len (allT x) a
  omega
def ImDue (S : Nat → Prop) (L : List TimerD) (a : Int) (w wk : World) (k : Nat) (u v : Value) : Prop := wk.ownsRow w.heap.size 3 1 u (dueI (L.take k) a).length (cellsI2 (dueI (L.take k) a)) ∧ LAt 3 timerR wk S v L ∧ (∀ q, S q → ¬ (u.ownBlock = some q)) ∧ (∀ q, S q → q < wk.heap.size) ∧ Below w.heap.size w wk
theorem due_snoc (l : List Int) (x : Int) : cellsI2 (l ++ [x]) = cellsI2 l ++ [.int .i64 x] := by simp [cellsI2]
theorem timer_at {wk : World} {S : Nat → Prop} {L : List TimerD} {a : Option Addr} {n c k : Nat} (h : LAt 3 timerR wk S (.slice a n c) L) (hk : k < L.length) : ∃ b o, a = some ⟨b, o, none⟩ ∧ b < wk.heap.size ∧ InB wk b (o + k * 3) [.int .i64 L[k].id, .int .i64 L[k].trace, .int .i64 L[k].due] := by
  obtain ⟨b, o, cs, h1, hbk, hSb, hcs, hin⟩ := h.at k hk
  obtain rfl : cs = _ := hcs
  exact ⟨b, o, h1, hbk, hin⟩
set_option maxHeartbeats 4000000 in
theorem implDueBy (x : WheelD) (at_ : Int) (S0 : Nat → Prop) (cs : List Value) (w : World) (h0 : wheelR w S0 cs x) (b0 : wheelBulk x ≤ 1048576) :
    Calls Try.prog 13 #[.agg cs.toArray, .int .i64 at_] w fun e w' => ∃ v', e = .returned v' ∧ LOw 1 intO w' (Within w.heap.size w'.heap.size) v' (dueZ (allT x) at_) ∧ Below w.heap.size w w' := by
  have hall := allT_len x b0
  have B0 := bnew w (.cells cs.toArray 32)
  have P0 := Held.new w cs 32
  have hrw : RowT Try.prog 32 cs.length := by rw [wheelR_len h0]; exact rowIWheel
  have h1 := wheelR_keeps _ _ _ None1 _ _ (Below.turn B0) none_off h0
  clear h0
  go_enter Try.func13, Try.ntmps13
  go_upto_region 1 with fail
  generalize World.alloc w _ = w0 at *
  have hb1 := bnew w0 (.cells #[] 3)
  have how0 := World.ownsRow_made (base := w0.heap.size) (e := 3) (size := 1) w0 #[] 0 (Nat.le_refl _) (by unfold maxLen; omega) rfl
  have hsz1 : (w0.alloc (.cells #[] 3)).heap.size = w0.heap.size + 1 := by simp
  have H0 := hide (And.intro how0 (And.intro hb1 hsz1))
  have h2 := wheelR_keeps _ _ _ None1 _ _ (Below.turn hb1) none_off h1
  have P1 := (P0.keep hb1).inB
  clear how0 P0 h1 hb1 hsz1
  go_wp2_with (first | (refine wpl_load rfl 32 _ rfl _ 0 rfl cs P1 hrw ?_))
  refine (implTimers x S0 cs _ h2 b0).mono ?_
  rintro e w1 ⟨v1, rfl, y1, hbT⟩
  obtain ⟨a1, k1, rfl⟩ := y1.form
  obtain ⟨S, hSS⟩ : ∃ S : Nat → Prop, S = Within (w0.alloc (.cells #[] 3)).heap.size w1.heap.size := ⟨_, rfl⟩
  have hst : Hid (ImDue S (allT x) at_ w0 w1 0 (.slice (some ⟨w0.heap.size, 0, none⟩) 0 0) (.slice a1 (allT x).length k1)) := by
    obtain ⟨how0, hb1, hsz1⟩ := unhide H0
    have hd := y1.read timerR_widens timerO_read
    rw [← hSS] at hd
    refine hide ⟨by simpa [dueI, cellsI2] using owns_below how0 hbT, hd, fun q hq e => ?_, fun q hq => ?_, bthen hb1 hbT⟩
    · rw [hSS] at hq
      have h1 : w0.heap.size = q := Option.some.inj e
      have h2 := hq.1
      omega
    · rw [hSS] at hq; exact hq.2
  have hbw : w.heap.size ≤ w0.heap.size := B0.size
  clear y1 hbT P1 h2 H0 hrw hSS
  have HCN := hide (dueZ_len (allT x) at_)
  generalize hL : allT x = L at *
  have HL := hide hL
  clear hL
  go_wp2
  go_loopw [5, 12] (fun u i wk => ∃ (k : Nat), k ≤ L.length ∧ i = .int .i64 k ∧ Hid (∃ g cap, u = .slice (some ⟨g, 0, none⟩) (dueI (L.take k) at_).length cap) ∧ Hid (ImDue S L at_ w0 wk k u (.slice a1 L.length k1))) (fun _ i _ => L.length - (intOf i).toNat)
  case atStart => exact ⟨0, Nat.zero_le _, rfl, hide ⟨w0.heap.size, 0, by simp [dueI]⟩, hst⟩
  case round =>
    obtain ⟨k, hk, rfl, hform, hin0⟩ := hrel
    clear hst
    have hpre := dueI_len L at_ k
    by_cases hlt : k < L.length
    · have hki : (k : Int) < (L.length : Int) := by omega
      obtain ⟨hrow, hla, hne, hSlt, hbl⟩ := unhide hin0
      obtain ⟨b, o, rfl, hbk, hin⟩ := timer_at hla hlt
      by_cases e1 : L[k].due ≤ at_
      case neg =>
        have HD := hide (dueI_no hlt e1)
        generalize L[k] = X at *
        have c0 : wr.cell? ⟨b, o + k * 3, none⟩ = some (.int .i64 X.id) := hin 0 _ rfl
        have c1 : wr.cell? ⟨b, o + k * 3 + 1, none⟩ = some (.int .i64 X.trace) := hin 1 _ rfl
        have c2 : wr.cell? ⟨b, o + k * 3 + 2, none⟩ = some (.int .i64 X.due) := hin 2 _ rfl
        have hbA := bnew wr (.cells #[.int .i64 X.id, .int .i64 X.trace, .int .i64 X.due] 73)
        have HS := hide (show ImDue S L at_ w0 (wr.alloc (.cells #[.int .i64 X.id, .int .i64 X.trace, .int .i64 X.due] 73)) (k + 1) _ (.slice (some ⟨b, o, none⟩) L.length k1) from ⟨by rw [unhide HD]; exact owns_below hrow hbA, hla.keep timerR_keeps hbA, hne, fun q hq => Nat.lt_of_lt_of_le (hSlt q hq) hbA.size, bthen hbl hbA⟩)
        have HF := hide hform
        clear hrow hla hne hSlt hbl hin hbA hin0
        go_wp2
        go_roundw
        case rel => exact ⟨k + 1, by omega, by go_num, by rw [unhide HD]; exact hform, HS⟩
        case measure => simp [intOf]; omega
      have HD := hide (dueI_yes hlt e1)
      generalize L[k] = X at *
      have c0 : wr.cell? ⟨b, o + k * 3, none⟩ = some (.int .i64 X.id) := hin 0 _ rfl
      have c1 : wr.cell? ⟨b, o + k * 3 + 1, none⟩ = some (.int .i64 X.trace) := hin 1 _ rfl
      have c2 : wr.cell? ⟨b, o + k * 3 + 2, none⟩ = some (.int .i64 X.due) := hin 2 _ rfl
      have hbA := bnew wr (.cells #[.int .i64 X.id, .int .i64 X.trace, .int .i64 X.due] 73)
      have PA := Held.new wr [.int .i64 X.id, .int .i64 X.trace, .int .i64 X.due] 73
      have d0 : (wr.alloc (.cells #[.int .i64 X.id, .int .i64 X.trace, .int .i64 X.due] 73)).cell? ⟨wr.heap.size, 0, none⟩ = some (.int .i64 X.id) := PA.2 0 _ rfl
      have d2 : (wr.alloc (.cells #[.int .i64 X.id, .int .i64 X.trace, .int .i64 X.due] 73)).cell? ⟨wr.heap.size, 2, none⟩ = some (.int .i64 X.due) := PA.2 2 _ rfl
      have HE := hide (And.intro (owns_below hrow hbA) (And.intro (hla.keep timerR_keeps hbA) (And.intro hne (And.intro (fun (q : Nat) (hq : S q) => Nat.lt_of_lt_of_le (hSlt q hq) hbA.size) (bthen hbl hbA)))))
      clear hrow hla hne hSlt hbl hin hbA hin0 PA
      go_upto_region 5 with fail
      generalize hWa : World.alloc wr _ = wa at *
      clear hWa c0 c1 c2
      obtain ⟨hrow, hla, hne, hSlt, hbl⟩ := unhide HE
      have hb2 := bnew wa (.cells #[.int .i64 X.id] 3)
      have hrow2 := owns_below hrow hb2
      have hs2 : w0.heap.size ≤ (wa.alloc (.cells #[.int .i64 X.id] 3)).heap.size := by have := hb2.size; have := hbl.size; omega
      have HF := hide hform
      clear hla hne hSlt hbl hrow hform
      go_wp2_with (first | (at_builtin; refine wpl_append2 rfl (.tmp 20) (.tmp 23) 27 rfl w0.heap.size 3 _ 1 8 Try.underlying27 infoI2 rfl (by decide) _ _ _ rfl hrow2 ⟨_, 0, none⟩ 1 1 [.int .i64 X.id] rfl rfl (lit_cells4 wa [.int .i64 X.id] 3) (by intro v hv; simp at hv; subst hv; rfl) (by unfold maxLen; omega) (by omega) hs2 ?_))
      intro v' w' how hg hv
      obtain ⟨hrow, hla, hne, hSlt, hbl⟩ := unhide HE
      have hb2s := hb2.size
      have hgs := hg.size
      have hne2 : ∀ q, S q → ¬ (v'.ownBlock = some q) := fun q hq e2 => by
        rcases hv with h | h
        · rw [h] at e2; exact hne q hq e2
        · rw [h] at e2
          have h1 := hSlt q hq
          simp at e2
          omega
      have hla2 := (hla.keep timerR_keeps hb2).turn timerR_keeps (grown_turn hg) hne
      have bl1 := grown_below (bthen hbl hb2) hg (fun q hq => (hrow2.lt q hq).1) hs2
      rw [← due_snoc, ← unhide HD] at how
      have hl1 : (dueI (L.take k) at_).length + 1 = (dueI (L.take (k + 1)) at_).length := by rw [unhide HD]; simp
      rw [hl1] at how
      have hp1 : 0 < (dueI (L.take (k + 1)) at_).length := by omega
      obtain ⟨g', cap', rfl⟩ := zform how hp1
      have HST := hide (show ImDue S L at_ w0 w' (k + 1) (.slice (some ⟨g', 0, none⟩) (dueI (L.take (k + 1)) at_).length cap') (.slice (some ⟨b, o, none⟩) L.length k1) from ⟨how, hla2, hne2, fun q hq => by have := hSlt q hq; omega, bl1⟩)
      clear how hg hv hne2 hla2 bl1 hrow hla hne hSlt hbl hrow2 HE hb2 hl1 hp1 e1 d0 d2
      go_wp2
      go_roundw
      case rel => exact ⟨k + 1, by omega, by go_num, hide ⟨g', cap', rfl⟩, HST⟩
      case measure => simp [intOf]; omega
    · have hki : ¬ (k : Int) < (L.length : Int) := by omega
      obtain rfl : k = L.length := by omega
      obtain ⟨g, cap, rfl⟩ := unhide hform
      obtain ⟨hrow, _, _, _, hbl⟩ := unhide hin0
      rw [List.take_length] at hrow hpre
      have hso := implSort wr g cap _ hrow (by omega)
      have HSO := hide hso
      have hbs := hbl.size
      clear hso hrow
      go_wp2_with fail
      refine (unhide HSO).mono ?_
      rintro e w3 ⟨rfl, h3, h4⟩
      have hc1 := unhide HCN
      have hz : (dueI L at_).length = (dueZ L at_).length := by unfold dueZ; rw [(sortZ_srt _).len]
      rw [hz] at h3
      have h5 := ints_done (zbase (base' := w.heap.size) h3 hbw) (by omega)
      have h6 : Below w.heap.size w w3 := (bthen B0 hbl).trans (h4.mono hbw)
      have HR := hide (And.intro h5 h6)
      have HZ := hide hz
      clear h3 h4 h5 h6 hz hbl
      go_wp2
      go_ret
      refine ⟨_, rfl, ?_, (unhide HR).2⟩
      rw [unhide HL, unhide HZ]
      exact (unhide HR).1
end Go.Proofs.Ytanpmbjjppfkeaa
