/-
  What Forgets answers; Forgets of the specification.
-/
import Derived.Test.YtjhlammjnggghaaVerd
import Derived.Test.YtjhlammjnggghaaTInt
import Derived.Test.YtjhlammjnggghaaGrow2
namespace Go.Proofs.Ytjhlammjnggghaa
open Go.ChangeShapes Go.WideShapes Go.ChangeAt Go.RowKit
set_option linter.unusedVariables false
set_option maxRecDepth 100000

def goneB (m : List VerdictD) (v : VerdictD) : Bool := !verdIs m v.trace
def gone (l m : List VerdictD) : List Int := (l.filter (goneB m)).map VerdictD.trace
theorem gone_len (l m : List VerdictD) : (gone l m).length ≤ l.length := by
  unfold gone
  rw [List.length_map]
  exact List.length_filter_le _ _
theorem gone_pre (l m : List VerdictD) (k : Nat) : (gone (l.take k) m).length ≤ k := by
  have := gone_len (l.take k) m
  rw [List.length_take] at this
  omega
theorem gone_step (l m : List VerdictD) (k : Nat) (h : k < l.length) : gone (l.take (k + 1)) m = gone (l.take k) m ++ if goneB m l[k] then [l[k].trace] else [] := by
  unfold gone
  rw [List.take_succ_eq_append_getElem h, List.filter_append, List.map_append]
  congr 1
  by_cases e : goneB m l[k] = true
  · simp [e]
  · simp [e]
def cellsI2 (zs : List Int) : List Value := zs.flatMap (fun z => [.int .i64 z])
theorem cellsI2_snoc (zs : List Int) (z : Int) : cellsI2 (zs ++ [z]) = cellsI2 zs ++ [.int .i64 z] := by simp [cellsI2]
theorem ints_done {t : TypeId} {base : Nat} {w : World} {v : Value} {zs : List Int} (h : w.ownsRow base t 1 v zs.length (cellsI2 zs)) (hl : zs.length ≤ 9223372036854775807) : LOw 1 intO w (Within base w.heap.size) v zs :=
  own_flat (f := fun z => [.int .i64 z]) h (fun _ => rfl) (fun x _ => rfl) hl
theorem infoI2 : (Try.prog.info? 3).map (fun i => (i.zero, i.size, i.bytes)) = some (some (.int .i64 0), 1, 8) := by kernel_rfl
theorem lit_cells4 (w : World) (cs : List Value) (t : TypeId) : ∀ j u, cs[j]? = some u → (w.alloc (.cells cs.toArray t)).cell? ((⟨w.heap.size, 0, none⟩ : Addr).add j) = some u := by
  intro j u hu
  have e : (⟨w.heap.size, 0, none⟩ : Addr).add j = ⟨w.heap.size, j, none⟩ := by unfold Addr.add; split <;> simp_all
  rw [e, World.cell?_alloc_at _ _ _ _ rfl]
  simpa using hu
set_option maxHeartbeats 4000000 in
theorem specForgets (l m : List VerdictD) (S0 : Nat → Prop) (v0 : Value) (S1 : Nat → Prop) (v1 : Value) (w : World) (h0 : LAt 3 verdictR w S0 v0 l) (b0 : bulkL verdictBulk l ≤ 1048576) (h1 : LAt 3 verdictR w S1 v1 m) (b1 : bulkL verdictBulk m ≤ 1048576) :
    Calls Try.prog 47 #[v0, v1] w fun e w' => ∃ v', e = .returned v' ∧ LOw 1 intO w' (Within w.heap.size w'.heap.size) v' (gone l m) ∧ Below w.heap.size w w' := by
  obtain ⟨a, cap, rfl⟩ := h0.form
  obtain ⟨a1, cap1, rfl⟩ := h1.form
  have hl := bulkL_len verdictBulk l
  have HA := hide h0
  have HM := hide h1
  clear h0 h1
  have how0 := hide (World.ownsRow_made (base := w.heap.size) (e := 3) (size := 1) w #[] 0 (Nat.le_refl _) (by unfold maxLen; omega) rfl)
  have hb0 := hide (bnew w (.cells #[] 3))
  have hml : (1048577 : Nat) ≤ maxLen := by unfold maxLen; omega
  go_enter Try.func47, Try.ntmps47
  go_wp2
  go_loopw [5, 6] (fun o i wk => ∃ k : Nat, k ≤ l.length ∧ i = .int .i64 k ∧ Hid (wk.ownsRow w.heap.size 3 1 o (gone (l.take k) m).length (cellsI2 (gone (l.take k) m))) ∧ Below w.heap.size w wk) (fun _ i _ => l.length - (intOf i).toNat)
  case atStart => exact ⟨0, Nat.zero_le _, rfl, how0, unhide hb0⟩
  case round =>
    obtain ⟨k, hk, rfl, hgr, hbl⟩ := hrel
    have hpre := gone_pre l m k
    have hbs := hbl.size
    clear how0 hb0
    by_cases hlt : k < l.length
    · have hki : (k : Int) < (l.length : Int) := by omega
      obtain ⟨b, o, cs, rfl, hbk, hSb, hcs, hin⟩ := (unhide HA).at k hlt
      have hin := hin.turn hbk (Below.turn hbl) (fun e => e)
      have hbw := Nat.lt_of_lt_of_le hbk hbs
      have HS := hide (gone_step l m k hlt)
      generalize l[k] = X at *
      obtain rfl : cs = _ := hcs
      have c0 : wr.cell? ⟨b, o + k * 3, none⟩ = some (.int .i64 X.trace) := hin 0 _ rfl
      clear hin
      go_wp2_with fail
      refine (specVerdictOf m X.trace S1 _ wr ((unhide HM).keep verdictR_keeps hbl) b1).mono ?_
      rintro e w2 ⟨rfl, hb2⟩
      generalize hVO : verdOf m X.trace = VO at *
      have hb3 := bthen hb2 (bnew w2 (.cells #[.int .i64 VO.trace, .int .i64 VO.stamp, .bool VO.keep] 59))
      have hown3 := owns_below (unhide hgr) hb3
      have B3 := bthen hbl hb3
      have c3 : (w2.alloc (.cells #[.int .i64 VO.trace, .int .i64 VO.stamp, .bool VO.keep] 59)).cell? ⟨b, o + k * 3, none⟩ = some (.int .i64 X.trace) := by rw [hb3.cell (p := ⟨b, o + k * 3, none⟩) hbw]; exact c0
      have HO := hide (And.intro hown3 B3)
      clear hgr hown3 B3 hb2 hb3 c0 hVO
      go_upto_region 6 with fail
      generalize hW3 : World.alloc w2 _ = w3 at *
      clear hW3
      obtain ⟨hown3, B3⟩ := unhide HO
      have hs3 := B3.size
      by_cases e : verdIs m X.trace = true
      · have HB : Hid (goneB m X = false) := hide (by simp [goneB, e])
        rw [e]
        clear e
        go_wp2
        go_roundw
        case rel => exact ⟨k + 1, by omega, by go_num, hide (by rw [unhide HS, unhide HB]; simpa using hown3), B3⟩
        case measure => simp [intOf]; omega
      · have e : verdIs m X.trace = false := by simpa using e
        have HB : Hid (goneB m X = true) := hide (by simp [goneB, e])
        rw [e]
        clear e
        have hown4 := owns_below hown3 (bnew w3 (.cells #[.int .i64 X.trace] 3))
        have hs4 : w.heap.size ≤ (w3.alloc (.cells #[.int .i64 X.trace] 3)).heap.size := by simp; omega
        clear HO
        go_wp2_with (first | (at_builtin; refine wpl_append2 rfl (.tmp 28) (.tmp 34) 72 rfl w.heap.size 3 _ 1 8 Try.underlying72 infoI2 rfl (by decide) _ _ _ rfl hown4 ⟨_, 0, none⟩ 1 1 [.int .i64 X.trace] rfl rfl (lit_cells4 w3 [.int .i64 X.trace] 3) (by intro v hv; simp at hv; subst hv; rfl) (by omega) (by omega) hs4 ?_))
        intro v' w' how hg hv
        have bl1 := grown_below (bthen B3 (bnew w3 (.cells #[.int .i64 X.trace] 3))) hg (fun k hk => (hown3.lt k hk).1) hs4
        have HST := hide (And.intro how bl1)
        clear how hg hv bl1 hown3 hown4
        go_wp2
        go_roundw
        case rel => exact ⟨k + 1, by omega, by go_num, hide (by rw [unhide HS, unhide HB, if_pos rfl, cellsI2_snoc]; simpa using (unhide HST).1), (unhide HST).2⟩
        case measure => simp [intOf]; omega
    · have hki : ¬ (k : Int) < (l.length : Int) := by omega
      obtain rfl : k = l.length := by omega
      go_wp2
      go_ret
      have h := unhide hgr
      rw [List.take_length] at h
      have hll := gone_len l m
      exact ⟨_, rfl, ints_done h (by omega), hbl⟩
end Go.Proofs.Ytjhlammjnggghaa
