/-
  What FnCaches wants of the data, and two of the laws' own comparisons.
-/
import Derived.Test.YtjhlammjnggghaaDrV2
import Derived.Test.YtjhlammjnggghaaRem3
import Derived.Test.YtjhlammjnggghaaCok
import Derived.Test.YtjhlammjnggghaaQLoad
namespace Go.Proofs.Ytjhlammjnggghaa
open Go.ChangeShapes Go.WideShapes Go.ChangeAt Go.RowKit
set_option linter.unusedVariables false
set_option maxRecDepth 100000

theorem remG_no2 {l : List VerdictD} {x : VerdictD} {most : Int} (h : most < 1) : remG l x most = 0 := by unfold remG; rw [if_pos h]
theorem remL_is {l : List VerdictD} {x : VerdictD} {most : Int} (h : ¬ most < 1) : remL l x most = (remA l x).drop ((remA l x).length - most.toNat) := by unfold remL; rw [if_neg h]
theorem remA_pos (l : List VerdictD) (x : VerdictD) : 0 < (remA l x).length := by unfold remA; simp
theorem remA_last (l : List VerdictD) (x : VerdictD) : (remA l x)[(remA l x).length - 1]? = some x := by
  unfold remA
  rw [List.length_append]
  simp
theorem rem_len {l : List VerdictD} {x : VerdictD} {most : Int} (h : ¬ most < 1) : 1 ≤ (remL l x most).length ∧ ((remL l x most).length : Int) ≤ most := by
  rw [remL_is h, List.length_drop]
  have := remA_pos l x
  omega
theorem rem_last {l : List VerdictD} {x : VerdictD} {most : Int} (h : ¬ most < 1) : (remL l x most)[(remL l x most).length - 1]? = some x := by
  have hp := remA_pos l x
  have h1 := (rem_len (l := l) (x := x) h).1
  rw [remL_is h] at h1 ⊢
  rw [List.length_drop] at h1 ⊢
  rw [List.getElem?_drop, show (remA l x).length - most.toNat + ((remA l x).length - ((remA l x).length - most.toNat) - 1) = (remA l x).length - 1 by omega]
  exact remA_last l x
theorem rem_split {l : List VerdictD} {x : VerdictD} {most : Int} (h : ¬ most < 1) : ∃ q, remL l x most = q ++ [x] ∧ List.Sublist q (l.filter (fun y => !decide (y.trace = x.trace))) := by
  rw [remL_is h]
  have hp := remA_pos l x
  unfold remA at hp ⊢
  rw [List.length_append] at hp ⊢
  simp only [List.length_cons, List.length_nil] at hp ⊢
  have hk : (l.filter (fun y => !decide (y.trace = x.trace))).length + 1 - most.toNat ≤ (l.filter (fun y => !decide (y.trace = x.trace))).length := by omega
  rw [List.drop_append_of_le_length hk]
  exact ⟨_, rfl, List.drop_sublist _ _⟩
theorem rem_found {l : List VerdictD} {x : VerdictD} {most : Int} (h : ¬ most < 1) : (remL l x most).find? (ofB x.trace) = some x := by
  obtain ⟨q, hq, hs⟩ := rem_split (l := l) (x := x) h
  rw [hq, List.find?_append]
  have hn : q.find? (ofB x.trace) = none := by
    rw [List.find?_eq_none]
    intro y hy
    have := (List.mem_filter.1 (hs.subset hy)).2
    simpa [ofB] using this
  rw [hn]
  simp [ofB]
theorem rem_verd {l : List VerdictD} {x : VerdictD} {most : Int} (h : ¬ most < 1) : verdOf (remL l x most) x.trace = x ∧ verdIs (remL l x most) x.trace = true := by
  unfold verdOf verdIs
  rw [rem_found h]
  exact ⟨rfl, rfl⟩
theorem cok_iff (l : List VerdictD) (most : Int) : cokB l most = true ↔ ((l.length : Int) ≤ most ∧ (∀ y ∈ l, vokB y = true) ∧ (trs l).Nodup) := by
  unfold cokB
  simp [Bool.and_eq_true]
theorem cok_rem {l : List VerdictD} {x : VerdictD} {most : Int} (h : ¬ most < 1) (hc : cokB l most = true) : cokB (remL l x most) most = cokB [x] most := by
  obtain ⟨c1, c2, c3⟩ := (cok_iff l most).1 hc
  have hlen := (rem_len (l := l) (x := x) h).2
  obtain ⟨q, hq, hs⟩ := rem_split (l := l) (x := x) h
  have hsub : List.Sublist q l := hs.trans (List.filter_sublist)
  have hnd : (trs (remL l x most)).Nodup := by
    rw [hq]
    unfold trs
    rw [List.map_append, List.nodup_append]
    refine ⟨(hsub.map _).nodup c3, by simp, ?_⟩
    intro a ha b hb
    obtain ⟨y, hy, rfl⟩ := List.mem_map.1 ha
    simp only [List.map_cons, List.map_nil, List.mem_singleton] at hb
    subst hb
    have := (List.mem_filter.1 (hs.subset hy)).2
    simpa using this
  have hone : cokB [x] most = vokB x := by
    unfold cokB trs
    have : decide ((([x] : List VerdictD).length : Int) ≤ most) = true := decide_eq_true (by simp; omega)
    rw [this]
    simp
  rw [hone]
  cases hv : vokB x with
  | true =>
    refine (cok_iff _ _).2 ⟨hlen, fun y hy => ?_, hnd⟩
    rw [hq] at hy
    rcases List.mem_append.1 hy with hy | hy
    · exact c2 y (hsub.subset hy)
    · rw [List.mem_singleton] at hy; subst hy; exact hv
  | false =>
    cases hcc : cokB (remL l x most) most with
    | false => rfl
    | true =>
      have := ((cok_iff _ _).1 hcc).2.1 x (by rw [hq]; simp)
      rw [hv] at this
      cases this
theorem nodup_le_one {α : Type} {l : List α} (h : l.Nodup) (a : α) (ha : ∀ y ∈ l, y = a) : l.length ≤ 1 := by
  match l, h with
  | [], _ => simp
  | [_], _ => simp
  | y :: z :: r, h =>
    have e1 := ha y (by simp)
    have e2 := ha z (by simp)
    subst e1
    rw [List.nodup_cons] at h
    exact absurd (by simp [e2]) h.1
theorem gone_one {l : List VerdictD} {x : VerdictD} {most : Int} (h : ¬ most < 1) (hc : cokB l most = true) : (gone l (remL l x most)).length ≤ 1 := by
  obtain ⟨c1, _, c3⟩ := (cok_iff l most).1 hc
  unfold gone
  rw [List.length_map]
  have hnl : l.Nodup := by
    have h2 : (l.map VerdictD.trace).Nodup := c3
    exact List.Pairwise.of_map VerdictD.trace (fun a b hab e => hab (by rw [e])) h2
  have hsub : (l.filter (goneB (remL l x most))).Nodup := (List.filter_sublist (l := l)).nodup hnl
  have hal := remA_len l x
  refine nodup_le_one hsub ((remA l x).headD x) (fun y hy => ?_)
  obtain ⟨hyl, hyg⟩ := List.mem_filter.1 hy
  have hno : verdIs (remL l x most) y.trace = false := by simpa [goneB] using hyg
  have hne : ¬ y.trace = x.trace := by
    intro e
    rw [e, (rem_verd h).2] at hno
    cases hno
  have hmem : y ∈ remA l x := List.mem_append.2 (.inl (List.mem_filter.2 ⟨hyl, by simpa using hne⟩))
  have hnot : ¬ y ∈ remL l x most := by
    intro hm
    unfold verdIs at hno
    rw [Option.isSome_eq_false_iff, Option.isNone_iff_eq_none, List.find?_eq_none] at hno
    exact hno y hm (by simp [ofB])
  rw [remL_is h] at hnot
  have hk : (remA l x).length - most.toNat ≤ 1 := by omega
  cases hA : remA l x with
  | nil => rw [hA] at hmem; simp at hmem
  | cons a r =>
    rw [hA] at hmem hnot hk
    rcases Nat.eq_zero_or_pos ((a :: r).length - most.toNat) with e | e
    · rw [e] at hnot; exact absurd hmem hnot
    · rw [show (a :: r).length - most.toNat = 1 by omega] at hnot
      rcases List.mem_cons.1 hmem with e2 | e2
      · rw [e2]; rfl
      · exact absurd (by simpa using e2) hnot
set_option maxHeartbeats 1000000 in
theorem lawSameCache (l : List VerdictD) (S S' : Nat → Prop) (v v' : Value) (w : World) (ha : LAt 3 verdictR w S v l) (hb : LAt 3 verdictR w S' v' l) :
    Calls Try.prog 42 #[v, v'] w fun e w' => e = .returned (.bool true) ∧ Below w.heap.size w w' := by
  obtain ⟨a, cap, rfl⟩ := ha.form
  obtain ⟨a', cap', rfl⟩ := hb.form
  have hl := ha.len
  have HA := hide ha
  have HB := hide hb
  clear ha hb
  have mixed : Try.prog.follows .mixedOrders = true := by kernel_rfl
  go_enter Try.func42, Try.ntmps42
  go_wp2
  go_loopw [5] (fun i wk => ∃ k : Nat, k ≤ l.length ∧ i = .int .i64 k ∧ Below w.heap.size w wk) (fun i _ => l.length - (intOf i).toNat)
  case atStart => exact ⟨0, Nat.zero_le _, rfl, Below.refl _ _⟩
  case round =>
    obtain ⟨k, hk, rfl, hbl⟩ := hrel
    by_cases hlt : k < l.length
    · obtain ⟨b, o, cs, rfl, hbk, hSb, hcs, hin⟩ := (unhide HA).at k hlt
      obtain ⟨b', o', cs2, rfl, hbk', hSb', hcs2, hin2⟩ := (unhide HB).at k hlt
      have hin := hin.turn hbk (Below.turn hbl) (fun e => e)
      have hin2 := hin2.turn hbk' (Below.turn hbl) (fun e => e)
      generalize l[k] = x at *
      obtain rfl : cs = _ := hcs
      obtain rfl : cs2 = _ := hcs2
      have hw1 : b < wr.heap.size := Nat.lt_of_lt_of_le hbk hbl.size
      have hw2 : b' < wr.heap.size := Nat.lt_of_lt_of_le hbk' hbl.size
      have hki : (k : Int) < (l.length : Int) := by omega
      go_upto_region 6 with fail
      refine wq_region (by assumption) (by kernel_rfl) ?_
      refine q_take (by kernel_rfl) (fun K hK => ?_)
      go_simp
      refine hK _ ?_
      clear hK K
      refine q_take (by kernel_rfl) (fun K hK => ?_)
      go_simp
      refine hK _ ?_
      clear hK K
      refine q_take (by kernel_rfl) (fun K hK => ?_)
      go_simp
      refine hK _ ?_
      clear hK K
      refine q_load (by kernel_rfl) 59 _ rfl b (o + k * 3) rfl [.int .i64 x.trace, .int .i64 x.stamp, .bool x.keep] hw1 hin rowIVerdict (fun K hK => ?_)
      simp only [Act.put, List.setIfInBounds_toArray, List.set_cons_zero, List.set_cons_succ]
      refine hK _ ?_
      clear hK K
      refine q_take (by kernel_rfl) (fun K hK => ?_)
      go_simp
      refine hK _ ?_
      clear hK K
      refine q_take (by kernel_rfl) (fun K hK => ?_)
      go_simp
      refine hK _ ?_
      clear hK K
      refine q_take (by kernel_rfl) (fun K hK => ?_)
      go_simp
      refine hK _ ?_
      clear hK K
      refine q_load (by kernel_rfl) 59 _ rfl b' (o' + k * 3) rfl [.int .i64 x.trace, .int .i64 x.stamp, .bool x.keep] hw2 hin2 rowIVerdict (fun K hK => ?_)
      simp only [Act.put, List.setIfInBounds_toArray, List.set_cons_zero, List.set_cons_succ]
      refine hK _ ?_
      clear hK K
      refine q_take (by kernel_rfl) (fun K hK => ?_)
      go_simp
      refine hK _ ?_
      clear hK K
      refine wq_nil ?_
      intro _ hw9
      obtain ⟨⟨dq, osq⟩, hw9'⟩ := hw9
      subst hw9'
      have hHeld := below_regrown wr dq osq
      generalize Go.Sort.grow (redrawn wr dq) osq = wq at *
      clear hin hin2
      go_wp2
      go_roundw
      case rel => exact ⟨k + 1, by omega, by go_num, hbl.trans (hHeld.mono hbl.size)⟩
      case measure => simp [intOf]; omega
    · have hki : ¬ (k : Int) < (l.length : Int) := by omega
      go_wp2
      go_ret
      exact ⟨rfl, hbl⟩
set_option maxHeartbeats 1000000 in
theorem lawSameInts2 (l : List Int) (S S' : Nat → Prop) (v v' : Value) (w : World) (ha : LAt 1 intR w S v l) (hb : LAt 1 intR w S' v' l) :
    Calls Try.prog 45 #[v, v'] w fun e w' => e = .returned (.bool true) ∧ Below w.heap.size w w' := by
  obtain ⟨a, cap, rfl⟩ := ha.form
  obtain ⟨a', cap', rfl⟩ := hb.form
  have hl := ha.len
  have HA := hide ha
  have HB := hide hb
  clear ha hb
  go_enter Try.func45, Try.ntmps45
  go_wp2
  go_loopw [5] (fun i wk => ∃ k : Nat, k ≤ l.length ∧ i = .int .i64 k ∧ Below w.heap.size w wk) (fun i _ => l.length - (intOf i).toNat)
  case atStart => exact ⟨0, Nat.zero_le _, rfl, Below.refl _ _⟩
  case round =>
    obtain ⟨k, hk, rfl, hbl⟩ := hrel
    by_cases hlt : k < l.length
    · obtain ⟨b, o, cs, rfl, hbk, hSb, hcs, hin⟩ := (unhide HA).at k hlt
      obtain ⟨b', o', cs2, rfl, hbk', hSb', hcs2, hin2⟩ := (unhide HB).at k hlt
      generalize l[k] = x at *
      obtain rfl : cs = _ := hcs
      obtain rfl : cs2 = _ := hcs2
      have c0 : wr.cell? ⟨b, o + k, none⟩ = some (.int .i64 x) := by rw [hbl.cell hbk]; have := hin 0 _ rfl; simpa using this
      have d0 : wr.cell? ⟨b', o' + k, none⟩ = some (.int .i64 x) := by rw [hbl.cell hbk']; have := hin2 0 _ rfl; simpa using this
      clear hin hin2
      have hki : (k : Int) < (l.length : Int) := by omega
      go_wp2_with fail
      go_quiet (fail)
      go_wp2
      go_roundw
      case rel => exact ⟨k + 1, by omega, by go_num, (by (repeat (first | with_reducible assumption | with_reducible exact Below.refl _ _ | with_reducible refine Below.drew ?_ | with_reducible refine bdrewN ?_ _ | (with_reducible refine Below.alloc ?_ ?side _; case side => (first | omega | (simp [go_sem]; done) | (simp [go_sem]; omega))) | (with_reducible refine Below.setCell ?_ ?side _; case side => (first | omega | (simp [go_sem]; done) | (simp [go_sem]; omega))))))⟩
      case measure => simp [intOf]; omega
    · have hki : ¬ (k : Int) < (l.length : Int) := by omega
      go_wp2
      go_ret
      exact ⟨rfl, hbl⟩
end Go.Proofs.Ytjhlammjnggghaa
