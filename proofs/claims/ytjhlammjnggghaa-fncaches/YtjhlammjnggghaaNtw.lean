/-
  slices.Sorted(slices.Values(l)) at a row of ints; whether one of them comes twice.
-/
import Derived.RangeFuncNested
import Derived.RangeFuncBox
import Derived.RangeFuncLeaves
import Derived.Shelf.Abstract
import Derived.WalkKit
import Derived.OwnWalkIn
import Derived.TacticsInMore
import Derived.LoopNIn
import Derived.LoopIn
import Derived.Maps.AppendAt
import Derived.Shelf.SlicesG.CompactI
import Derived.Test.YtjhlammjnggghaaTInt
import Derived.Test.YtjhlammjnggghaaSrt1
import Derived.Test.YtjhlammjnggghaaOnce0
import Derived.Test.YtjhlammjnggghaaLayCmp
namespace Go.Proofs.Ytjhlammjnggghaa
open Go.ChangeShapes Go.WideShapes Go.ChangeAt Go.RowKit Go.Sort Go.Shelf
set_option linter.unusedVariables false
set_option maxRecDepth 100000

theorem zshrink {base : Nat} {t : TypeId} {w : World} {g n m cap : Nat} {ys : List Int} (h : w.ownsRow base t 1 (.slice (some ⟨g, 0, none⟩) n cap) n (cellsI2 ys)) (hm : m ≤ n) : w.ownsRow base t 1 (.slice (some ⟨g, 0, none⟩) m cap) m (cellsI2 (ys.take m)) := by
  obtain ⟨h1, h2⟩ := h
  rw [zlen, Nat.mul_one] at h1
  refine ⟨by rw [zlen, List.length_take]; omega, ?_⟩
  rcases h2 with ⟨h2, _⟩ | ⟨g', cap', cur, hv, hb, hh, hn, hc, hs, ht⟩
  · cases h2
  injection hv with e1 e2 e3
  rw [Option.some.injEq, Addr.mk.injEq] at e1
  obtain ⟨rfl, _, _⟩ := e1
  subst e3
  refine .inr ⟨g, cap, cur, rfl, hb, hh, by omega, hc, hs, ?_⟩
  rw [← ztake, ← ht, List.take_take]
  congr 1
  omega
theorem implCompact {base : Nat} (w : World) (g cap : Nat) (zs : List Int) (h : w.ownsRow base 3 1 (.slice (some ⟨g, 0, none⟩) zs.length cap) zs.length (cellsI2 zs)) (hl : zs.length ≤ 16777216) :
    Calls Try.prog 194 #[.slice (some ⟨g, 0, none⟩) zs.length cap] w fun e w' => e = .returned (.slice (some ⟨g, 0, none⟩) (Go.Lib.compact zs).length cap) ∧ w'.ownsRow base 3 1 (.slice (some ⟨g, 0, none⟩) (Go.Lib.compact zs).length cap) (Go.Lib.compact zs).length (cellsI2 (Go.Lib.compact zs)) ∧ Below base w w' := by
  have hg := h.lt g rfl
  have hcl : (Go.Lib.compact zs).length ≤ zs.length := by
    unfold Go.Lib.compact Go.Lib.compactUpTo
    rw [List.length_map]
    refine Nat.le_trans (List.length_filter_le _ _) ?_
    rw [List.length_range]; exact Nat.le_refl _
  have hc := AnyG.slices_Compact_int Try.layCmp g 0 cap zs w (zrow_holds h) (by omega) (zcap h).1
  change Calls Try.prog 194 _ _ _ at hc
  refine hc.mono ?_
  rintro e w' ⟨rfl, q, hw⟩
  have hw2 : w' = grow (putRow (Value.int .i64) (Sort.ahead w q) g 0 (Go.Lib.compact zs ++ List.replicate (zs.length - (Go.Lib.compact zs).length) 0).toArray) #[] := by rw [hw, grow_empty]
  have hr := zrow_end (m := q) (os := #[]) (ys := Go.Lib.compact zs ++ List.replicate (zs.length - (Go.Lib.compact zs).length) 0) h (by simp; omega)
  rw [← hw2] at hr
  have hr2 := zshrink hr hcl
  rw [List.take_append_of_le_length (Nat.le_refl _), List.take_length] at hr2
  refine ⟨rfl, hr2, ?_⟩
  rw [hw2]
  exact zrow_below hg.1 hg.2
theorem row_lower {W : World} {m n size k : Nat} {e : TypeId} {v : Value} {xs : List Value} (h : W.ownsRow m e size v k xs) (hn : n ≤ m) : W.ownsRow n e size v k xs := by
  obtain ⟨h1, h2⟩ := h
  refine ⟨h1, ?_⟩
  rcases h2 with h2 | ⟨g, cap, cur, e1, hb, r⟩
  · exact .inl h2
  · exact .inr ⟨g, cap, cur, e1, Nat.le_trans hn hb, r⟩
section
attribute [local go_sem] Oper.semAt_some
set_option maxRecDepth 100000 in
set_option maxHeartbeats 2000000 in
theorem vals1_in (F : Fence) (n : Nat) (hf : F.fn 228) (hro : F.round = none) (hn : 1 ≤ n) (l Bs : Nat) (w0 : World) (S : Nat → Prop) (sv : Value) (zs : List Int) (hA : LAt 1 intR w0 S sv zs) (J Jx : List Int → World → Prop)
    (hY : ∀ pre x W, J pre W → pre.length < zs.length → YieldAt F (n - 1) Try.prog l #[.int .i64 x] W fun e W' =>
      (e = .returned (.bool true) ∧ J (pre ++ [x]) W' ∧ Below w0.heap.size W W') ∨ (e = .returned (.bool false) ∧ Jx (pre ++ [x]) W'))
    (W : World) (hW : Below w0.heap.size w0 W) (hBs : W.cell? ⟨Bs, 0, none⟩ = some sv) (h0 : J [] W) :
    CallsIn F n Try.prog 228 #[.func (.yield l) #[] #[], .pointer (some ⟨Bs, 0, none⟩)] W fun e W' => (∃ v, e = .returned v) ∧
      ((∃ ys, ys = zs ∧ J ys W') ∨ (∃ pre, pre <+: zs ∧ Jx pre W')) := by
  obtain ⟨a, cap, rfl⟩ := hA.form
  have hl := hA.len
  have HA := hide hA
  clear hA
  refine callsIn_of_wp Try.func228 rfl hf ?_ hro
  simp only [Try.ntmps228, List.size_toArray, List.length_cons, List.length_nil, Nat.reduceAdd, Nat.reduceSub, Array.replicate_succ, Array.replicate_zero, List.push_toArray, List.append_toArray, List.nil_append, List.cons_append]
  gi_wp2
  gi_loopw [7] (fun i wr => ∃ k : Nat, k ≤ zs.length ∧ i = .int .i64 k ∧ J (zs.take k) wr ∧ Below w0.heap.size w0 wr) (fun i _ => zs.length - (intOf i).toNat)
  case atStart => exact ⟨0, Nat.zero_le _, rfl, by simpa using h0, hW⟩
  case round =>
    obtain ⟨k, hk, rfl, hJs, hnx⟩ := hrel
    by_cases hlt : k < zs.length
    · have hki : (k : Int) < (zs.length : Int) := by omega
      obtain ⟨b, o, cs, rfl, hbk, hSb, hcs, hin⟩ := (unhide HA).at k hlt
      have hin := hin.turn hbk (Below.turn hnx) (fun e => e)
      have HT := hide (List.take_succ_eq_append_getElem hlt)
      have hpl : (zs.take k).length < zs.length := by rw [List.length_take]; omega
      generalize hX : zs[k] = X at *
      obtain rfl : cs = _ := hcs
      have c0 : wr.cell? ⟨b, o + k, none⟩ = some (.int .i64 X) := by have := hin 0 _ rfl; simpa using this
      obtain ⟨fn, tmps, assign, body, hy, hR⟩ := hY _ X _ hJs hpl
      clear hin hX
      gi_wp2
      refine hR.mono ?_
      rintro e W3 (⟨rfl, hJ3, hk3⟩ | ⟨rfl, hJx3⟩)
      · gi_wp2
        go_roundw
        case rel => exact ⟨k + 1, by omega, by simp, by rw [unhide HT]; exact hJ3, hnx.trans hk3⟩
        case measure => simp [intOf]; omega
      · gi_wp2
        refine bodyPost_ret (results_none rfl _ _ _) rfl ?_
        exact ⟨⟨_, rfl⟩, .inr ⟨_, by rw [← unhide HT]; exact List.take_prefix _ _, hJx3⟩⟩
    · have hki : ¬ (k : Int) < (zs.length : Int) := by omega
      obtain rfl : k = zs.length := by omega
      rw [List.take_length] at hJs
      gi_wp2
      go_end0
      exact ⟨⟨_, rfl⟩, .inl (by first | exact hJs | exact ⟨_, rfl, hJs⟩)⟩
set_option maxHeartbeats 1000000 in
theorem vals_in (F : Fence) (n : Nat) (hf : F.fn 193) (hro : F.round = none) (sv : Value) (a : Option Addr) (len cap : Nat) (hsv : sv = .slice a len cap) (w : World) :
    CallsIn F n Try.prog 193 #[sv] w fun e w' => e = .returned (.func (.func 228) #[] #[.pointer (some ⟨w.heap.size, 0, none⟩)]) ∧ w' = w.alloc (.cells #[sv] 72) := by
  subst hsv
  refine callsIn_of_wp Try.func193 rfl hf ?_ hro
  simp only [Try.ntmps193, List.size_toArray, List.length_cons, List.length_nil, Nat.reduceAdd, Nat.reduceSub, Array.replicate_succ, Array.replicate_zero, List.push_toArray, List.append_toArray, List.nil_append, List.cons_append]
  gi_wp2
  go_ret
  exact ⟨rfl, rfl⟩
theorem vals_stops (F : Fence) (n : Nat) (hf : F.fn 228) (hro : F.round = none) (hn : 1 ≤ n) (Bs : Nat) (w0 : World) (S : Nat → Prop) (sv : Value) (zs : List Int) (hA : LAt 1 intR w0 S sv zs) (w : World) (hw0 : Below w0.heap.size w0 w) (hBs : Bs < w.heap.size) (hc : w.cell? ⟨Bs, 0, none⟩ = some sv) :
    SeqStopsK F n Try.prog 228 #[.pointer (some ⟨Bs, 0, none⟩)] (fun x : Int => #[Value.int .i64 x]) (Below w0.heap.size) (fun ys => ys = zs) (fun pre => pre <+: zs) zs.length w := fun l J Jx W hW hJ _ hY h0 =>
  vals1_in F n hf hro hn l Bs w0 S sv zs hA J Jx hY W (hw0.trans (hW.mono hw0.size)) ((hW.cell (p := ⟨Bs, 0, none⟩) hBs).trans hc) h0
set_option maxRecDepth 100000 in
set_option maxHeartbeats 2000000 in
theorem appSeq_in (F : Fence) (n : Nat) (h3 : F.fn 247) (h5 : F.fn 228) (hro : F.round = none) (hn : 3 ≤ n) (Bs n0 : Nat) (zs : List Int) (hlen : zs.length ≤ 1048576) (w : World) (hn0 : n0 ≤ w.heap.size)
    (hseq : SeqStopsK F (n - 1) Try.prog 228 #[.pointer (some ⟨Bs, 0, none⟩)] (fun x : Int => #[Value.int .i64 x]) (Below n0) (fun ys => ys = zs) (fun pre => pre <+: zs) zs.length w) :
    CallsIn F n Try.prog 247 #[.slice none 0 0, .func (.func 228) #[] #[.pointer (some ⟨Bs, 0, none⟩)]] w fun e W' => ∃ v, e = .returned v ∧ W'.ownsRow w.heap.size 3 1 v zs.length (cellsI2 zs) ∧ Below w.heap.size w W' := by
  have h1 : 1 ≤ n := by omega
  have hml : (1048577 : Nat) ≤ maxLen := by unfold maxLen; omega
  obtain ⟨i0, hi, hz0, hz1, hz2⟩ := info_parts infoI2
  refine callsIn_of_wp_marks Try.func247 rfl h3 ?_ hro
  simp only [Try.ntmps247, List.size_toArray, List.length_cons, List.length_nil, Nat.reduceAdd, Nat.reduceSub, Array.replicate_succ, Array.replicate_zero, List.push_toArray, List.append_toArray, List.nil_append, List.cons_append]
  gi_wp2
  have bO := Boxed.new w 72 (.slice none 0 0)
  have hB0 : Below w.heap.size w (w.alloc (.cells #[.slice none 0 0] 72)) := bnew w _
  refine wpIn_rangeFunc_ownG hro h1 (gf := 228) (lb := #[.pointer (some ⟨Bs, 0, none⟩)]) rfl h5 (enters_of Try.func228 (by kernel_rfl) rfl)
    hseq belowK_t (belowK_b (by simp; omega)) hB0 (fun _ => rfl)
    (fun pre W => (∃ v, Boxed W w.heap.size 72 v ∧ W.ownsRow w.heap.size 3 1 v pre.length (cellsI2 pre) ∧ True) ∧ Below w.heap.size w W)
    (fun _ _ _ => False)
    (OwnFrom.and (Own.from (holdsRow_own w.heap.size w.heap.size 72 3 1 (fun pre => pre.length) (fun pre => cellsI2 pre) (fun _ _ => True)) _) (ownFrom_below (Nat.le_refl _) (by simp)))
    (fun _ _ _ _ _ hs _ _ => hs)
    ⟨⟨_, bO, World.ownsRow_nil _ _ _ _, trivial⟩, hB0⟩
    (fun x => { tmps := #[.slice none 0 0, .func (.func 228) #[] #[.pointer (some ⟨Bs, 0, none⟩)], .pointer (some ⟨w.heap.size, 0, none⟩), undef, .slice none 0 0, .int .i64 x, .func (.func 228) #[] #[.pointer (some ⟨Bs, 0, none⟩)], .int .i64 x, undef, undef, undef, undef, undef], defers := [] }) ?assign ?body ?done ?stop
  case assign =>
    intro l x W K hK
    gi_wp2
    exact hK
  case body =>
    rintro l pre x W ⟨⟨v, hv, hrow, _⟩, hB⟩ hlt
    have hc := hv.cell
    gi_wp2_with (gi_at_builtin; refine wpListIn_append_own _ rfl _ _ 72 rfl w.heap.size 3 i0 (.int .i64 0) 1 8 Try.underlying72 hi hz0 hz1 hz2 rfl (by decide) _ _ _ rfl (hrow.alloc _) ⟨W.heap.size, 0, none⟩ 1 1 [.int .i64 x] rfl rfl (cell_one_new _ _ _) (by simp [Value.oneCell']) (by omega) (by omega) (by have := hB.size; simp; omega) ?_; intro v' w1 hown' hgrow _; obtain ⟨g', cap', rfl⟩ := ownsRow_succ hown'; obtain ⟨hv1, hv2, hr2, hk2, hb2⟩ := hv.appended (by decide) hrow hB.size (Nat.le_refl _) hown' hgrow; have hc1 := hv1.cell; have hf1 := hv1.frozen)
    exact ⟨hk2.from _, hb2.mono hn0, ⟨_, hv2, by rw [cellsI2_snoc]; simpa using hr2, trivial⟩, hB.trans hb2⟩
  case done =>
    rintro D ys W hD rfl ⟨⟨v, hv, hrow, _⟩, hB⟩ hK
    have hc := hv.cell
    gi_wp2
    refine ⟨by simp, .inl ⟨_, _, rfl, run_takeDeferred hK, ?_⟩⟩
    exact ⟨_, results_tmp rfl _ _ _, v, rfl, ownsRow_putObj hrow _ hK rfl, hB.trans (belowK_b (w := w) (Nat.le_refl _) W D _ _ (by simp at hD; omega) hK rfl rfl)⟩
  case stop =>
    rintro D c pre W _ _ h _
    exact h.elim
set_option maxHeartbeats 1000000 in
theorem collect_in (F : Fence) (n : Nat) (h2 : F.fn 226) (h3 : F.fn 247) (h5 : F.fn 228) (hro : F.round = none) (hn : 4 ≤ n) (Bs n0 : Nat) (zs : List Int) (hlen : zs.length ≤ 1048576) (w : World) (hn0 : n0 ≤ w.heap.size)
    (hseq : SeqStopsK F (n - 1 - 1) Try.prog 228 #[.pointer (some ⟨Bs, 0, none⟩)] (fun x : Int => #[Value.int .i64 x]) (Below n0) (fun ys => ys = zs) (fun pre => pre <+: zs) zs.length w) :
    CallsIn F n Try.prog 226 #[.func (.func 228) #[] #[.pointer (some ⟨Bs, 0, none⟩)]] w fun e W' => ∃ v, e = .returned v ∧ W'.ownsRow w.heap.size 3 1 v zs.length (cellsI2 zs) ∧ Below w.heap.size w W' := by
  have h1 : 1 ≤ n := by omega
  refine callsIn_of_wp Try.func226 rfl h2 ?_ hro
  simp only [Try.ntmps226, List.size_toArray, List.length_cons, List.length_nil, Nat.reduceAdd, Nat.reduceSub, Array.replicate_succ, Array.replicate_zero, List.push_toArray, List.append_toArray, List.nil_append, List.cons_append]
  gi_wp2_with (gi_at_call 247; refine (appSeq_in F (n - 1) h3 h5 hro (by omega) Bs n0 zs hlen _ hn0 hseq).mono ?_; rintro e w' ⟨v, rfl, hrow, hb⟩)
  go_ret
  exact ⟨v, rfl, hrow, hb⟩
end
set_option maxHeartbeats 1000000 in
theorem sorted_in (n : Nat) (hn : 5 ≤ n) (Bs n0 : Nat) (zs : List Int) (hlen : zs.length ≤ 1048576) (w : World) (hn0 : n0 ≤ w.heap.size)
    (hseq : SeqStopsK Fence.wide (n - 1 - 1 - 1) Try.prog 228 #[.pointer (some ⟨Bs, 0, none⟩)] (fun x : Int => #[Value.int .i64 x]) (Below n0) (fun ys => ys = zs) (fun pre => pre <+: zs) zs.length w) :
    CallsIn Fence.wide n Try.prog 192 #[.func (.func 228) #[] #[.pointer (some ⟨Bs, 0, none⟩)]] w fun e W' => ∃ v, e = .returned v ∧ W'.ownsRow w.heap.size 3 1 v zs.length (cellsI2 (sortZ zs)) ∧ Below w.heap.size w W' := by
  have h1 : 1 ≤ n := by omega
  have hfC : Fence.wide.fn 226 := trivial
  have hfS : Fence.wide.fn 227 := trivial
  refine callsIn_of_wp Try.func192 rfl trivial ?_ rfl
  simp only [Try.ntmps192, List.size_toArray, List.length_cons, List.length_nil, Nat.reduceAdd, Nat.reduceSub, Array.replicate_succ, Array.replicate_zero, List.push_toArray, List.append_toArray, List.nil_append, List.cons_append]
  gi_wp2_with (gi_at_call 226; refine (collect_in Fence.wide (n - 1) hfC trivial trivial rfl (by omega) Bs n0 zs hlen _ hn0 hseq).mono ?_; rintro e W ⟨v, rfl, hrow, hb⟩)
  rcases hrow.2 with ⟨rfl, hz⟩ | ⟨gb, cap, cur, rfl, hbase, hgb, r1, r2, r3, r4⟩
  · obtain rfl : zs = [] := List.eq_nil_of_length_eq_zero hz
    have cN : CallsIn Fence.wide (n - 1) Try.prog 227 #[.slice none 0 0] W fun e w' => e = .returned (.tuple #[]) ∧ w' = W := callsIn_wide.2 (AnyM.slices_Sort_int_none Try.laySort none 0 W)
    gi_wp2_with (gi_at_call 227; refine cN.mono ?_; rintro e w' ⟨rfl, rfl⟩)
    go_ret
    exact ⟨.slice none 0 0, rfl, by simpa [sortZ] using hrow, hb⟩
  · have cS : CallsIn Fence.wide (n - 1) Try.prog 227 #[.slice (some ⟨gb, 0, none⟩) zs.length cap] W fun e w' => e = .returned (.tuple #[]) ∧ w'.ownsRow w.heap.size 3 1 (.slice (some ⟨gb, 0, none⟩) zs.length cap) zs.length (cellsI2 (sortZ zs)) ∧ Below w.heap.size W w' := callsIn_wide.2 (implSort W gb cap zs hrow (by omega))
    gi_wp2_with (gi_at_call 227; refine cS.mono ?_; rintro e w' ⟨rfl, hr2, hb2⟩)
    go_ret
    exact ⟨_, rfl, hr2, hb.trans hb2⟩
set_option maxHeartbeats 2000000 in
theorem implNoneTwice (zs : List Int) (S : Nat → Prop) (v : Value) (w : World) (h : LAt 1 intR w S v zs) (hl : zs.length ≤ 1048576) :
    Calls Try.prog 132 #[v] w fun e w' => e = .returned (.bool (decide zs.Nodup)) ∧ Below w.heap.size w w' := by
  obtain ⟨a, cap, rfl⟩ := h.form
  have hlc := (sortZ_srt zs).len
  have hseq := vals_stops Fence.wide 17 trivial rfl (by omega) w.heap.size w S _ zs h (w.alloc (.cells #[.slice a zs.length cap] 72)) (bnew w _) (by simp) (Boxed.new w 72 (.slice a zs.length cap)).cell
  have cS := sorted_in 20 (by omega) w.heap.size w.heap.size zs hl _ (by simp) hseq
  have cV := callsIn_wide.1 (vals_in Fence.wide 20 trivial rfl (.slice a zs.length cap) a zs.length cap rfl w)
  have cS := callsIn_wide.1 cS
  have HS := hide cS
  have HV := hide cV
  have hon := once_nodup zs
  clear h hseq cS cV
  go_enter Try.func132, Try.ntmps132
  go_wp2_with fail
  refine (unhide HV).mono ?_
  rintro e w1 ⟨rfl, rfl⟩
  go_wp2_with fail
  refine (unhide HS).mono ?_
  rintro e w2 ⟨v2, rfl, hrow, hb2⟩
  have B2 := (bnew w (.cells #[.slice a zs.length cap] 72)).trans (hb2.mono (by simp))
  have hrow := row_lower hrow (by simp : w.heap.size ≤ _)
  clear hb2
  rcases hrow.2 with ⟨rfl, hz⟩ | ⟨gb, cap2, cur, rfl, hbase, hgb, r1, r2, r3, r4⟩
  · obtain rfl : zs = [] := List.eq_nil_of_length_eq_zero hz
    go_wp2_with fail
    refine (AnyG.slices_Compact_int_empty Try.layCmp none 0 w2).mono ?_
    rintro e w3 ⟨rfl, rfl⟩
    go_wp2
    go_ret
    exact ⟨by simp, B2⟩
  · have hc := implCompact w2 gb cap2 (sortZ zs) (by rw [hlc]; exact hrow) (by omega)
    rw [hlc] at hc
    go_wp2_with fail
    refine hc.mono ?_
    rintro e w3 ⟨rfl, _, hb3⟩
    have B3 := B2.trans hb3
    clear hc hrow hgb r1 r2 r3 r4 hb3 B2
    by_cases hn : zs.Nodup
    · have hq : ((Go.Lib.compact (sortZ zs)).length : Int) = (zs.length : Int) := by rw [hon.2 hn]
      go_wp2
      go_ret
      exact ⟨by simp [hn], B3⟩
    · have hq : ((Go.Lib.compact (sortZ zs)).length : Int) ≠ (zs.length : Int) := fun e => hn (hon.1 (by omega))
      go_wp2
      go_ret
      exact ⟨by simp only [hn, decide_false]; exact ret_bool (by simpa using hq), B3⟩
end Go.Proofs.Ytjhlammjnggghaa
