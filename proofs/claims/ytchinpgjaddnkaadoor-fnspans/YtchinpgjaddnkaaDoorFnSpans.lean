/-
  Proved (the card): FnSpans answers true at every input (any drawn bytes): of drawn things, which may be, and how large, is as the document has it, and sizes add up; the library's tables stand as its text lays them.
-/
import Derived.Test.YtchinpgjaddnkaaDoorRows
import Derived.Test.YtchinpgjaddnkaaDoorTie
import Derived.Test.YtchinpgjaddnkaaDoorCards
import Derived.Test.YtchinpgjaddnkaaDoorDrH
import Derived.Test.YtchinpgjaddnkaaDoorSpaA
import Derived.Test.YtchinpgjaddnkaaDoorSeenA
import Derived.Test.YtchinpgjaddnkaaDoorQLoad
import Derived.WalkKit
import Derived.ProofKit
import Derived.OpenShut
import Derived.Deep.DeepHandedRow
import Derived.Lib.LaidTab
import Derived.LaidSub
namespace Go.Proofs.YtchinpgjaddnkaaDoor.fnSpans
open Go.ChangeShapes Go.WideShapes Go.ChangeAt Go.RowKit
open Go.ChangeMaps (open_string shut_string)
set_option linter.unusedVariables false
set_option maxRecDepth 100000

theorem gTab : Tryd.prog.globalNamed "internal/strconv.uint64pow10" = some 1 := by kernel_rfl
theorem gTabType : (Tryd.prog.globals[1]?).map (·.type) = some 102 := by kernel_rfl
theorem cellsTab : Tryd.prog.cellsOf 102 = 20 := by kernel_rfl
theorem cellsEl : Tryd.prog.cellsOf 96 = 1 := by kernel_rfl
theorem laidOut : laidOutB Tryd.prog = true := by kernel_rfl
theorem isTab : (Rows.laid_internal_strconv_uint64pow10 : DataW Unit) = Lib.tabData .u64 Lib.pow10Tab := by kernel_rfl
/-- What the row's list gives: the table of powers of ten. -/
theorem table {W : World} (h : laidMetH Tryd.prog Rows.fnSpansRow.laid W) : Lib.TabIs Tryd.prog W "internal/strconv.uint64pow10" .u64 Lib.pow10Tab := by
  have h1 := h.filter (fun x => x.1 == "internal/strconv.uint64pow10")
  have e : Rows.fnSpansRow.laid.filter (fun x => x.1 == "internal/strconv.uint64pow10") = [("internal/strconv.uint64pow10", Lib.tabData .u64 Lib.pow10Tab)] := by
    rw [← isTab]; kernel_rfl
  rw [e] at h1
  exact Lib.tabIs_of_head (rest := []) gTab gTabType Tryd.underlying102 Tryd.underlying96 cellsEl cellsTab h1
def IsRow (k : IntKind) (w : World) (a : Option Addr) (len cap : Nat) (zs : List Int) : Prop :=
  (a = none ∧ len = 0 ∧ cap = 0 ∧ zs = []) ∨
  ∃ x, a = some x ∧ len ≤ cap ∧ cap ≤ maxLen ∧ zs.length = cap ∧ (∀ i, i < zs.length → w.cell? (x.add i) = some (.int k (zs.getD i 0))) ∧ ∀ n ∈ zs, (Lit.int k n).wf = true

theorem ne_empty {t : ByteArray} (h : 0 < t.size) : t.toList.isEmpty = false := by
  rw [ByteArray.toList_eq]
  cases hh : t.data.toList with
  | nil =>
    have e : t.data.size = 0 := by rw [← Array.length_toList, hh]; rfl
    have e2 : t.size = t.data.size := rfl
    omega
  | cons a r => rfl
theorem tiny_small {x : SpanD} (h : TinyS x) : x.2.2.2.2.2.length ≤ 1048576 ∧ bytesA x.2.2.2.2.2 ≤ 1048576 := by
  have h1 := tiny_span h
  have h2 := bulk_span x
  omega
/-- Two boxes, filled one behind the other. -/
theorem two_boxes (w : World) (o o2 : Obj) (cs ct : List Value) (hA : WrAt ((w.alloc o).alloc o2) w.heap.size 0 cs.length) (hB : WrAt ((w.alloc o).alloc o2) (w.heap.size + 1) 0 ct.length) :
    WrAt (putL w.heap.size 0 cs 0 ((w.alloc o).alloc o2)) (w.heap.size + 1) 0 ct.length ∧
    Below w.heap.size w (putL (w.heap.size + 1) 0 ct 0 (putL w.heap.size 0 cs 0 ((w.alloc o).alloc o2))) ∧
    Held (putL (w.heap.size + 1) 0 ct 0 (putL w.heap.size 0 cs 0 ((w.alloc o).alloc o2))) w.heap.size cs ∧
    Held (putL (w.heap.size + 1) 0 ct 0 (putL w.heap.size 0 cs 0 ((w.alloc o).alloc o2))) (w.heap.size + 1) ct := by
  have t1 := putL_turn w.heap.size 0 cs 0 ((w.alloc o).alloc o2)
  have t2 := putL_turn (w.heap.size + 1) 0 ct 0 (putL w.heap.size 0 cs 0 ((w.alloc o).alloc o2))
  have i1 := putL_at (b := w.heap.size) (o := 0) cs 0 hA (by omega) (by omega)
  have hB1 := putL_wr (b := w.heap.size) (o := 0) cs 0 hB
  have i2 := putL_at (b := w.heap.size + 1) (o := 0) ct 0 hB1 (by omega) (by omega)
  have b1 := bthen (bnew w o) (bnew (w.alloc o) o2)
  have hsz : ((w.alloc o).alloc o2).heap.size = w.heap.size + 2 := by simp
  have s1 := t1.size
  have s2 := t2.size
  have B2 := b1.trans (t1.belowFrom (by omega : w.heap.size ≤ ((w.alloc o).alloc o2).heap.size) (fun q e => by omega))
  have B3 := B2.trans (t2.belowFrom (by omega) (fun q e => by omega))
  have h1 : Held (putL w.heap.size 0 cs 0 ((w.alloc o).alloc o2)) w.heap.size cs := ⟨by omega, fun i v hv => by have := i1 i v hv; simp only [Nat.zero_add] at this; exact this⟩
  exact ⟨hB1, B3, h1.turn t2 (fun e => by omega), ⟨by omega, fun i v hv => by have := i2 i v hv; simp only [Nat.zero_add] at this; exact this⟩⟩
set_option maxHeartbeats 4000000 in
theorem walk (a0 : Option Addr) (len0 cap0 : Nat) (z0 : List Int) (w : World) (htab : Lib.TabIs Tryd.prog w "internal/strconv.uint64pow10" .u64 Lib.pow10Tab) (w0 : IsRow .u8 w a0 len0 cap0 z0) :
    Calls Tryd.prog 3 #[.slice a0 len0 cap0] w fun e w' => e = .returned (.bool true) ∧ Below w.heap.size w w' := by
  have hy : Bytes w a0 len0 := bytes_of_row w0
  by_cases hbig : 1048576 < len0
  · have hbig' : (1048576 : Int) < (len0 : Int) := by omega
    go_enter Tryd.func3, Tryd.ntmps3
    go_wp2_with (go_at_call 4; refine (big_any _ _ _ _).mono ?_; rintro e w' ⟨rfl, rfl⟩)
    go_ret
    exact ⟨rfl, Below.refl _ _⟩
  have hbig' : decide ((1048576 : Int) < (len0 : Int)) = false := decide_eq_false (by omega)
  have hl0 : len0 ≤ 1048576 := by omega
  go_enter Tryd.func3, Tryd.ntmps3
  go_wp2_with fail
  refine (big_any _ _ _ _).mono ?_
  rintro e w' ⟨rfl, hw'⟩
  obtain rfl := hw'
  go_wp2_with fail
  refine (DrawSpanOk_any a0 len0 cap0 w hl0 hy).mono ?_
  rintro e w1 ⟨⟨cs1, x, rfl, hso, hts⟩, hb1⟩
  have hsm := tiny_small hts
  obtain ⟨sv, rfl, lo⟩ := hso
  obtain ⟨p1, c1, hsv⟩ := lo.form
  subst hsv
  have ha1 : AttrsAt w1 (.slice p1 x.2.2.2.2.2.length c1) x.2.2.2.2.2 := attrs_old (lo.read attrR_widens (fun _ _ _ _ h => h))
  clear lo hts
  obtain ⟨tr1, id1, st1, en1, er1, al1⟩ := x
  obtain ⟨hn1, hm1⟩ := hsm
  simp only at hn1 hm1 ha1
  have hy1 := hy.keep hb1
  have bn := bnew w1 (.cells #[.int .i64 tr1, .int .i64 id1, .int .i64 st1, .int .i64 en1, .bool er1, .slice p1 al1.length c1] 26)
  have P1 := Held.new w1 [.int .i64 tr1, .int .i64 id1, .int .i64 st1, .int .i64 en1, .bool er1, .slice p1 al1.length c1] 26
  have hy2 := hy1.keep bn
  have B2 := bthen hb1 bn
  have HA2 := hide (ha1.keep bn)
  clear hy hb1 hy1 bn ha1
  go_upto_region 4 with (first | (refine wpl_store_new rfl _ _ _ rfl _ [.int .i64 tr1, .int .i64 id1, .int .i64 st1, .int .i64 en1, .bool er1, .slice p1 al1.length c1] rfl rfl ?_ one_span rowISpan ?_; rfl))
  generalize w1.heap.size = s1 at *
  generalize World.alloc w1 _ = w2 at *
  go_wp2_with fail
  refine (DrawSameSpan_any a0 len0 cap0 w2 hl0 hy2).mono ?_
  rintro e w3 ⟨⟨cs2, x2, cs3, x3, rfl, hr2, ht2, hr3, ht3⟩, hb3⟩
  have hsm2 := tiny_small ht2
  have hsm3 := tiny_small ht3
  obtain ⟨sv2, rfl, lo2⟩ := hr2
  obtain ⟨p2, c2, hsv⟩ := lo2.form
  subst hsv
  obtain ⟨sv3, rfl, lo3⟩ := hr3
  obtain ⟨p3, c3, hsv⟩ := lo3.form
  subst hsv
  have ha2 := attrs_old lo2
  have ha3 := attrs_old lo3
  clear lo2 lo3 ht2 ht3
  obtain ⟨tr2, id2, st2, en2, er2, al2⟩ := x2
  obtain ⟨tr3, id3, st3, en3, er3, al3⟩ := x3
  simp only at hsm2 hsm3 ha2 ha3
  have hwa := (WrAt.new w3 #[.int .i64 0, .int .i64 0, .int .i64 0, .int .i64 0, .bool false, .slice none 0 0] 26 6 rfl).keep (bnew (w3.alloc (.cells #[.int .i64 0, .int .i64 0, .int .i64 0, .int .i64 0, .bool false, .slice none 0 0] 26)) (.cells #[.int .i64 0, .int .i64 0, .int .i64 0, .int .i64 0, .bool false, .slice none 0 0] 26))
  have hwb := WrAt.new (w3.alloc (.cells #[.int .i64 0, .int .i64 0, .int .i64 0, .int .i64 0, .bool false, .slice none 0 0] 26)) #[.int .i64 0, .int .i64 0, .int .i64 0, .int .i64 0, .bool false, .slice none 0 0] 26 6 rfl
  have hr9 : (w3.alloc (.cells #[.int .i64 0, .int .i64 0, .int .i64 0, .int .i64 0, .bool false, .slice none 0 0] 26)).heap.size = w3.heap.size + 1 := by simp
  rw [hr9] at hwb
  obtain ⟨hwb2, bb3, hP2, hP3⟩ := two_boxes w3 _ _ [.int .i64 tr2, .int .i64 id2, .int .i64 st2, .int .i64 en2, .bool er2, .slice p2 al2.length c2] [.int .i64 tr3, .int .i64 id3, .int .i64 st3, .int .i64 en3, .bool er3, .slice p3 al3.length c3] hwa hwb
  clear hwb hr9
  have hy3 := hy2.keep hb3
  have HALL := hide (And.intro (P1.keep hb3) (And.intro (bthen B2 hb3) (And.intro ((unhide HA2).keep hb3) (And.intro bb3 (And.intro hP2 hP3)))))
  clear bb3 hP2 hP3 P1 B2 HA2 hb3 hy2
  go_upto_region 5 with (first | (refine wpl_store_at rfl 26 _ _ rfl w3.heap.size 0 [.int .i64 tr2, .int .i64 id2, .int .i64 st2, .int .i64 en2, .bool er2, .slice p2 al2.length c2] rfl rfl ?_ one_span rowISpan ?_; exact hwa; simp only [Act.put]; clear hwa; generalize putL w3.heap.size 0 [.int .i64 tr2, .int .i64 id2, .int .i64 st2, .int .i64 en2, .bool er2, .slice p2 al2.length c2] 0 _ = w39 at *) | (refine wpl_store_at rfl 26 _ _ rfl (w3.heap.size + 1) 0 [.int .i64 tr3, .int .i64 id3, .int .i64 st3, .int .i64 en3, .bool er3, .slice p3 al3.length c3] rfl rfl ?_ one_span rowISpan ?_; exact hwb2; simp only [Act.put]; clear hwb2; generalize putL (w3.heap.size + 1) 0 [.int .i64 tr3, .int .i64 id3, .int .i64 st3, .int .i64 en3, .bool er3, .slice p3 al3.length c3] 0 _ = w4 at *))
  obtain ⟨P1, B3, HA3, bb3, P2, P3⟩ := unhide HALL
  have B4 := bthen B3 bb3
  have P4 := P1.keep bb3
  have HA4 := hide (HA3.keep bb3)
  have HB4 := hide (And.intro (ha2.keep bb3) (ha3.keep bb3))
  have hy4 := hy3.keep bb3
  clear HALL P1 B3 HA3 bb3 ha2 ha3 hy3
  generalize w3.heap.size = s2 at *
  obtain ⟨s3, hs3⟩ : ∃ s3, s3 = s2 + 1 := ⟨_, rfl⟩
  rw [← hs3] at P3 ⊢
  clear hs3
  go_wp2_with fail
  refine (DrawTotalOf_any a0 len0 cap0 w4 hl0 hy4).mono ?_
  rintro e w5 ⟨⟨v, l, rfl, hlp, hl5, hal, hcl⟩, hb5⟩
  obtain ⟨hsp, g, c, hv, hlc, hcm⟩ := hcl
  subst hv
  have hy5 := hy4.keep hb5
  have P15 := P4.keep hb5
  have P25 := P2.keep hb5
  have P35 := P3.keep hb5
  have B5 := bthen B4 hb5
  have HA5 := hide ((unhide HA4).keep hb5)
  have HB5 := hide (And.intro ((unhide HB4).1.keep hb5) ((unhide HB4).2.keep hb5))
  have HAL := hide hal
  have HSP := hide hsp
  clear P4 P2 P3 B4 HA4 HB4 hb5 hal hsp hy4
  go_wp2_with fail
  refine (at_any a0 len0 cap0 2 (by omega) w5 (by omega) hy5).mono ?_
  rintro e w6 ⟨⟨x, rfl, hx0, hx1⟩, hw6⟩
  obtain rfl := hw6
  clear hy5
  have hK := tmod_lt (x := x) (n := (l.length : Int)) (by omega) (by omega)
  have hmx : maxLen = 9223372036854775807 := rfl
  have hnz : ¬ (l.length : Int) = 0 := by omega
  go_upto_region 7 with fail
  generalize x % (l.length : Int) = KI at *
  obtain ⟨hK0, hK1⟩ := hK
  obtain ⟨KK, rfl⟩ := Int.eq_ofNat_of_zero_le hK0
  have hKn : KK ≤ l.length := by omega
  have hal := unhide HAL
  have hsp := unhide HSP
  have hs1 : SpansAt w5 (.slice (some ⟨g, 0, none⟩) KK c) (l.take KK) := spans_take hsp KK hKn c
  have hs2 : SpansAt w5 (.slice (if c = KK then some ⟨g, 0, none⟩ else some ⟨g, KK * 6, none⟩) (l.length - KK) (c - KK)) (l.drop KK) := by
    have h2 := spans_drop hsp KK hKn c
    by_cases hck : c = KK
    · exact h2.1 _ _ (by omega)
    · rw [if_neg hck]
      rcases Nat.lt_or_ge KK l.length with hlt | hge
      · obtain ⟨b2, o2, e2, h3⟩ := h2.2 hlt
        injection e2 with e2
        injection e2 with e3 e4
        subst e3
        subst e4
        have h4 := h3 (c - KK)
        rw [Nat.zero_add] at h4
        exact h4
      · exact h2.1 _ _ (by omega)
  have hl1 : (l.take KK).length = KK := by rw [List.length_take]; omega
  have hl2 : (l.drop KK).length = l.length - KK := List.length_drop
  have CO := hide (fun wx (hb : Below w5.heap.size w5 wx) => implSpanOk tr1 id1 st1 en1 er1 al1 _ wx ((unhide HA5).keep hb) hn1 hm1)
  have CS := hide (fun wx (hb : Below w5.heap.size w5 wx) => specSpanOk tr1 id1 st1 en1 er1 al1 _ wx ((unhide HA5).keep hb) hn1 hm1)
  have CZ := hide (fun wx (hb : Below w5.heap.size w5 wx) => implSizeOf tr1 id1 st1 en1 er1 al1 _ wx ((unhide HA5).keep hb) hn1 hm1)
  have CZS := hide (fun wx (hb : Below w5.heap.size w5 wx) => specSizeOf tr1 id1 st1 en1 er1 al1 _ wx ((unhide HA5).keep hb) hn1 hm1)
  have CL := hide (fun wx (hb : Below w5.heap.size w5 wx) => implLengthOf tr1 id1 st1 en1 er1 (.slice p1 al1.length c1) ⟨p1, al1.length, c1, rfl⟩ wx)
  have CLS := hide (fun wx (hb : Below w5.heap.size w5 wx) => specLengthOf tr1 id1 st1 en1 er1 (.slice p1 al1.length c1) ⟨p1, al1.length, c1, rfl⟩ wx)
  have CM := hide (fun wx (hb : Below w5.heap.size w5 wx) => implSameSpan tr2 id2 st2 en2 er2 tr3 id3 st3 en3 er3 al2 al3 _ _ wx ((unhide HB5).1.keep hb) ((unhide HB5).2.keep hb))
  have CMS := hide (fun wx (hb : Below w5.heap.size w5 wx) => specSameSpan tr2 id2 st2 en2 er2 tr3 id3 st3 en3 er3 al2 al3 _ _ wx ((unhide HB5).1.keep hb) ((unhide HB5).2.keep hb))
  have CX := hide (fun wx (hb : Below w5.heap.size w5 wx) => implSameSpan tr1 id1 st1 en1 er1 tr1 id1 st1 en1 er1 al1 al1 _ _ wx ((unhide HA5).keep hb) ((unhide HA5).keep hb))
  have CT := hide (fun wx (hb : Below w5.heap.size w5 wx) => implSpanText tr1 id1 st1 en1 er1 al1 _ wx ((unhide HA5).keep hb) hn1 hm1 (htab_keep htab (bthen B5 hb)))
  have CTS := hide (fun wx (hb : Below w5.heap.size w5 wx) => specSpanText tr1 id1 st1 en1 er1 al1 _ wx ((unhide HA5).keep hb) hn1 hm1)
  have CA := hide (fun wx (hb : Below w5.heap.size w5 wx) => implTotalOf l _ wx (hsp.keep hb) (by omega) (bulk_tiny hal (by omega)))
  have CAS := hide (fun wx (hb : Below w5.heap.size w5 wx) => specTotalOf l _ wx (hsp.keep hb) (by omega) (bulk_tiny hal (by omega)))
  have CA1 := hide (fun wx (hb : Below w5.heap.size w5 wx) => implTotalOf (l.take KK) _ wx (hs1.keep hb) (by omega) (bulk_tiny (allS_take hal KK) (by omega)))
  have CA2 := hide (fun wx (hb : Below w5.heap.size w5 wx) => implTotalOf (l.drop KK) _ wx (hs2.keep hb) (by omega) (bulk_tiny (allS_drop hal KK) (by omega)))
  have HXS := sameD_self tr1 id1 st1 en1 er1 al1
  rw [HXS] at CX
  have e1 := totS_lo (l.take KK)
  have e2 := totS_lo (l.drop KK)
  have e3 := totS_hi (l.take KK)
  have e4 := totS_hi (l.drop KK)
  have f1 := bulk_tiny (allS_take hal KK) (by omega)
  have f2 := bulk_tiny (allS_drop hal KK) (by omega)
  rw [hl1] at e3
  rw [hl2] at e4
  have he := totS_parts l KK
  have HWR : Hid (IntKind.i64.wrap (totS (l.take KK) + totS (l.drop KK)) = totS (l.take KK) + totS (l.drop KK)) := hide (by rw [IntKind.wrap_i64]; omega)
  rw [← he] at CA CAS
  have HTN := hide (fun h => spanX_no (x := (tr1, id1, st1, en1, er1, al1)) h)
  have HTY := hide (fun h => spanX_yes (x := (tr1, id1, st1, en1, er1, al1)) h)
  have HSF := hide (fun h => span_facts (tr := tr1) (id := id1) (st := st1) (en := en1) (l := al1) h)
  unfold spanX at HTN HTY
  simp only at HTN HTY
  clear hal hsp hs1 hs2 HAL HSP HA5 HB5 he HXS e1 e2 e3 e4 f1 f2 hl1 hl2 hn1 hm1 hsm2 hsm3 hx0 hx1 hnz
  generalize totS (l.take KK) = E1 at *
  generalize totS (l.drop KK) = E2 at *
  generalize spanB tr1 id1 st1 en1 al1 = K1 at *
  generalize hZZ : sumA al1 = ZZ at *
  clear hZZ
  generalize hLN : subv en1 st1 = LN at *
  clear hLN
  generalize sameD tr2 id2 st2 en2 er2 al2 tr3 id3 st3 en3 er3 al3 = K2 at *
  generalize spanT tr1 id1 st1 en1 er1 al1 = TX at *
  have hlc2 : (l.length : Int) ≤ (c : Int) := by omega
  have hKc : (KK : Int) ≤ (c : Int) := by omega
  have hKn2 : (KK : Int) ≤ (l.length : Int) := by omega
  have hK0 : (0 : Int) ≤ (KK : Int) := by omega
  generalize l.length = n at *
  have mixed : Tryd.prog.follows .mixedOrders = true := by kernel_rfl
  go_cut [64] from 24 to 64 (fun c wc => c = .bool false ∧ Below w5.heap.size w5 wc)
  case first =>
    refine wq_region (by assumption) (by kernel_rfl) ?_
    refine q_load (by kernel_rfl) 26 _ rfl s1 0 rfl _ P15.1 P15.inB rowISpan (fun K hK => ?_)
    simp only [Act.put, List.setIfInBounds_toArray, List.set_cons_zero, List.set_cons_succ]
    refine hK _ ?_
    clear hK K
    refine q_take (by kernel_rfl) (fun K hK => ?_)
    go_simp
    apply Exists.intro
    refine ⟨fun _ => ?_, hK _ ?_⟩
    exact Calls.regrown_of (unhide CO _ (below_regrown _ _ _))
    clear hK K
    refine q_load (by kernel_rfl) 26 _ rfl s1 0 rfl _ P15.1 P15.inB rowISpan (fun K hK => ?_)
    simp only [Act.put, List.setIfInBounds_toArray, List.set_cons_zero, List.set_cons_succ]
    refine hK _ ?_
    clear hK K
    refine q_take (by kernel_rfl) (fun K hK => ?_)
    go_simp
    apply Exists.intro
    refine ⟨fun _ => ?_, hK _ ?_⟩
    exact Calls.regrown_of (unhide CS _ (below_regrown _ _ _))
    clear hK K
    refine q_take (by kernel_rfl) (fun K hK => ?_)
    go_simp
    refine hK _ ?_
    clear hK K
    refine q_take (by kernel_rfl) (fun K hK => ?_)
    go_simp
    refine hK _ ?_
    clear hK K
    refine q_load (by kernel_rfl) 26 _ rfl s1 0 rfl _ P15.1 P15.inB rowISpan (fun K hK => ?_)
    simp only [Act.put, List.setIfInBounds_toArray, List.set_cons_zero, List.set_cons_succ]
    refine hK _ ?_
    clear hK K
    refine q_take (by kernel_rfl) (fun K hK => ?_)
    go_simp
    apply Exists.intro
    refine ⟨fun _ => ?_, hK _ ?_⟩
    exact Calls.regrown_of (unhide CZ _ (below_regrown _ _ _))
    clear hK K
    refine q_load (by kernel_rfl) 26 _ rfl s1 0 rfl _ P15.1 P15.inB rowISpan (fun K hK => ?_)
    simp only [Act.put, List.setIfInBounds_toArray, List.set_cons_zero, List.set_cons_succ]
    refine hK _ ?_
    clear hK K
    refine q_take (by kernel_rfl) (fun K hK => ?_)
    go_simp
    apply Exists.intro
    refine ⟨fun _ => ?_, hK _ ?_⟩
    exact Calls.regrown_of (unhide CZS _ (below_regrown _ _ _))
    clear hK K
    refine q_take (by kernel_rfl) (fun K hK => ?_)
    go_simp
    refine hK _ ?_
    clear hK K
    refine q_take (by kernel_rfl) (fun K hK => ?_)
    go_simp
    refine hK _ ?_
    clear hK K
    refine q_take (by kernel_rfl) (fun K hK => ?_)
    go_simp
    refine hK _ ?_
    clear hK K
    refine q_load (by kernel_rfl) 26 _ rfl s1 0 rfl _ P15.1 P15.inB rowISpan (fun K hK => ?_)
    simp only [Act.put, List.setIfInBounds_toArray, List.set_cons_zero, List.set_cons_succ]
    refine hK _ ?_
    clear hK K
    refine q_take (by kernel_rfl) (fun K hK => ?_)
    go_simp
    apply Exists.intro
    refine ⟨fun _ => ?_, hK _ ?_⟩
    exact Calls.regrown_of (unhide CL _ (below_regrown _ _ _))
    clear hK K
    refine q_load (by kernel_rfl) 26 _ rfl s1 0 rfl _ P15.1 P15.inB rowISpan (fun K hK => ?_)
    simp only [Act.put, List.setIfInBounds_toArray, List.set_cons_zero, List.set_cons_succ]
    refine hK _ ?_
    clear hK K
    refine q_take (by kernel_rfl) (fun K hK => ?_)
    go_simp
    apply Exists.intro
    refine ⟨fun _ => ?_, hK _ ?_⟩
    exact Calls.regrown_of (unhide CLS _ (below_regrown _ _ _))
    clear hK K
    refine q_take (by kernel_rfl) (fun K hK => ?_)
    go_simp
    refine hK _ ?_
    clear hK K
    refine q_take (by kernel_rfl) (fun K hK => ?_)
    go_simp
    refine hK _ ?_
    clear hK K
    refine q_take (by kernel_rfl) (fun K hK => ?_)
    go_simp
    refine hK _ ?_
    clear hK K
    refine q_load (by kernel_rfl) 26 _ rfl s2 0 rfl _ P25.1 P25.inB rowISpan (fun K hK => ?_)
    simp only [Act.put, List.setIfInBounds_toArray, List.set_cons_zero, List.set_cons_succ]
    refine hK _ ?_
    clear hK K
    refine q_load (by kernel_rfl) 26 _ rfl s3 0 rfl _ P35.1 P35.inB rowISpan (fun K hK => ?_)
    simp only [Act.put, List.setIfInBounds_toArray, List.set_cons_zero, List.set_cons_succ]
    refine hK _ ?_
    clear hK K
    refine q_take (by kernel_rfl) (fun K hK => ?_)
    go_simp
    apply Exists.intro
    refine ⟨fun _ => ?_, hK _ ?_⟩
    exact Calls.regrown_of (unhide CM _ (below_regrown _ _ _))
    clear hK K
    refine q_load (by kernel_rfl) 26 _ rfl s2 0 rfl _ P25.1 P25.inB rowISpan (fun K hK => ?_)
    simp only [Act.put, List.setIfInBounds_toArray, List.set_cons_zero, List.set_cons_succ]
    refine hK _ ?_
    clear hK K
    refine q_load (by kernel_rfl) 26 _ rfl s3 0 rfl _ P35.1 P35.inB rowISpan (fun K hK => ?_)
    simp only [Act.put, List.setIfInBounds_toArray, List.set_cons_zero, List.set_cons_succ]
    refine hK _ ?_
    clear hK K
    refine q_take (by kernel_rfl) (fun K hK => ?_)
    go_simp
    apply Exists.intro
    refine ⟨fun _ => ?_, hK _ ?_⟩
    exact Calls.regrown_of (unhide CMS _ (below_regrown _ _ _))
    clear hK K
    refine q_take (by kernel_rfl) (fun K hK => ?_)
    go_simp
    refine hK _ ?_
    clear hK K
    refine q_take (by kernel_rfl) (fun K hK => ?_)
    go_simp
    refine hK _ ?_
    clear hK K
    refine q_take (by kernel_rfl) (fun K hK => ?_)
    go_simp
    refine hK _ ?_
    clear hK K
    refine q_load (by kernel_rfl) 26 _ rfl s1 0 rfl _ P15.1 P15.inB rowISpan (fun K hK => ?_)
    simp only [Act.put, List.setIfInBounds_toArray, List.set_cons_zero, List.set_cons_succ]
    refine hK _ ?_
    clear hK K
    refine q_load (by kernel_rfl) 26 _ rfl s1 0 rfl _ P15.1 P15.inB rowISpan (fun K hK => ?_)
    simp only [Act.put, List.setIfInBounds_toArray, List.set_cons_zero, List.set_cons_succ]
    refine hK _ ?_
    clear hK K
    refine q_take (by kernel_rfl) (fun K hK => ?_)
    go_simp
    apply Exists.intro
    refine ⟨fun _ => ?_, hK _ ?_⟩
    exact Calls.regrown_of (unhide CX _ (below_regrown _ _ _))
    clear hK K
    refine q_take (by kernel_rfl) (fun K hK => ?_)
    go_simp
    refine hK _ ?_
    clear hK K
    refine q_take (by kernel_rfl) (fun K hK => ?_)
    go_simp
    refine hK _ ?_
    clear hK K
    refine q_take (by kernel_rfl) (fun K hK => ?_)
    go_simp
    refine hK _ ?_
    clear hK K
    refine q_load (by kernel_rfl) 26 _ rfl s1 0 rfl _ P15.1 P15.inB rowISpan (fun K hK => ?_)
    simp only [Act.put, List.setIfInBounds_toArray, List.set_cons_zero, List.set_cons_succ]
    refine hK _ ?_
    clear hK K
    refine q_take (by kernel_rfl) (fun K hK => ?_)
    go_simp
    apply Exists.intro
    refine ⟨fun _ => ?_, hK _ ?_⟩
    exact Calls.regrown_of (unhide CT _ (below_regrown _ _ _))
    clear hK K
    refine q_load (by kernel_rfl) 26 _ rfl s1 0 rfl _ P15.1 P15.inB rowISpan (fun K hK => ?_)
    simp only [Act.put, List.setIfInBounds_toArray, List.set_cons_zero, List.set_cons_succ]
    refine hK _ ?_
    clear hK K
    refine q_take (by kernel_rfl) (fun K hK => ?_)
    go_simp
    apply Exists.intro
    refine ⟨fun _ => ?_, hK _ ?_⟩
    exact Calls.regrown_of (unhide CTS _ (below_regrown _ _ _))
    clear hK K
    refine q_take (by kernel_rfl) (fun K hK => ?_)
    go_simp
    refine hK _ ?_
    clear hK K
    refine q_take (by kernel_rfl) (fun K hK => ?_)
    go_simp
    refine hK _ ?_
    clear hK K
    refine wq_nil ?_
    intro _ hw9
    obtain ⟨⟨dq, osq⟩, hw9'⟩ := hw9
    subst hw9'
    have hHeld := below_regrown w5 dq osq
    generalize Go.Sort.grow (redrawn w5 dq) osq = wq at *
    clear mixed
    go_wp2
    go_meet
    exact ⟨rfl, hHeld⟩
  case rest =>
  obtain ⟨rfl, hbc⟩ := hcut
  have P9 := P15.keep hbc
  have B9 := bthen B5 hbc
  have HH := hide hbc
  clear P15 P25 P35 B5 CS CZS CLS CM CMS CX CTS hbc
  go_upto_region 9 with fail
  cases K1 with
  | false =>
    have hTX := unhide HTN rfl
    subst hTX
    clear HTN HTY HSF
    refine wq_region (by assumption) (by kernel_rfl) ?_
    refine q_take (by kernel_rfl) (fun K hK => ?_)
    go_simp
    refine hK _ ?_
    clear hK K
    refine q_take (by kernel_rfl) (fun K hK => ?_)
    go_simp
    apply Exists.intro
    refine ⟨fun _ => ?_, hK _ ?_⟩
    exact Calls.regrown_of (unhide CA _ (bthen (unhide HH) (below_regrown _ _ _)))
    clear hK K
    refine q_take (by kernel_rfl) (fun K hK => ?_)
    go_simp
    refine hK _ ?_
    clear hK K
    refine q_take (by kernel_rfl) (fun K hK => ?_)
    go_simp
    refine hK _ ?_
    clear hK K
    refine q_take (by kernel_rfl) (fun K hK => ?_)
    go_simp
    refine hK _ ?_
    clear hK K
    refine q_take (by kernel_rfl) (fun K hK => ?_)
    go_simp
    apply Exists.intro
    refine ⟨fun _ => ?_, hK _ ?_⟩
    exact Calls.regrown_of (unhide CA1 _ (bthen (unhide HH) (below_regrown _ _ _)))
    clear hK K
    refine q_take (by kernel_rfl) (fun K hK => ?_)
    go_simp
    refine hK _ ?_
    clear hK K
    refine q_take (by kernel_rfl) (fun K hK => ?_)
    go_simp
    refine hK _ ?_
    clear hK K
    refine q_take (by kernel_rfl) (fun K hK => ?_)
    go_simp
    refine hK _ ?_
    clear hK K
    refine q_take (by kernel_rfl) (fun K hK => ?_)
    go_simp
    apply Exists.intro
    refine ⟨fun _ => ?_, hK _ ?_⟩
    exact Calls.regrown_of (unhide CA2 _ (bthen (unhide HH) (below_regrown _ _ _)))
    clear hK K
    refine q_take (by kernel_rfl) (fun K hK => ?_)
    go_simp
    rw [unhide HWR]
    refine hK _ ?_
    clear hK K
    refine q_take (by kernel_rfl) (fun K hK => ?_)
    go_simp
    refine hK _ ?_
    clear hK K
    refine q_take (by kernel_rfl) (fun K hK => ?_)
    go_simp
    refine hK _ ?_
    clear hK K
    refine q_take (by kernel_rfl) (fun K hK => ?_)
    go_simp
    refine hK _ ?_
    clear hK K
    refine q_take (by kernel_rfl) (fun K hK => ?_)
    go_simp
    apply Exists.intro
    refine ⟨fun _ => ?_, hK _ ?_⟩
    exact Calls.regrown_of (unhide CA _ (bthen (unhide HH) (below_regrown _ _ _)))
    clear hK K
    refine q_take (by kernel_rfl) (fun K hK => ?_)
    go_simp
    refine hK _ ?_
    clear hK K
    refine q_take (by kernel_rfl) (fun K hK => ?_)
    go_simp
    apply Exists.intro
    refine ⟨fun _ => ?_, hK _ ?_⟩
    exact Calls.regrown_of (unhide CAS _ (bthen (unhide HH) (below_regrown _ _ _)))
    clear hK K
    refine q_take (by kernel_rfl) (fun K hK => ?_)
    go_simp
    refine hK _ ?_
    clear hK K
    refine q_take (by kernel_rfl) (fun K hK => ?_)
    go_simp
    refine hK _ ?_
    clear hK K
    refine q_take (by kernel_rfl) (fun K hK => ?_)
    go_simp
    refine hK _ ?_
    clear hK K
    refine q_load (by kernel_rfl) 26 _ rfl s1 0 rfl _ P9.1 P9.inB rowISpan (fun K hK => ?_)
    simp only [Act.put, List.setIfInBounds_toArray, List.set_cons_zero, List.set_cons_succ]
    refine hK _ ?_
    clear hK K
    refine q_take (by kernel_rfl) (fun K hK => ?_)
    go_simp
    apply Exists.intro
    refine ⟨fun _ => ?_, hK _ ?_⟩
    exact Calls.regrown_of (unhide CT _ (bthen (unhide HH) (below_regrown _ _ _)))
    clear hK K
    refine q_take (by kernel_rfl) (fun K hK => ?_)
    go_simp
    refine hK _ ?_
    clear hK K
    refine q_load (by kernel_rfl) 26 _ rfl s1 0 rfl _ P9.1 P9.inB rowISpan (fun K hK => ?_)
    simp only [Act.put, List.setIfInBounds_toArray, List.set_cons_zero, List.set_cons_succ]
    refine hK _ ?_
    clear hK K
    refine q_take (by kernel_rfl) (fun K hK => ?_)
    go_simp
    apply Exists.intro
    refine ⟨fun _ => ?_, hK _ ?_⟩
    exact Calls.regrown_of (unhide CO _ (bthen (unhide HH) (below_regrown _ _ _)))
    clear hK K
    refine q_take (by kernel_rfl) (fun K hK => ?_)
    go_simp
    refine hK _ ?_
    clear hK K
    refine q_take (by kernel_rfl) (fun K hK => ?_)
    go_simp
    refine hK _ ?_
    clear hK K
    refine q_take (by kernel_rfl) (fun K hK => ?_)
    go_simp
    refine hK _ ?_
    clear hK K
    refine q_load (by kernel_rfl) 26 _ rfl s1 0 rfl _ P9.1 P9.inB rowISpan (fun K hK => ?_)
    simp only [Act.put, List.setIfInBounds_toArray, List.set_cons_zero, List.set_cons_succ]
    refine hK _ ?_
    clear hK K
    refine q_take (by kernel_rfl) (fun K hK => ?_)
    go_simp
    apply Exists.intro
    refine ⟨fun _ => ?_, hK _ ?_⟩
    exact Calls.regrown_of (unhide CO _ (bthen (unhide HH) (below_regrown _ _ _)))
    clear hK K
    refine q_take (by kernel_rfl) (fun K hK => ?_)
    go_simp
    refine hK _ ?_
    clear hK K
    refine q_take (by kernel_rfl) (fun K hK => ?_)
    go_simp
    refine hK _ ?_
    clear hK K
    refine q_skipK (by kernel_rfl) (fun K hK => ?_)
    simp only [Act.put, List.setIfInBounds_toArray, List.set_cons_zero, List.set_cons_succ]
    refine hK _ ?_
    clear hK K
    refine q_skipK (by kernel_rfl) (fun K hK => ?_)
    simp only [Act.put, List.setIfInBounds_toArray, List.set_cons_zero, List.set_cons_succ]
    refine hK _ ?_
    clear hK K
    refine q_skipK (by kernel_rfl) (fun K hK => ?_)
    simp only [Act.put, List.setIfInBounds_toArray, List.set_cons_zero, List.set_cons_succ]
    refine hK _ ?_
    clear hK K
    refine q_skipK (by kernel_rfl) (fun K hK => ?_)
    simp only [Act.put, List.setIfInBounds_toArray, List.set_cons_zero, List.set_cons_succ]
    refine hK _ ?_
    clear hK K
    refine q_skipK (by kernel_rfl) (fun K hK => ?_)
    simp only [Act.put, List.setIfInBounds_toArray, List.set_cons_zero, List.set_cons_succ]
    refine hK _ ?_
    clear hK K
    refine q_skipK (by kernel_rfl) (fun K hK => ?_)
    simp only [Act.put, List.setIfInBounds_toArray, List.set_cons_zero, List.set_cons_succ]
    refine hK _ ?_
    clear hK K
    refine q_skipK (by kernel_rfl) (fun K hK => ?_)
    simp only [Act.put, List.setIfInBounds_toArray, List.set_cons_zero, List.set_cons_succ]
    refine hK _ ?_
    clear hK K
    refine q_skipK (by kernel_rfl) (fun K hK => ?_)
    simp only [Act.put, List.setIfInBounds_toArray, List.set_cons_zero, List.set_cons_succ]
    refine hK _ ?_
    clear hK K
    refine q_skipK (by kernel_rfl) (fun K hK => ?_)
    simp only [Act.put, List.setIfInBounds_toArray, List.set_cons_zero, List.set_cons_succ]
    refine hK _ ?_
    clear hK K
    refine q_skipK (by kernel_rfl) (fun K hK => ?_)
    simp only [Act.put, List.setIfInBounds_toArray, List.set_cons_zero, List.set_cons_succ]
    refine hK _ ?_
    clear hK K
    refine q_skipK (by kernel_rfl) (fun K hK => ?_)
    simp only [Act.put, List.setIfInBounds_toArray, List.set_cons_zero, List.set_cons_succ]
    refine hK _ ?_
    clear hK K
    refine q_skipK (by kernel_rfl) (fun K hK => ?_)
    simp only [Act.put, List.setIfInBounds_toArray, List.set_cons_zero, List.set_cons_succ]
    refine hK _ ?_
    clear hK K
    refine q_skipK (by kernel_rfl) (fun K hK => ?_)
    simp only [Act.put, List.setIfInBounds_toArray, List.set_cons_zero, List.set_cons_succ]
    refine hK _ ?_
    clear hK K
    refine q_skipK (by kernel_rfl) (fun K hK => ?_)
    simp only [Act.put, List.setIfInBounds_toArray, List.set_cons_zero, List.set_cons_succ]
    refine hK _ ?_
    clear hK K
    refine q_skipK (by kernel_rfl) (fun K hK => ?_)
    simp only [Act.put, List.setIfInBounds_toArray, List.set_cons_zero, List.set_cons_succ]
    refine hK _ ?_
    clear hK K
    refine q_skipK (by kernel_rfl) (fun K hK => ?_)
    simp only [Act.put, List.setIfInBounds_toArray, List.set_cons_zero, List.set_cons_succ]
    refine hK _ ?_
    clear hK K
    refine q_skipK (by kernel_rfl) (fun K hK => ?_)
    simp only [Act.put, List.setIfInBounds_toArray, List.set_cons_zero, List.set_cons_succ]
    refine hK _ ?_
    clear hK K
    refine q_skipK (by kernel_rfl) (fun K hK => ?_)
    simp only [Act.put, List.setIfInBounds_toArray, List.set_cons_zero, List.set_cons_succ]
    refine hK _ ?_
    clear hK K
    refine q_take (by kernel_rfl) (fun K hK => ?_)
    go_simp
    refine hK _ ?_
    clear hK K
    refine q_take (by kernel_rfl) (fun K hK => ?_)
    go_simp
    refine hK _ ?_
    clear hK K
    refine q_take (by kernel_rfl) (fun K hK => ?_)
    go_simp
    refine hK _ ?_
    clear hK K
    refine wq_nil ?_
    intro _ hw9
    obtain ⟨⟨dq, osq⟩, hw9'⟩ := hw9
    subst hw9'
    have hHeld := below_regrown wc dq osq
    generalize Go.Sort.grow (redrawn wc dq) osq = wq at *
    clear mixed
    have hfin := bthen B9 hHeld
    clear hHeld
    go_wp2
    all_goals (go_ret; exact ⟨rfl, hfin⟩)
  | true =>
    have hTX := unhide HTY rfl
    have hT2 := ne_empty hTX
    obtain ⟨z1, z2, z3, z4, z5, z6⟩ := unhide HSF rfl
    subst z3
    have HWS : Hid (IntKind.i64.wrap (en1 - st1) = en1 - st1) := hide (by rw [IntKind.wrap_i64]; omega)
    clear HTN HTY HSF
    refine wq_region (by assumption) (by kernel_rfl) ?_
    refine q_take (by kernel_rfl) (fun K hK => ?_)
    go_simp
    refine hK _ ?_
    clear hK K
    refine q_take (by kernel_rfl) (fun K hK => ?_)
    go_simp
    apply Exists.intro
    refine ⟨fun _ => ?_, hK _ ?_⟩
    exact Calls.regrown_of (unhide CA _ (bthen (unhide HH) (below_regrown _ _ _)))
    clear hK K
    refine q_take (by kernel_rfl) (fun K hK => ?_)
    go_simp
    refine hK _ ?_
    clear hK K
    refine q_take (by kernel_rfl) (fun K hK => ?_)
    go_simp
    refine hK _ ?_
    clear hK K
    refine q_take (by kernel_rfl) (fun K hK => ?_)
    go_simp
    refine hK _ ?_
    clear hK K
    refine q_take (by kernel_rfl) (fun K hK => ?_)
    go_simp
    apply Exists.intro
    refine ⟨fun _ => ?_, hK _ ?_⟩
    exact Calls.regrown_of (unhide CA1 _ (bthen (unhide HH) (below_regrown _ _ _)))
    clear hK K
    refine q_take (by kernel_rfl) (fun K hK => ?_)
    go_simp
    refine hK _ ?_
    clear hK K
    refine q_take (by kernel_rfl) (fun K hK => ?_)
    go_simp
    refine hK _ ?_
    clear hK K
    refine q_take (by kernel_rfl) (fun K hK => ?_)
    go_simp
    refine hK _ ?_
    clear hK K
    refine q_take (by kernel_rfl) (fun K hK => ?_)
    go_simp
    apply Exists.intro
    refine ⟨fun _ => ?_, hK _ ?_⟩
    exact Calls.regrown_of (unhide CA2 _ (bthen (unhide HH) (below_regrown _ _ _)))
    clear hK K
    refine q_take (by kernel_rfl) (fun K hK => ?_)
    go_simp
    rw [unhide HWR]
    refine hK _ ?_
    clear hK K
    refine q_take (by kernel_rfl) (fun K hK => ?_)
    go_simp
    refine hK _ ?_
    clear hK K
    refine q_take (by kernel_rfl) (fun K hK => ?_)
    go_simp
    refine hK _ ?_
    clear hK K
    refine q_take (by kernel_rfl) (fun K hK => ?_)
    go_simp
    refine hK _ ?_
    clear hK K
    refine q_take (by kernel_rfl) (fun K hK => ?_)
    go_simp
    apply Exists.intro
    refine ⟨fun _ => ?_, hK _ ?_⟩
    exact Calls.regrown_of (unhide CA _ (bthen (unhide HH) (below_regrown _ _ _)))
    clear hK K
    refine q_take (by kernel_rfl) (fun K hK => ?_)
    go_simp
    refine hK _ ?_
    clear hK K
    refine q_take (by kernel_rfl) (fun K hK => ?_)
    go_simp
    apply Exists.intro
    refine ⟨fun _ => ?_, hK _ ?_⟩
    exact Calls.regrown_of (unhide CAS _ (bthen (unhide HH) (below_regrown _ _ _)))
    clear hK K
    refine q_take (by kernel_rfl) (fun K hK => ?_)
    go_simp
    refine hK _ ?_
    clear hK K
    refine q_take (by kernel_rfl) (fun K hK => ?_)
    go_simp
    refine hK _ ?_
    clear hK K
    refine q_take (by kernel_rfl) (fun K hK => ?_)
    go_simp
    refine hK _ ?_
    clear hK K
    refine q_load (by kernel_rfl) 26 _ rfl s1 0 rfl _ P9.1 P9.inB rowISpan (fun K hK => ?_)
    simp only [Act.put, List.setIfInBounds_toArray, List.set_cons_zero, List.set_cons_succ]
    refine hK _ ?_
    clear hK K
    refine q_take (by kernel_rfl) (fun K hK => ?_)
    go_simp
    apply Exists.intro
    refine ⟨fun _ => ?_, hK _ ?_⟩
    exact Calls.regrown_of (unhide CT _ (bthen (unhide HH) (below_regrown _ _ _)))
    clear hK K
    refine q_take (by kernel_rfl) (fun K hK => ?_)
    go_simp
    refine hK _ ?_
    clear hK K
    refine q_load (by kernel_rfl) 26 _ rfl s1 0 rfl _ P9.1 P9.inB rowISpan (fun K hK => ?_)
    simp only [Act.put, List.setIfInBounds_toArray, List.set_cons_zero, List.set_cons_succ]
    refine hK _ ?_
    clear hK K
    refine q_take (by kernel_rfl) (fun K hK => ?_)
    go_simp
    apply Exists.intro
    refine ⟨fun _ => ?_, hK _ ?_⟩
    exact Calls.regrown_of (unhide CO _ (bthen (unhide HH) (below_regrown _ _ _)))
    clear hK K
    refine q_take (by kernel_rfl) (fun K hK => ?_)
    go_simp
    refine hK _ ?_
    clear hK K
    refine q_take (by kernel_rfl) (fun K hK => ?_)
    go_simp
    refine hK _ ?_
    clear hK K
    refine q_take (by kernel_rfl) (fun K hK => ?_)
    go_simp
    refine hK _ ?_
    clear hK K
    refine q_load (by kernel_rfl) 26 _ rfl s1 0 rfl _ P9.1 P9.inB rowISpan (fun K hK => ?_)
    simp only [Act.put, List.setIfInBounds_toArray, List.set_cons_zero, List.set_cons_succ]
    refine hK _ ?_
    clear hK K
    refine q_take (by kernel_rfl) (fun K hK => ?_)
    go_simp
    apply Exists.intro
    refine ⟨fun _ => ?_, hK _ ?_⟩
    exact Calls.regrown_of (unhide CO _ (bthen (unhide HH) (below_regrown _ _ _)))
    clear hK K
    refine q_take (by kernel_rfl) (fun K hK => ?_)
    go_simp
    refine hK _ ?_
    clear hK K
    refine q_take (by kernel_rfl) (fun K hK => ?_)
    go_simp
    refine hK _ ?_
    clear hK K
    refine q_load (by kernel_rfl) 26 _ rfl s1 0 rfl _ P9.1 P9.inB rowISpan (fun K hK => ?_)
    simp only [Act.put, List.setIfInBounds_toArray, List.set_cons_zero, List.set_cons_succ]
    refine hK _ ?_
    clear hK K
    refine q_take (by kernel_rfl) (fun K hK => ?_)
    go_simp
    apply Exists.intro
    refine ⟨fun _ => ?_, hK _ ?_⟩
    exact Calls.regrown_of (unhide CZ _ (bthen (unhide HH) (below_regrown _ _ _)))
    clear hK K
    refine q_take (by kernel_rfl) (fun K hK => ?_)
    go_simp
    refine hK _ ?_
    clear hK K
    refine q_take (by kernel_rfl) (fun K hK => ?_)
    go_simp
    refine hK _ ?_
    clear hK K
    refine q_load (by kernel_rfl) 26 _ rfl s1 0 rfl _ P9.1 P9.inB rowISpan (fun K hK => ?_)
    simp only [Act.put, List.setIfInBounds_toArray, List.set_cons_zero, List.set_cons_succ]
    refine hK _ ?_
    clear hK K
    refine q_take (by kernel_rfl) (fun K hK => ?_)
    go_simp
    apply Exists.intro
    refine ⟨fun _ => ?_, hK _ ?_⟩
    exact Calls.regrown_of (unhide CZ _ (bthen (unhide HH) (below_regrown _ _ _)))
    clear hK K
    refine q_take (by kernel_rfl) (fun K hK => ?_)
    go_simp
    refine hK _ ?_
    clear hK K
    refine q_take (by kernel_rfl) (fun K hK => ?_)
    go_simp
    refine hK _ ?_
    clear hK K
    refine q_take (by kernel_rfl) (fun K hK => ?_)
    go_simp
    refine hK _ ?_
    clear hK K
    refine q_load (by kernel_rfl) 26 _ rfl s1 0 rfl _ P9.1 P9.inB rowISpan (fun K hK => ?_)
    simp only [Act.put, List.setIfInBounds_toArray, List.set_cons_zero, List.set_cons_succ]
    refine hK _ ?_
    clear hK K
    refine q_take (by kernel_rfl) (fun K hK => ?_)
    go_simp
    apply Exists.intro
    refine ⟨fun _ => ?_, hK _ ?_⟩
    exact Calls.regrown_of (unhide CL _ (bthen (unhide HH) (below_regrown _ _ _)))
    clear hK K
    refine q_take (by kernel_rfl) (fun K hK => ?_)
    go_simp
    refine hK _ ?_
    clear hK K
    refine q_cell (by kernel_rfl) 3 _ rfl s1 3 rfl _ (P9.2 3 _ rfl) plainInt (fun K hK => ?_)
    simp only [Act.put, List.setIfInBounds_toArray, List.set_cons_zero, List.set_cons_succ]
    refine hK _ ?_
    clear hK K
    refine q_take (by kernel_rfl) (fun K hK => ?_)
    go_simp
    refine hK _ ?_
    clear hK K
    refine q_cell (by kernel_rfl) 3 _ rfl s1 2 rfl _ (P9.2 2 _ rfl) plainInt (fun K hK => ?_)
    simp only [Act.put, List.setIfInBounds_toArray, List.set_cons_zero, List.set_cons_succ]
    refine hK _ ?_
    clear hK K
    refine q_take (by kernel_rfl) (fun K hK => ?_)
    go_simp
    rw [unhide HWS]
    refine hK _ ?_
    clear hK K
    refine q_take (by kernel_rfl) (fun K hK => ?_)
    go_simp
    refine hK _ ?_
    clear hK K
    refine q_take (by kernel_rfl) (fun K hK => ?_)
    go_simp
    refine hK _ ?_
    clear hK K
    refine q_take (by kernel_rfl) (fun K hK => ?_)
    go_simp
    refine hK _ ?_
    clear hK K
    refine q_take (by kernel_rfl) (fun K hK => ?_)
    go_simp
    refine hK _ ?_
    clear hK K
    refine q_take (by kernel_rfl) (fun K hK => ?_)
    go_simp
    refine hK _ ?_
    clear hK K
    refine wq_nil ?_
    intro _ hw9
    obtain ⟨⟨dq, osq⟩, hw9'⟩ := hw9
    subst hw9'
    have hHeld := below_regrown wc dq osq
    generalize Go.Sort.grow (redrawn wc dq) osq = wq at *
    clear mixed
    have hfin := bthen B9 hHeld
    clear hHeld
    go_wp2
    all_goals (go_ret; exact ⟨rfl, hfin⟩)

theorem contract (H : Type) (enc : TypeId × Value → H) (W : World) (base : Nat) (args : Array Value) (ds gs : List (DataW H)) (before : List MemPlace)
    (hval : ∀ (j : Nat) t v, Tryd.f3.params[j]? = some t → args[j]? = some v → Value.okWide Tryd.prog W .any base t v)
    (hW : DataW.Whole enc Tryd.prog Tryd.f3.params.toList Rows.fnSpansSpec.vars false W args.toList ds gs before) (hL : laidMetH Tryd.prog Rows.fnSpansRow.laid W) :
    Calls Tryd.prog 3 args W fun e W' => ∃ v, e = .returned v ∧ Rows.fnSpansSpec.post enc Tryd.prog Tryd.f3 false true false false W args v W' := by
  have hW' := hW
  obtain ⟨p, q, hA0, hV, rfl, hfz, hnd⟩ := hW
  have hA : DataW.TrodAll enc Tryd.prog W 0 (fun _ => true) true Tryd.f3.params.toList args.toList ds p := hA0
  rw [Tryd.params3] at hA hval
  obtain ⟨v0, vs0, d0, ds0, p0, q0, hargs, rfl, rfl, h0, r0⟩ := trodAll_cons hA
  obtain ⟨rfl, rfl, rfl⟩ := trodAll_nil r0
  obtain rfl : args = #[v0] := by cases args; simp_all
  obtain ⟨rfl, rfl⟩ := trodVars_none hV
  obtain ⟨a0, len0, cap0, rfl⟩ := okWide_slice Tryd.underlying22 (hval 0 22 v0 rfl rfl)
  have k0 := h0
  have lt0 : ∀ x ∈ p0, x.block < W.heap.size := by obtain ⟨m, hm⟩ := k0; exact DataW.trod_lt m _ _ _ hm
  obtain ⟨z0, w0⟩ : ∃ zs, IsRow .u8 W a0 len0 cap0 zs := by
    obtain ⟨fuel, hf⟩ := h0
    rcases open_ints Tryd.underlying22 Tryd.underlying5 (by kernel_rfl) hf with ⟨hcs, _⟩ | ⟨x, l, c, zs, hcs, _, hl, hm, hz, _, hcell, hwz⟩
    · simp [Value.cells] at hcs
      obtain ⟨rfl, rfl, rfl⟩ := hcs
      exact ⟨[], .inl ⟨rfl, rfl, rfl, rfl⟩⟩
    · simp [Value.cells] at hcs
      obtain ⟨rfl, rfl, rfl⟩ := hcs
      exact ⟨zs, .inr ⟨_, rfl, hl, hm, by simpa using hz, hcell, hwz⟩⟩
  clear hA0
  refine (walk a0 len0 cap0 z0 W (table hL) w0).mono fun e W' ⟨he, bel⟩ => ?_
  subst he
  exact ⟨_, rfl, _, _, _, [], _, [], hW', trodAll_mk1 (shut_bool Tryd.underlying4 _), (trodAll_cons_mk (Below.trod laidOut (by kernel_rfl) (of_decide_eq_true (by kernel_rfl)) k0 bel lt0) trodAll_mk0), rfl, bel.frame _, fun h => by cases h⟩

theorem laid_met (os : Os) : laidMet Tryd.prog Rows.fnSpansRow.laid (({ World.holding Tryd.prog os ⟨#[], #[], []⟩ with heap := ((((World.holding Tryd.prog os ⟨#[], #[], []⟩).heap.modify 2 fun | .cells _ t frozen => .cells #[.int .u8 0, .int .u8 1, .int .u8 28, .int .u8 2, .int .u8 29, .int .u8 14, .int .u8 24, .int .u8 3, .int .u8 30, .int .u8 22, .int .u8 20, .int .u8 15, .int .u8 25, .int .u8 17, .int .u8 4, .int .u8 8, .int .u8 31, .int .u8 27, .int .u8 13, .int .u8 23, .int .u8 21, .int .u8 19, .int .u8 16, .int .u8 7, .int .u8 26, .int .u8 12, .int .u8 18, .int .u8 6, .int .u8 11, .int .u8 5, .int .u8 10, .int .u8 9] t frozen | o => o).modify 3 fun | .cells _ t frozen => .cells #[.int .u8 0, .int .u8 1, .int .u8 56, .int .u8 2, .int .u8 57, .int .u8 49, .int .u8 28, .int .u8 3, .int .u8 61, .int .u8 58, .int .u8 42, .int .u8 50, .int .u8 38, .int .u8 29, .int .u8 17, .int .u8 4, .int .u8 62, .int .u8 47, .int .u8 59, .int .u8 36, .int .u8 45, .int .u8 43, .int .u8 51, .int .u8 22, .int .u8 53, .int .u8 39, .int .u8 33, .int .u8 30, .int .u8 24, .int .u8 18, .int .u8 12, .int .u8 5, .int .u8 63, .int .u8 55, .int .u8 48, .int .u8 27, .int .u8 60, .int .u8 41, .int .u8 37, .int .u8 16, .int .u8 46, .int .u8 35, .int .u8 44, .int .u8 21, .int .u8 52, .int .u8 32, .int .u8 23, .int .u8 11, .int .u8 54, .int .u8 26, .int .u8 40, .int .u8 15, .int .u8 34, .int .u8 20, .int .u8 31, .int .u8 10, .int .u8 25, .int .u8 14, .int .u8 19, .int .u8 9, .int .u8 13, .int .u8 8, .int .u8 7, .int .u8 6] t frozen | o => o).modify 1 fun | .cells _ t frozen => .cells #[.int .u64 1, .int .u64 10, .int .u64 100, .int .u64 1000, .int .u64 10000, .int .u64 100000, .int .u64 1000000, .int .u64 10000000, .int .u64 100000000, .int .u64 1000000000, .int .u64 10000000000, .int .u64 100000000000, .int .u64 1000000000000, .int .u64 10000000000000, .int .u64 100000000000000, .int .u64 1000000000000000, .int .u64 10000000000000000, .int .u64 100000000000000000, .int .u64 1000000000000000000, .int .u64 10000000000000000000] t frozen | o => o) } : World).forCall (fun _ _ => 0) ⟨#[], #[.slice none 0 0], []⟩).memory :=
  laidMet_of_run' 8 (by kernel_rfl) (by kernel_rfl)
theorem reads (os : Os) {H : Type} (enc : TypeId × Value → H) : ∃ places, DataW.whole enc Tryd.prog (({ World.holding Tryd.prog os ⟨#[], #[], []⟩ with heap := ((((World.holding Tryd.prog os ⟨#[], #[], []⟩).heap.modify 2 fun | .cells _ t frozen => .cells #[.int .u8 0, .int .u8 1, .int .u8 28, .int .u8 2, .int .u8 29, .int .u8 14, .int .u8 24, .int .u8 3, .int .u8 30, .int .u8 22, .int .u8 20, .int .u8 15, .int .u8 25, .int .u8 17, .int .u8 4, .int .u8 8, .int .u8 31, .int .u8 27, .int .u8 13, .int .u8 23, .int .u8 21, .int .u8 19, .int .u8 16, .int .u8 7, .int .u8 26, .int .u8 12, .int .u8 18, .int .u8 6, .int .u8 11, .int .u8 5, .int .u8 10, .int .u8 9] t frozen | o => o).modify 3 fun | .cells _ t frozen => .cells #[.int .u8 0, .int .u8 1, .int .u8 56, .int .u8 2, .int .u8 57, .int .u8 49, .int .u8 28, .int .u8 3, .int .u8 61, .int .u8 58, .int .u8 42, .int .u8 50, .int .u8 38, .int .u8 29, .int .u8 17, .int .u8 4, .int .u8 62, .int .u8 47, .int .u8 59, .int .u8 36, .int .u8 45, .int .u8 43, .int .u8 51, .int .u8 22, .int .u8 53, .int .u8 39, .int .u8 33, .int .u8 30, .int .u8 24, .int .u8 18, .int .u8 12, .int .u8 5, .int .u8 63, .int .u8 55, .int .u8 48, .int .u8 27, .int .u8 60, .int .u8 41, .int .u8 37, .int .u8 16, .int .u8 46, .int .u8 35, .int .u8 44, .int .u8 21, .int .u8 52, .int .u8 32, .int .u8 23, .int .u8 11, .int .u8 54, .int .u8 26, .int .u8 40, .int .u8 15, .int .u8 34, .int .u8 20, .int .u8 31, .int .u8 10, .int .u8 25, .int .u8 14, .int .u8 19, .int .u8 9, .int .u8 13, .int .u8 8, .int .u8 7, .int .u8 6] t frozen | o => o).modify 1 fun | .cells _ t frozen => .cells #[.int .u64 1, .int .u64 10, .int .u64 100, .int .u64 1000, .int .u64 10000, .int .u64 100000, .int .u64 1000000, .int .u64 10000000, .int .u64 100000000, .int .u64 1000000000, .int .u64 10000000000, .int .u64 100000000000, .int .u64 1000000000000, .int .u64 10000000000000, .int .u64 100000000000000, .int .u64 1000000000000000, .int .u64 10000000000000000, .int .u64 100000000000000000, .int .u64 1000000000000000000, .int .u64 10000000000000000000] t frozen | o => o) } : World).forCall (fun _ _ => 0) ⟨#[], #[.slice none 0 0], []⟩).memory Tryd.f3.params.toList Rows.fnSpansSpec.vars false #[Value.slice none 0 0].toList 8 = some ([.nil], [], places) :=
  ⟨[], by kernel_rfl⟩

set_option maxRecDepth 100000 in
theorem lifted (os : Os) (started : os.Started) (H : Type) (enc : TypeId × Value → H) (F : Stop.Interp) :
    ReturnsInHanded {} Tryd.checked os 3 .any ((OpenSpec.ofChange Rows.fnSpansSpec).preRow enc Tryd.prog Tryd.f3 Rows.fnSpansRow.domain false Rows.fnSpansRow.laid) (((OpenSpec.ofChange Rows.fnSpansSpec).at F).post enc Tryd.prog Tryd.f3 false true false false) := by
  obtain ⟨places, hx⟩ := reads os enc
  refine returnsInHanded_of_row (C := Tryd.checked) (s := OpenSpec.ofChange Rows.fnSpansSpec) own started (by kernel_rfl) Tryd.func3
    (witness_row_at (enc := enc) (C := Tryd.checked) false ({ World.holding Tryd.prog os ⟨#[], #[], []⟩ with heap := ((((World.holding Tryd.prog os ⟨#[], #[], []⟩).heap.modify 2 fun | .cells _ t frozen => .cells #[.int .u8 0, .int .u8 1, .int .u8 28, .int .u8 2, .int .u8 29, .int .u8 14, .int .u8 24, .int .u8 3, .int .u8 30, .int .u8 22, .int .u8 20, .int .u8 15, .int .u8 25, .int .u8 17, .int .u8 4, .int .u8 8, .int .u8 31, .int .u8 27, .int .u8 13, .int .u8 23, .int .u8 21, .int .u8 19, .int .u8 16, .int .u8 7, .int .u8 26, .int .u8 12, .int .u8 18, .int .u8 6, .int .u8 11, .int .u8 5, .int .u8 10, .int .u8 9] t frozen | o => o).modify 3 fun | .cells _ t frozen => .cells #[.int .u8 0, .int .u8 1, .int .u8 56, .int .u8 2, .int .u8 57, .int .u8 49, .int .u8 28, .int .u8 3, .int .u8 61, .int .u8 58, .int .u8 42, .int .u8 50, .int .u8 38, .int .u8 29, .int .u8 17, .int .u8 4, .int .u8 62, .int .u8 47, .int .u8 59, .int .u8 36, .int .u8 45, .int .u8 43, .int .u8 51, .int .u8 22, .int .u8 53, .int .u8 39, .int .u8 33, .int .u8 30, .int .u8 24, .int .u8 18, .int .u8 12, .int .u8 5, .int .u8 63, .int .u8 55, .int .u8 48, .int .u8 27, .int .u8 60, .int .u8 41, .int .u8 37, .int .u8 16, .int .u8 46, .int .u8 35, .int .u8 44, .int .u8 21, .int .u8 52, .int .u8 32, .int .u8 23, .int .u8 11, .int .u8 54, .int .u8 26, .int .u8 40, .int .u8 15, .int .u8 34, .int .u8 20, .int .u8 31, .int .u8 10, .int .u8 25, .int .u8 14, .int .u8 19, .int .u8 9, .int .u8 13, .int .u8 8, .int .u8 7, .int .u8 6] t frozen | o => o).modify 1 fun | .cells _ t frozen => .cells #[.int .u64 1, .int .u64 10, .int .u64 100, .int .u64 1000, .int .u64 10000, .int .u64 100000, .int .u64 1000000, .int .u64 10000000, .int .u64 100000000, .int .u64 1000000000, .int .u64 10000000000, .int .u64 100000000000, .int .u64 1000000000000, .int .u64 10000000000000, .int .u64 100000000000000, .int .u64 1000000000000000, .int .u64 10000000000000000, .int .u64 100000000000000000, .int .u64 1000000000000000000, .int .u64 10000000000000000000] t frozen | o => o) } : World) #[.slice none 0 0] rfl (by kernel_rfl) (by kernel_rfl) (by kernel_rfl)
      (OpenSpec.preRow_of_cond 8 hx (by kernel_rfl) (fun k hk => by cases hk) (by kernel_rfl) (laid_met os))) ?_
  intro W base args ds gs before hval hW _ _ _ hL _ _
  exact contract H enc W base args ds gs before hval hW hL

theorem row : Rows.FnSpansSaid :=
  OpenClaim.holds_of_cond 3 Tryd.f3 rfl rfl rfl rfl rfl rfl rfl ⟨rfl, rfl, rfl, rfl, rfl⟩ rfl rfl rfl rfl rfl (by kernel_rfl) Tryd.func3 (by kernel_rfl)
    (of_decide_eq_true (by kernel_rfl)) (by unfold Func.isWrapper; first | (rw [if_pos (by decide +kernel)]; kernel_rfl) | (rw [if_neg (by decide +kernel)]; exact ⟨rfl, rfl⟩))
    (fun os started H enc _ F => by rw [OpenClaim.pre_eq_preRow]; exact lifted os started H enc F)

theorem plain (f : FuncId) (fn : Func) (hf : Tryd.pinned.checked.prog.funcNamed "loop.example/g00488/laws.FnSpans" = some f) (hfn : Tryd.pinned.checked.prog.funcs[f]? = some fn) :
    true = Tryd.pinned.checked.prog.looks [] ∧ ∀ (j : Nat) t, fn.params[j]? = some t → Tryd.pinned.checked.prog.wantsStandIn t = false := by
  obtain rfl : f = 3 := Option.some.inj ((show Tryd.prog.funcNamed "loop.example/g00488/laws.FnSpans" = some 3 by kernel_rfl).symm.trans hf) |>.symm
  obtain rfl : fn = Tryd.f3 := (Option.some.inj (Tryd.func3.symm.trans hfn)).symm
  refine ⟨by kernel_rfl, fun j t ht => ?_⟩
  rw [Tryd.params3] at ht
  have h := Array.mem_of_getElem? ht
  simp at h
  obtain rfl := h
  all_goals first | exact (show Tryd.prog.wantsStandIn 22 = false by kernel_rfl)

/-- The card. -/
theorem proved : Rows.FnSpansCardSaid :=
  Claim7.holds_tied_plain_at .later [] _ _ _ _ row (fun _ h => by cases h) (by kernel_rfl) (fun _ h => by cases h) fnSpans_row_tie rfl ⟨rfl, rfl⟩ (by kernel_rfl) rfl plain (by kernel_rfl)
#print axioms proved
end Go.Proofs.YtchinpgjaddnkaaDoor.fnSpans
