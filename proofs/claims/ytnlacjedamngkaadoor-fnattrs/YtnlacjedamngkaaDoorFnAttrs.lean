/-
  Proved (the card): FnAttrs answers true at every input (any drawn bytes): of drawn names and what is said by them, which may be is as the document has it, and what is found is of the name; the library's tables stand as its text lays them.
-/
import Derived.Test.YtnlacjedamngkaaDoorRows
import Derived.Test.YtnlacjedamngkaaDoorTie
import Derived.Test.YtnlacjedamngkaaDoorCards
import Derived.Test.YtnlacjedamngkaaDoorDrG
import Derived.Test.YtnlacjedamngkaaDoorAttrK
import Derived.Test.YtnlacjedamngkaaDoorAttrText
import Derived.Test.YtnlacjedamngkaaDoorAttrSize
import Derived.Test.YtnlacjedamngkaaDoorAttrsOk
import Derived.Test.YtnlacjedamngkaaDoorAttrs2
import Derived.Test.YtnlacjedamngkaaDoorQLoad
import Derived.WalkKit
import Derived.ProofKit
import Derived.OpenShut
import Derived.Deep.DeepHandedRow
import Derived.Lib.LaidTab
import Derived.LaidSub
namespace Go.Proofs.YtnlacjedamngkaaDoor.fnAttrs
open Go.ChangeShapes Go.WideShapes Go.ChangeAt Go.RowKit
open Go.ChangeMaps (open_string shut_string)
set_option linter.unusedVariables false
set_option maxRecDepth 100000

theorem gTab : Tryd.prog.globalNamed "internal/strconv.uint64pow10" = some 1 := by kernel_rfl
theorem gTabType : (Tryd.prog.globals[1]?).map (·.type) = some 109 := by kernel_rfl
theorem cellsTab : Tryd.prog.cellsOf 109 = 20 := by kernel_rfl
theorem cellsEl : Tryd.prog.cellsOf 103 = 1 := by kernel_rfl
theorem laidOut : laidOutB Tryd.prog = true := by kernel_rfl
theorem isTab : (Rows.laid_internal_strconv_uint64pow10 : DataW Unit) = Lib.tabData .u64 Lib.pow10Tab := by kernel_rfl
/-- What the row's list gives: the table of powers of ten. -/
theorem table {W : World} (h : laidMetH Tryd.prog Rows.fnAttrsRow.laid W) : Lib.TabIs Tryd.prog W "internal/strconv.uint64pow10" .u64 Lib.pow10Tab := by
  have h1 := h.filter (fun x => x.1 == "internal/strconv.uint64pow10")
  have e : Rows.fnAttrsRow.laid.filter (fun x => x.1 == "internal/strconv.uint64pow10") = [("internal/strconv.uint64pow10", Lib.tabData .u64 Lib.pow10Tab)] := by
    rw [← isTab]; kernel_rfl
  rw [e] at h1
  exact Lib.tabIs_of_head (rest := []) gTab gTabType Tryd.underlying109 Tryd.underlying103 cellsEl cellsTab h1
def IsRow (k : IntKind) (w : World) (a : Option Addr) (len cap : Nat) (zs : List Int) : Prop :=
  (a = none ∧ len = 0 ∧ cap = 0 ∧ zs = []) ∨
  ∃ x, a = some x ∧ len ≤ cap ∧ cap ≤ maxLen ∧ zs.length = cap ∧ (∀ i, i < zs.length → w.cell? (x.add i) = some (.int k (zs.getD i 0))) ∧ ∀ n ∈ zs, (Lit.int k n).wf = true

theorem ne_empty {t : ByteArray} (h : 0 < t.size) : t.toList.isEmpty = false := by
  rw [ByteArray.toList_eq]
  cases hh : t.data.toList with
  | nil =>
    have e : t.data.size = 0 := by rw [← Array.length_toList, hh]; rfl
    have e2 : t.size = t.data.size := rfl
    omega
  | cons a r => rfl
theorem attrT_no {k : ByteArray} {b : Bool} {n : Int} {t : ByteArray} (h : attrB k b n t = false) : attrT k b n t = ⟨#[]⟩ := by
  unfold attrT; rw [h]; rfl
theorem attrT_yes {k : ByteArray} {b : Bool} {n : Int} {t : ByteArray} (h : attrB k b n t = true) : 0 < (attrT k b n t).size := by
  unfold attrT
  rw [h, if_pos rfl]
  cases b
  · show 0 < (textT k t).size
    unfold textT
    simp only [ByteArray.size_append]
    have : (⟨#[34]⟩ : ByteArray).size = 1 := rfl
    omega
  · show 0 < (textN k n).size
    unfold textN
    simp only [ByteArray.size_append]
    have : (⟨#[61]⟩ : ByteArray).size = 1 := rfl
    omega
theorem found_key {l : List AttrD} {key : ByteArray} {x : AttrD} (h : x = (findA l key).getD dA) (hf : true = (findA l key).isSome) : x.1 = key := by
  cases hx : findA l key with
  | none => rw [hx] at hf; cases hf
  | some y =>
    rw [hx] at h
    have h2 : x = y := h
    subst h2
    unfold findA at hx
    have := List.find?_some hx
    simpa using this
set_option maxHeartbeats 4000000 in
theorem walk (a0 : Option Addr) (len0 cap0 : Nat) (z0 : List Int) (w : World) (htab : Lib.TabIs Tryd.prog w "internal/strconv.uint64pow10" .u64 Lib.pow10Tab) (w0 : IsRow .u8 w a0 len0 cap0 z0) :
    Calls Tryd.prog 3 #[.slice a0 len0 cap0] w fun e w' => e = .returned (.bool true) ∧ Below w.heap.size w w' := by
  have hy : Bytes w a0 len0 := bytes_of_row w0
  by_cases hbig : 1048576 < len0
  · have hbig' : (1048576 : Int) < (len0 : Int) := by omega
    go_enter Tryd.func3, Tryd.ntmps3
    go_wp2_with (go_at_call 5; refine (big_any _ _ _ _).mono ?_; rintro e w' ⟨rfl, rfl⟩)
    go_ret
    exact ⟨rfl, Below.refl _ _⟩
  have hbig' : decide ((1048576 : Int) < (len0 : Int)) = false := decide_eq_false (by omega)
  have hl0 : len0 ≤ 1048576 := by omega
  go_enter Tryd.func3, Tryd.ntmps3
  go_wp2_with fail
  refine (big_any _ _ _ _).mono ?_
  rintro e w' ⟨rfl, hw'⟩
  obtain rfl := hw'
  go_wp2_with fail
  refine (DrawAttrOk_any a0 len0 cap0 w hl0 hy).mono ?_
  rintro e w1 ⟨⟨x, rfl, hx⟩, hb1⟩
  obtain ⟨kk, bb, nn, tt⟩ := x
  obtain ⟨hx1, hx2⟩ := hx
  replace hx1 : kk.size ≤ 40 := hx1
  replace hx2 : tt.size ≤ 40 := hx2
  have hy1 := hy.keep hb1
  have bn := bnew w1 (.cells #[.string kk, .bool bb, .int .i64 nn, .string tt] 25)
  have P1 := Held.new w1 [.string kk, .bool bb, .int .i64 nn, .string tt] 25
  have hy2 := hy1.keep bn
  have B2 := bthen hb1 bn
  clear hy hb1 hy1 bn
  go_upto_region 4 with (first | (refine wpl_store_new rfl _ _ _ rfl _ [.string kk, .bool bb, .int .i64 nn, .string tt] rfl rfl ?_ (one_attr (kk, bb, nn, tt)) rowIAttr ?_; rfl))
  generalize w1.heap.size = s1 at *
  generalize World.alloc w1 _ = w2 at *
  go_wp2_with fail
  refine (DrawAttrsOk_any a0 len0 cap0 w2 hl0 hy2).mono ?_
  rintro e w3 ⟨⟨v, l, rfl, hal⟩, hb3⟩
  obtain ⟨al, cl, rfl⟩ := hal.form
  have hy3 := hy2.keep hb3
  have P3 := P1.keep hb3
  have B3 := bthen B2 hb3
  have HAL := hide hal
  clear hy2 P1 B2 hb3 hal
  go_wp2_with fail
  refine (DrawFindAttr_any a0 len0 cap0 w3 hl0 hy3).mono ?_
  rintro e w4 ⟨⟨v4, m, key, rfl, ham⟩, hb4⟩
  obtain ⟨am, cm, rfl⟩ := ham.form
  have P4 := P3.keep hb4
  have B4 := bthen B3 hb4
  have HAL4 := hide ((unhide HAL).keep hb4)
  have HAM := hide ham
  clear hy3 P3 B3 hb4 HAL ham
  go_wp2_with fail
  refine (implFindAttr m _ key w4 (unhide HAM)).mono ?_
  rintro e w5 ⟨⟨kx, bx, nx, tx, fx, rfl, hxe, hxf⟩, hb5⟩
  have bn := bnew w5 (.cells #[.string kx, .bool bx, .int .i64 nx, .string tx] 25)
  have X6 := Held.new w5 [.string kx, .bool bx, .int .i64 nx, .string tx] 25
  have P6 := (P4.keep hb5).keep bn
  have B6 := bthen (bthen B4 hb5) bn
  have HAL6 := hide (((unhide HAL4).keep hb5).keep bn)
  have HAM6 := hide (((unhide HAM).keep hb5).keep bn)
  have HXE := hide (And.intro hxe hxf)
  clear P4 B4 hb5 HAL4 HAM bn hxe hxf
  go_upto_region 7 with (first | (refine wpl_store_new rfl _ _ _ rfl _ [.string kx, .bool bx, .int .i64 nx, .string tx] rfl rfl ?_ (one_attr (kx, bx, nx, tx)) rowIAttr ?_; rfl))
  generalize w5.heap.size = s2 at *
  generalize World.alloc w5 _ = w6 at *
  go_wp2_with fail
  refine (specFindAttr m _ key w6 (unhide HAM6)).mono ?_
  rintro e w7 ⟨⟨ky, by9, ny, ty, fy, rfl, hye, hyf⟩, hb7⟩
  have heq := (unhide HXE).1.trans hye.symm
  injection heq with e1 heq
  injection heq with e2 heq
  injection heq with e3 e4
  have e5 := (unhide HXE).2.trans hyf.symm
  subst e1
  subst e2
  subst e3
  subst e4
  subst e5
  have bn := bnew w7 (.cells #[.string kx, .bool bx, .int .i64 nx, .string tx] 25)
  have Y8 := Held.new w7 [.string kx, .bool bx, .int .i64 nx, .string tx] 25
  have X8 := (X6.keep hb7).keep bn
  have P8 := (P6.keep hb7).keep bn
  have B8 := bthen (bthen B6 hb7) bn
  have HAL8 := hide (((unhide HAL6).keep hb7).keep bn)
  clear X6 P6 B6 hb7 HAL6 HAM6 bn hye hyf
  go_upto_region 8 with (first | (refine wpl_store_new rfl _ _ _ rfl _ [.string kx, .bool bx, .int .i64 nx, .string tx] rfl rfl ?_ (one_attr (kx, bx, nx, tx)) rowIAttr ?_; rfl))
  generalize w7.heap.size = s3 at *
  generalize World.alloc w7 _ = w8 at *
  have hm : maxLen = 9223372036854775807 := rfl
  have CO := hide (fun wx => atk_ok kk bb nn tt wx _ (by omega) (by omega) rfl)
  have CS := hide (fun wx => atk_okS kk bb nn tt wx _ (by omega) (by omega) rfl)
  have CLI := hide (fun wx (hb : Below w8.heap.size w8 wx) => implAttrsOk l _ wx ((unhide HAL8).keep hb))
  have CLS := hide (fun wx (hb : Below w8.heap.size w8 wx) => specAttrsOk l _ wx ((unhide HAL8).keep hb))
  have CZ := hide (fun wx => implAttrSize kk bb nn tt wx (by omega) (by omega))
  have CZS := hide (fun wx => specAttrSize kk bb nn tt wx (by omega) (by omega))
  have CT := hide (fun wx (hb : Below w8.heap.size w8 wx) => implAttrText kk bb nn tt wx (by omega) (by omega) (htab_keep htab (bthen B8 hb)))
  have CTS := hide (fun wx => specAttrText kk bb nn tt wx (by omega) (by omega))
  have hz : (kk.size : Int) ≤ asize kk bb tt := by unfold asize; split <;> omega
  have HTN := hide (fun h => attrT_no (k := kk) (b := bb) (n := nn) (t := tt) h)
  have HTY := hide (fun h => attrT_yes (k := kk) (b := bb) (n := nn) (t := tt) h)
  have HFK := hide (fun (hf : fx = true) => found_key (unhide HXE).1 (hf ▸ (unhide HXE).2))
  generalize attrB kk bb nn tt = K1 at *
  generalize attrsB l = K2 at *
  generalize asize kk bb tt = ZZ at *
  generalize attrT kk bb nn tt = TX at *
  clear HAL8 HXE hm
  have mixed : Tryd.prog.follows .mixedOrders = true := by kernel_rfl
  go_cut [69] from 34 to 69 (fun c wc => c = .bool false ∧ Below w8.heap.size w8 wc)
  case first =>
    refine wp_region_quiet_below (by assumption) (by kernel_rfl) ?_
    refine q_load (by kernel_rfl) 25 _ rfl s1 0 rfl _ P8.1 P8.inB rowIAttr (fun K hK => ?_)
    simp only [Act.put, List.setIfInBounds_toArray, List.set_cons_zero, List.set_cons_succ]
    refine hK _ ?_
    clear hK K
    refine q_take (by kernel_rfl) (fun K hK => ?_)
    go_simp
    apply Exists.intro
    refine ⟨fun _ => ?_, hK _ ?_⟩
    exact Calls.regrown_of (unhide CO _)
    clear hK K
    refine q_load (by kernel_rfl) 25 _ rfl s1 0 rfl _ P8.1 P8.inB rowIAttr (fun K hK => ?_)
    simp only [Act.put, List.setIfInBounds_toArray, List.set_cons_zero, List.set_cons_succ]
    refine hK _ ?_
    clear hK K
    refine q_take (by kernel_rfl) (fun K hK => ?_)
    go_simp
    apply Exists.intro
    refine ⟨fun _ => ?_, hK _ ?_⟩
    exact Calls.regrown_of (unhide CS _)
    clear hK K
    refine q_take (by kernel_rfl) (fun K hK => ?_)
    go_simp
    refine hK _ ?_
    clear hK K
    refine q_take (by kernel_rfl) (fun K hK => ?_)
    go_simp
    refine hK _ ?_
    clear hK K
    refine q_take (by kernel_rfl) (fun K hK => ?_)
    go_simp
    refine hK _ ?_
    clear hK K
    refine q_take (by kernel_rfl) (fun K hK => ?_)
    go_simp
    apply Exists.intro
    refine ⟨fun _ => ?_, hK _ ?_⟩
    exact Calls.regrown_of (unhide CLI _ (below_regrown _ _ _))
    clear hK K
    refine q_take (by kernel_rfl) (fun K hK => ?_)
    go_simp
    refine hK _ ?_
    clear hK K
    refine q_take (by kernel_rfl) (fun K hK => ?_)
    go_simp
    apply Exists.intro
    refine ⟨fun _ => ?_, hK _ ?_⟩
    exact Calls.regrown_of (unhide CLS _ (below_regrown _ _ _))
    clear hK K
    refine q_take (by kernel_rfl) (fun K hK => ?_)
    go_simp
    refine hK _ ?_
    clear hK K
    refine q_take (by kernel_rfl) (fun K hK => ?_)
    go_simp
    refine hK _ ?_
    clear hK K
    refine q_take (by kernel_rfl) (fun K hK => ?_)
    go_simp
    refine hK _ ?_
    clear hK K
    refine q_load (by kernel_rfl) 25 _ rfl s2 0 rfl _ X8.1 X8.inB rowIAttr (fun K hK => ?_)
    simp only [Act.put, List.setIfInBounds_toArray, List.set_cons_zero, List.set_cons_succ]
    refine hK _ ?_
    clear hK K
    refine q_load (by kernel_rfl) 25 _ rfl s3 0 rfl _ Y8.1 Y8.inB rowIAttr (fun K hK => ?_)
    simp only [Act.put, List.setIfInBounds_toArray, List.set_cons_zero, List.set_cons_succ]
    refine hK _ ?_
    clear hK K
    refine q_take (by kernel_rfl) (fun K hK => ?_)
    go_simp
    refine hK _ ?_
    clear hK K
    refine q_take (by kernel_rfl) (fun K hK => ?_)
    go_simp
    refine hK _ ?_
    clear hK K
    refine q_take (by kernel_rfl) (fun K hK => ?_)
    go_simp
    refine hK _ ?_
    clear hK K
    refine q_take (by kernel_rfl) (fun K hK => ?_)
    go_simp
    refine hK _ ?_
    clear hK K
    refine q_take (by kernel_rfl) (fun K hK => ?_)
    go_simp
    refine hK _ ?_
    clear hK K
    refine q_take (by kernel_rfl) (fun K hK => ?_)
    go_simp
    refine hK _ ?_
    clear hK K
    refine q_take (by kernel_rfl) (fun K hK => ?_)
    go_simp
    refine hK _ ?_
    clear hK K
    refine q_take (by kernel_rfl) (fun K hK => ?_)
    go_simp
    refine hK _ ?_
    clear hK K
    refine q_load (by kernel_rfl) 25 _ rfl s1 0 rfl _ P8.1 P8.inB rowIAttr (fun K hK => ?_)
    simp only [Act.put, List.setIfInBounds_toArray, List.set_cons_zero, List.set_cons_succ]
    refine hK _ ?_
    clear hK K
    refine q_take (by kernel_rfl) (fun K hK => ?_)
    go_simp
    apply Exists.intro
    refine ⟨fun _ => ?_, hK _ ?_⟩
    exact Calls.regrown_of (unhide CZ _)
    clear hK K
    refine q_load (by kernel_rfl) 25 _ rfl s1 0 rfl _ P8.1 P8.inB rowIAttr (fun K hK => ?_)
    simp only [Act.put, List.setIfInBounds_toArray, List.set_cons_zero, List.set_cons_succ]
    refine hK _ ?_
    clear hK K
    refine q_take (by kernel_rfl) (fun K hK => ?_)
    go_simp
    apply Exists.intro
    refine ⟨fun _ => ?_, hK _ ?_⟩
    exact Calls.regrown_of (unhide CZS _)
    clear hK K
    refine q_take (by kernel_rfl) (fun K hK => ?_)
    go_simp
    refine hK _ ?_
    clear hK K
    refine q_take (by kernel_rfl) (fun K hK => ?_)
    go_simp
    refine hK _ ?_
    clear hK K
    refine q_take (by kernel_rfl) (fun K hK => ?_)
    go_simp
    refine hK _ ?_
    clear hK K
    refine q_load (by kernel_rfl) 25 _ rfl s1 0 rfl _ P8.1 P8.inB rowIAttr (fun K hK => ?_)
    simp only [Act.put, List.setIfInBounds_toArray, List.set_cons_zero, List.set_cons_succ]
    refine hK _ ?_
    clear hK K
    refine q_take (by kernel_rfl) (fun K hK => ?_)
    go_simp
    apply Exists.intro
    refine ⟨fun _ => ?_, hK _ ?_⟩
    exact Calls.regrown_of (unhide CT _ (below_regrown _ _ _))
    clear hK K
    refine q_load (by kernel_rfl) 25 _ rfl s1 0 rfl _ P8.1 P8.inB rowIAttr (fun K hK => ?_)
    simp only [Act.put, List.setIfInBounds_toArray, List.set_cons_zero, List.set_cons_succ]
    refine hK _ ?_
    clear hK K
    refine q_take (by kernel_rfl) (fun K hK => ?_)
    go_simp
    apply Exists.intro
    refine ⟨fun _ => ?_, hK _ ?_⟩
    exact Calls.regrown_of (unhide CTS _)
    clear hK K
    refine q_take (by kernel_rfl) (fun K hK => ?_)
    go_simp
    refine hK _ ?_
    clear hK K
    refine q_take (by kernel_rfl) (fun K hK => ?_)
    go_simp
    refine hK _ ?_
    clear hK K
    refine wpQuiet_nil ?_
    intro _ hw9
    obtain ⟨⟨dq, osq⟩, hw9'⟩ := hw9
    subst hw9'
    have hHeld := below_regrown w8 dq osq
    generalize Go.Sort.grow (redrawn w8 dq) osq = wq at *
    clear mixed
    go_wp2
    go_meet
    exact ⟨rfl, hHeld⟩
  case rest =>
  obtain ⟨rfl, hbc⟩ := hcut
  have P9 := P8.keep hbc
  have X9 := X8.keep hbc
  have B9 := bthen B8 hbc
  have HH := hide hbc
  clear P8 X8 Y8 B8 CS CLI CLS CZS CTS hbc
  go_upto_region 10 with fail
  cases K1 with
  | false =>
    have hTX := unhide HTN rfl
    subst hTX
    clear HTN HTY
    cases fx with
    | true =>
      have hk9 := unhide HFK rfl
      replace hk9 : kx = key := hk9
      subst hk9
      clear HFK
      refine wp_region_quiet_below (by assumption) (by kernel_rfl) ?_
      refine q_load (by kernel_rfl) 25 _ rfl s1 0 rfl _ P9.1 P9.inB rowIAttr (fun K hK => ?_)
      simp only [Act.put, List.setIfInBounds_toArray, List.set_cons_zero, List.set_cons_succ]
      refine hK _ ?_
      clear hK K
      refine q_take (by kernel_rfl) (fun K hK => ?_)
      go_simp
      apply Exists.intro
      refine ⟨fun _ => ?_, hK _ ?_⟩
      exact Calls.regrown_of (unhide CT _ (bthen (unhide HH) (below_regrown _ _ _)))
      clear hK K
      refine q_take (by kernel_rfl) (fun K hK => ?_)
      go_simp
      refine hK _ ?_
      clear hK K
      refine q_load (by kernel_rfl) 25 _ rfl s1 0 rfl _ P9.1 P9.inB rowIAttr (fun K hK => ?_)
      simp only [Act.put, List.setIfInBounds_toArray, List.set_cons_zero, List.set_cons_succ]
      refine hK _ ?_
      clear hK K
      refine q_take (by kernel_rfl) (fun K hK => ?_)
      go_simp
      apply Exists.intro
      refine ⟨fun _ => ?_, hK _ ?_⟩
      exact Calls.regrown_of (unhide CO _)
      clear hK K
      refine q_take (by kernel_rfl) (fun K hK => ?_)
      go_simp
      refine hK _ ?_
      clear hK K
      refine q_take (by kernel_rfl) (fun K hK => ?_)
      go_simp
      refine hK _ ?_
      clear hK K
      refine q_take (by kernel_rfl) (fun K hK => ?_)
      go_simp
      refine hK _ ?_
      clear hK K
      refine q_take (by kernel_rfl) (fun K hK => ?_)
      go_simp
      refine hK _ ?_
      clear hK K
      refine q_take (by kernel_rfl) (fun K hK => ?_)
      go_simp
      refine hK _ ?_
      clear hK K
      refine q_take (by kernel_rfl) (fun K hK => ?_)
      go_simp
      refine hK _ ?_
      clear hK K
      refine q_cell (by kernel_rfl) 9 _ rfl s2 0 rfl _ (X9.2 0 _ rfl) plainStr (fun K hK => ?_)
      simp only [Act.put, List.setIfInBounds_toArray, List.set_cons_zero, List.set_cons_succ]
      refine hK _ ?_
      clear hK K
      refine q_take (by kernel_rfl) (fun K hK => ?_)
      go_simp
      refine hK _ ?_
      clear hK K
      refine q_take (by kernel_rfl) (fun K hK => ?_)
      go_simp
      refine hK _ ?_
      clear hK K
      refine q_take (by kernel_rfl) (fun K hK => ?_)
      go_simp
      refine hK _ ?_
      clear hK K
      refine q_take (by kernel_rfl) (fun K hK => ?_)
      go_simp
      refine hK _ ?_
      clear hK K
      refine q_take (by kernel_rfl) (fun K hK => ?_)
      go_simp
      refine hK _ ?_
      clear hK K
      refine q_load (by kernel_rfl) 25 _ rfl s1 0 rfl _ P9.1 P9.inB rowIAttr (fun K hK => ?_)
      simp only [Act.put, List.setIfInBounds_toArray, List.set_cons_zero, List.set_cons_succ]
      refine hK _ ?_
      clear hK K
      refine q_take (by kernel_rfl) (fun K hK => ?_)
      go_simp
      apply Exists.intro
      refine ⟨fun _ => ?_, hK _ ?_⟩
      exact Calls.regrown_of (unhide CZ _)
      clear hK K
      refine q_take (by kernel_rfl) (fun K hK => ?_)
      go_simp
      refine hK _ ?_
      clear hK K
      refine q_cell (by kernel_rfl) 9 _ rfl s1 0 rfl _ (P9.2 0 _ rfl) plainStr (fun K hK => ?_)
      simp only [Act.put, List.setIfInBounds_toArray, List.set_cons_zero, List.set_cons_succ]
      refine hK _ ?_
      clear hK K
      refine q_take (by kernel_rfl) (fun K hK => ?_)
      go_simp
      refine hK _ ?_
      clear hK K
      refine q_take (by kernel_rfl) (fun K hK => ?_)
      go_simp
      refine hK _ ?_
      clear hK K
      refine q_take (by kernel_rfl) (fun K hK => ?_)
      go_simp
      refine hK _ ?_
      clear hK K
      refine q_take (by kernel_rfl) (fun K hK => ?_)
      go_simp
      refine hK _ ?_
      clear hK K
      refine wpQuiet_nil ?_
      intro _ hw9
      obtain ⟨⟨dq, osq⟩, hw9'⟩ := hw9
      subst hw9'
      have hHeld := below_regrown wc dq osq
      generalize Go.Sort.grow (redrawn wc dq) osq = wq at *
      clear mixed
      have hfin := bthen B9 hHeld
      clear hHeld
      go_wp2
      go_ret
      exact ⟨rfl, hfin⟩
    | false =>
      clear HFK
      refine wp_region_quiet_below (by assumption) (by kernel_rfl) ?_
      refine q_load (by kernel_rfl) 25 _ rfl s1 0 rfl _ P9.1 P9.inB rowIAttr (fun K hK => ?_)
      simp only [Act.put, List.setIfInBounds_toArray, List.set_cons_zero, List.set_cons_succ]
      refine hK _ ?_
      clear hK K
      refine q_take (by kernel_rfl) (fun K hK => ?_)
      go_simp
      apply Exists.intro
      refine ⟨fun _ => ?_, hK _ ?_⟩
      exact Calls.regrown_of (unhide CT _ (bthen (unhide HH) (below_regrown _ _ _)))
      clear hK K
      refine q_take (by kernel_rfl) (fun K hK => ?_)
      go_simp
      refine hK _ ?_
      clear hK K
      refine q_load (by kernel_rfl) 25 _ rfl s1 0 rfl _ P9.1 P9.inB rowIAttr (fun K hK => ?_)
      simp only [Act.put, List.setIfInBounds_toArray, List.set_cons_zero, List.set_cons_succ]
      refine hK _ ?_
      clear hK K
      refine q_take (by kernel_rfl) (fun K hK => ?_)
      go_simp
      apply Exists.intro
      refine ⟨fun _ => ?_, hK _ ?_⟩
      exact Calls.regrown_of (unhide CO _)
      clear hK K
      refine q_take (by kernel_rfl) (fun K hK => ?_)
      go_simp
      refine hK _ ?_
      clear hK K
      refine q_take (by kernel_rfl) (fun K hK => ?_)
      go_simp
      refine hK _ ?_
      clear hK K
      refine q_take (by kernel_rfl) (fun K hK => ?_)
      go_simp
      refine hK _ ?_
      clear hK K
      refine q_take (by kernel_rfl) (fun K hK => ?_)
      go_simp
      refine hK _ ?_
      clear hK K
      refine q_take (by kernel_rfl) (fun K hK => ?_)
      go_simp
      refine hK _ ?_
      clear hK K
      refine q_skip (by rfl) ?_
      refine q_skip (by rfl) ?_
      refine q_skip (by rfl) ?_
      refine q_skip (by rfl) ?_
      refine q_take (by kernel_rfl) (fun K hK => ?_)
      go_simp
      refine hK _ ?_
      clear hK K
      refine q_take (by kernel_rfl) (fun K hK => ?_)
      go_simp
      refine hK _ ?_
      clear hK K
      refine q_take (by kernel_rfl) (fun K hK => ?_)
      go_simp
      refine hK _ ?_
      clear hK K
      refine q_load (by kernel_rfl) 25 _ rfl s1 0 rfl _ P9.1 P9.inB rowIAttr (fun K hK => ?_)
      simp only [Act.put, List.setIfInBounds_toArray, List.set_cons_zero, List.set_cons_succ]
      refine hK _ ?_
      clear hK K
      refine q_take (by kernel_rfl) (fun K hK => ?_)
      go_simp
      apply Exists.intro
      refine ⟨fun _ => ?_, hK _ ?_⟩
      exact Calls.regrown_of (unhide CZ _)
      clear hK K
      refine q_take (by kernel_rfl) (fun K hK => ?_)
      go_simp
      refine hK _ ?_
      clear hK K
      refine q_cell (by kernel_rfl) 9 _ rfl s1 0 rfl _ (P9.2 0 _ rfl) plainStr (fun K hK => ?_)
      simp only [Act.put, List.setIfInBounds_toArray, List.set_cons_zero, List.set_cons_succ]
      refine hK _ ?_
      clear hK K
      refine q_take (by kernel_rfl) (fun K hK => ?_)
      go_simp
      refine hK _ ?_
      clear hK K
      refine q_take (by kernel_rfl) (fun K hK => ?_)
      go_simp
      refine hK _ ?_
      clear hK K
      refine q_take (by kernel_rfl) (fun K hK => ?_)
      go_simp
      refine hK _ ?_
      clear hK K
      refine q_take (by kernel_rfl) (fun K hK => ?_)
      go_simp
      refine hK _ ?_
      clear hK K
      refine wpQuiet_nil ?_
      intro _ hw9
      obtain ⟨⟨dq, osq⟩, hw9'⟩ := hw9
      subst hw9'
      have hHeld := below_regrown wc dq osq
      generalize Go.Sort.grow (redrawn wc dq) osq = wq at *
      clear mixed
      have hfin := bthen B9 hHeld
      clear hHeld
      go_wp2
      go_ret
      exact ⟨rfl, hfin⟩
  | true =>
    have hTX := unhide HTY rfl
    have hT2 := ne_empty hTX
    clear HTN HTY
    cases fx with
    | true =>
      have hk9 := unhide HFK rfl
      replace hk9 : kx = key := hk9
      subst hk9
      clear HFK
      refine wp_region_quiet_below (by assumption) (by kernel_rfl) ?_
      refine q_load (by kernel_rfl) 25 _ rfl s1 0 rfl _ P9.1 P9.inB rowIAttr (fun K hK => ?_)
      simp only [Act.put, List.setIfInBounds_toArray, List.set_cons_zero, List.set_cons_succ]
      refine hK _ ?_
      clear hK K
      refine q_take (by kernel_rfl) (fun K hK => ?_)
      go_simp
      apply Exists.intro
      refine ⟨fun _ => ?_, hK _ ?_⟩
      exact Calls.regrown_of (unhide CT _ (bthen (unhide HH) (below_regrown _ _ _)))
      clear hK K
      refine q_take (by kernel_rfl) (fun K hK => ?_)
      go_simp
      refine hK _ ?_
      clear hK K
      refine q_load (by kernel_rfl) 25 _ rfl s1 0 rfl _ P9.1 P9.inB rowIAttr (fun K hK => ?_)
      simp only [Act.put, List.setIfInBounds_toArray, List.set_cons_zero, List.set_cons_succ]
      refine hK _ ?_
      clear hK K
      refine q_take (by kernel_rfl) (fun K hK => ?_)
      go_simp
      apply Exists.intro
      refine ⟨fun _ => ?_, hK _ ?_⟩
      exact Calls.regrown_of (unhide CO _)
      clear hK K
      refine q_take (by kernel_rfl) (fun K hK => ?_)
      go_simp
      refine hK _ ?_
      clear hK K
      refine q_take (by kernel_rfl) (fun K hK => ?_)
      go_simp
      refine hK _ ?_
      clear hK K
      refine q_take (by kernel_rfl) (fun K hK => ?_)
      go_simp
      refine hK _ ?_
      clear hK K
      refine q_take (by kernel_rfl) (fun K hK => ?_)
      go_simp
      refine hK _ ?_
      clear hK K
      refine q_take (by kernel_rfl) (fun K hK => ?_)
      go_simp
      refine hK _ ?_
      clear hK K
      refine q_take (by kernel_rfl) (fun K hK => ?_)
      go_simp
      refine hK _ ?_
      clear hK K
      refine q_cell (by kernel_rfl) 9 _ rfl s2 0 rfl _ (X9.2 0 _ rfl) plainStr (fun K hK => ?_)
      simp only [Act.put, List.setIfInBounds_toArray, List.set_cons_zero, List.set_cons_succ]
      refine hK _ ?_
      clear hK K
      refine q_take (by kernel_rfl) (fun K hK => ?_)
      go_simp
      refine hK _ ?_
      clear hK K
      refine q_take (by kernel_rfl) (fun K hK => ?_)
      go_simp
      refine hK _ ?_
      clear hK K
      refine q_take (by kernel_rfl) (fun K hK => ?_)
      go_simp
      refine hK _ ?_
      clear hK K
      refine q_take (by kernel_rfl) (fun K hK => ?_)
      go_simp
      refine hK _ ?_
      clear hK K
      refine q_take (by kernel_rfl) (fun K hK => ?_)
      go_simp
      refine hK _ ?_
      clear hK K
      refine q_load (by kernel_rfl) 25 _ rfl s1 0 rfl _ P9.1 P9.inB rowIAttr (fun K hK => ?_)
      simp only [Act.put, List.setIfInBounds_toArray, List.set_cons_zero, List.set_cons_succ]
      refine hK _ ?_
      clear hK K
      refine q_take (by kernel_rfl) (fun K hK => ?_)
      go_simp
      apply Exists.intro
      refine ⟨fun _ => ?_, hK _ ?_⟩
      exact Calls.regrown_of (unhide CZ _)
      clear hK K
      refine q_take (by kernel_rfl) (fun K hK => ?_)
      go_simp
      refine hK _ ?_
      clear hK K
      refine q_cell (by kernel_rfl) 9 _ rfl s1 0 rfl _ (P9.2 0 _ rfl) plainStr (fun K hK => ?_)
      simp only [Act.put, List.setIfInBounds_toArray, List.set_cons_zero, List.set_cons_succ]
      refine hK _ ?_
      clear hK K
      refine q_take (by kernel_rfl) (fun K hK => ?_)
      go_simp
      refine hK _ ?_
      clear hK K
      refine q_take (by kernel_rfl) (fun K hK => ?_)
      go_simp
      refine hK _ ?_
      clear hK K
      refine q_take (by kernel_rfl) (fun K hK => ?_)
      go_simp
      refine hK _ ?_
      clear hK K
      refine q_take (by kernel_rfl) (fun K hK => ?_)
      go_simp
      refine hK _ ?_
      clear hK K
      refine wpQuiet_nil ?_
      intro _ hw9
      obtain ⟨⟨dq, osq⟩, hw9'⟩ := hw9
      subst hw9'
      have hHeld := below_regrown wc dq osq
      generalize Go.Sort.grow (redrawn wc dq) osq = wq at *
      clear mixed
      have hfin := bthen B9 hHeld
      clear hHeld
      go_wp2
      go_ret
      exact ⟨rfl, hfin⟩
    | false =>
      clear HFK
      refine wp_region_quiet_below (by assumption) (by kernel_rfl) ?_
      refine q_load (by kernel_rfl) 25 _ rfl s1 0 rfl _ P9.1 P9.inB rowIAttr (fun K hK => ?_)
      simp only [Act.put, List.setIfInBounds_toArray, List.set_cons_zero, List.set_cons_succ]
      refine hK _ ?_
      clear hK K
      refine q_take (by kernel_rfl) (fun K hK => ?_)
      go_simp
      apply Exists.intro
      refine ⟨fun _ => ?_, hK _ ?_⟩
      exact Calls.regrown_of (unhide CT _ (bthen (unhide HH) (below_regrown _ _ _)))
      clear hK K
      refine q_take (by kernel_rfl) (fun K hK => ?_)
      go_simp
      refine hK _ ?_
      clear hK K
      refine q_load (by kernel_rfl) 25 _ rfl s1 0 rfl _ P9.1 P9.inB rowIAttr (fun K hK => ?_)
      simp only [Act.put, List.setIfInBounds_toArray, List.set_cons_zero, List.set_cons_succ]
      refine hK _ ?_
      clear hK K
      refine q_take (by kernel_rfl) (fun K hK => ?_)
      go_simp
      apply Exists.intro
      refine ⟨fun _ => ?_, hK _ ?_⟩
      exact Calls.regrown_of (unhide CO _)
      clear hK K
      refine q_take (by kernel_rfl) (fun K hK => ?_)
      go_simp
      refine hK _ ?_
      clear hK K
      refine q_take (by kernel_rfl) (fun K hK => ?_)
      go_simp
      refine hK _ ?_
      clear hK K
      refine q_take (by kernel_rfl) (fun K hK => ?_)
      go_simp
      refine hK _ ?_
      clear hK K
      refine q_take (by kernel_rfl) (fun K hK => ?_)
      go_simp
      refine hK _ ?_
      clear hK K
      refine q_take (by kernel_rfl) (fun K hK => ?_)
      go_simp
      refine hK _ ?_
      clear hK K
      refine q_skip (by rfl) ?_
      refine q_skip (by rfl) ?_
      refine q_skip (by rfl) ?_
      refine q_skip (by rfl) ?_
      refine q_take (by kernel_rfl) (fun K hK => ?_)
      go_simp
      refine hK _ ?_
      clear hK K
      refine q_take (by kernel_rfl) (fun K hK => ?_)
      go_simp
      refine hK _ ?_
      clear hK K
      refine q_take (by kernel_rfl) (fun K hK => ?_)
      go_simp
      refine hK _ ?_
      clear hK K
      refine q_load (by kernel_rfl) 25 _ rfl s1 0 rfl _ P9.1 P9.inB rowIAttr (fun K hK => ?_)
      simp only [Act.put, List.setIfInBounds_toArray, List.set_cons_zero, List.set_cons_succ]
      refine hK _ ?_
      clear hK K
      refine q_take (by kernel_rfl) (fun K hK => ?_)
      go_simp
      apply Exists.intro
      refine ⟨fun _ => ?_, hK _ ?_⟩
      exact Calls.regrown_of (unhide CZ _)
      clear hK K
      refine q_take (by kernel_rfl) (fun K hK => ?_)
      go_simp
      refine hK _ ?_
      clear hK K
      refine q_cell (by kernel_rfl) 9 _ rfl s1 0 rfl _ (P9.2 0 _ rfl) plainStr (fun K hK => ?_)
      simp only [Act.put, List.setIfInBounds_toArray, List.set_cons_zero, List.set_cons_succ]
      refine hK _ ?_
      clear hK K
      refine q_take (by kernel_rfl) (fun K hK => ?_)
      go_simp
      refine hK _ ?_
      clear hK K
      refine q_take (by kernel_rfl) (fun K hK => ?_)
      go_simp
      refine hK _ ?_
      clear hK K
      refine q_take (by kernel_rfl) (fun K hK => ?_)
      go_simp
      refine hK _ ?_
      clear hK K
      refine q_take (by kernel_rfl) (fun K hK => ?_)
      go_simp
      refine hK _ ?_
      clear hK K
      refine wpQuiet_nil ?_
      intro _ hw9
      obtain ⟨⟨dq, osq⟩, hw9'⟩ := hw9
      subst hw9'
      have hHeld := below_regrown wc dq osq
      generalize Go.Sort.grow (redrawn wc dq) osq = wq at *
      clear mixed
      have hfin := bthen B9 hHeld
      clear hHeld
      go_wp2
      go_ret
      exact ⟨rfl, hfin⟩

theorem contract (H : Type) (enc : TypeId × Value → H) (W : World) (base : Nat) (args : Array Value) (ds gs : List (DataW H)) (before : List MemPlace)
    (hval : ∀ (j : Nat) t v, Tryd.f3.params[j]? = some t → args[j]? = some v → Value.okWide Tryd.prog W .any base t v)
    (hW : DataW.Whole enc Tryd.prog Tryd.f3.params.toList Rows.fnAttrsSpec.vars false W args.toList ds gs before) (hL : laidMetH Tryd.prog Rows.fnAttrsRow.laid W) :
    Calls Tryd.prog 3 args W fun e W' => ∃ v, e = .returned v ∧ Rows.fnAttrsSpec.post enc Tryd.prog Tryd.f3 false true false false W args v W' := by
  have hW' := hW
  obtain ⟨p, q, hA0, hV, rfl, hfz, hnd⟩ := hW
  have hA : DataW.TrodAll enc Tryd.prog W 0 (fun _ => true) true Tryd.f3.params.toList args.toList ds p := hA0
  rw [Tryd.params3] at hA hval
  obtain ⟨v0, vs0, d0, ds0, p0, q0, hargs, rfl, rfl, h0, r0⟩ := trodAll_cons hA
  obtain ⟨rfl, rfl, rfl⟩ := trodAll_nil r0
  obtain rfl : args = #[v0] := by cases args; simp_all
  obtain ⟨rfl, rfl⟩ := trodVars_none hV
  obtain ⟨a0, len0, cap0, rfl⟩ := okWide_slice Tryd.underlying22 (hval 0 22 v0 rfl rfl)
  have k0 := h0
  have lt0 : ∀ x ∈ p0, x.block < W.heap.size := by obtain ⟨m, hm⟩ := k0; exact DataW.trod_lt m _ _ _ hm
  obtain ⟨z0, w0⟩ : ∃ zs, IsRow .u8 W a0 len0 cap0 zs := by
    obtain ⟨fuel, hf⟩ := h0
    rcases open_ints Tryd.underlying22 Tryd.underlying5 (by kernel_rfl) hf with ⟨hcs, _⟩ | ⟨x, l, c, zs, hcs, _, hl, hm, hz, _, hcell, hwz⟩
    · simp [Value.cells] at hcs
      obtain ⟨rfl, rfl, rfl⟩ := hcs
      exact ⟨[], .inl ⟨rfl, rfl, rfl, rfl⟩⟩
    · simp [Value.cells] at hcs
      obtain ⟨rfl, rfl, rfl⟩ := hcs
      exact ⟨zs, .inr ⟨_, rfl, hl, hm, by simpa using hz, hcell, hwz⟩⟩
  clear hA0
  refine (walk a0 len0 cap0 z0 W (table hL) w0).mono fun e W' ⟨he, bel⟩ => ?_
  subst he
  exact ⟨_, rfl, _, _, _, [], _, [], hW', trodAll_mk1 (shut_bool Tryd.underlying4 _), (trodAll_cons_mk (Below.trod laidOut (by kernel_rfl) (of_decide_eq_true (by kernel_rfl)) k0 bel lt0) trodAll_mk0), rfl, bel.frame _, fun h => by cases h⟩

theorem laid_met (os : Os) : laidMet Tryd.prog Rows.fnAttrsRow.laid (({ World.holding Tryd.prog os ⟨#[], #[], []⟩ with heap := ((((World.holding Tryd.prog os ⟨#[], #[], []⟩).heap.modify 2 fun | .cells _ t frozen => .cells #[.int .u8 0, .int .u8 1, .int .u8 28, .int .u8 2, .int .u8 29, .int .u8 14, .int .u8 24, .int .u8 3, .int .u8 30, .int .u8 22, .int .u8 20, .int .u8 15, .int .u8 25, .int .u8 17, .int .u8 4, .int .u8 8, .int .u8 31, .int .u8 27, .int .u8 13, .int .u8 23, .int .u8 21, .int .u8 19, .int .u8 16, .int .u8 7, .int .u8 26, .int .u8 12, .int .u8 18, .int .u8 6, .int .u8 11, .int .u8 5, .int .u8 10, .int .u8 9] t frozen | o => o).modify 3 fun | .cells _ t frozen => .cells #[.int .u8 0, .int .u8 1, .int .u8 56, .int .u8 2, .int .u8 57, .int .u8 49, .int .u8 28, .int .u8 3, .int .u8 61, .int .u8 58, .int .u8 42, .int .u8 50, .int .u8 38, .int .u8 29, .int .u8 17, .int .u8 4, .int .u8 62, .int .u8 47, .int .u8 59, .int .u8 36, .int .u8 45, .int .u8 43, .int .u8 51, .int .u8 22, .int .u8 53, .int .u8 39, .int .u8 33, .int .u8 30, .int .u8 24, .int .u8 18, .int .u8 12, .int .u8 5, .int .u8 63, .int .u8 55, .int .u8 48, .int .u8 27, .int .u8 60, .int .u8 41, .int .u8 37, .int .u8 16, .int .u8 46, .int .u8 35, .int .u8 44, .int .u8 21, .int .u8 52, .int .u8 32, .int .u8 23, .int .u8 11, .int .u8 54, .int .u8 26, .int .u8 40, .int .u8 15, .int .u8 34, .int .u8 20, .int .u8 31, .int .u8 10, .int .u8 25, .int .u8 14, .int .u8 19, .int .u8 9, .int .u8 13, .int .u8 8, .int .u8 7, .int .u8 6] t frozen | o => o).modify 1 fun | .cells _ t frozen => .cells #[.int .u64 1, .int .u64 10, .int .u64 100, .int .u64 1000, .int .u64 10000, .int .u64 100000, .int .u64 1000000, .int .u64 10000000, .int .u64 100000000, .int .u64 1000000000, .int .u64 10000000000, .int .u64 100000000000, .int .u64 1000000000000, .int .u64 10000000000000, .int .u64 100000000000000, .int .u64 1000000000000000, .int .u64 10000000000000000, .int .u64 100000000000000000, .int .u64 1000000000000000000, .int .u64 10000000000000000000] t frozen | o => o) } : World).forCall (fun _ _ => 0) ⟨#[], #[.slice none 0 0], []⟩).memory :=
  laidMet_of_run' 8 (by kernel_rfl) (by kernel_rfl)
theorem reads (os : Os) {H : Type} (enc : TypeId × Value → H) : ∃ places, DataW.whole enc Tryd.prog (({ World.holding Tryd.prog os ⟨#[], #[], []⟩ with heap := ((((World.holding Tryd.prog os ⟨#[], #[], []⟩).heap.modify 2 fun | .cells _ t frozen => .cells #[.int .u8 0, .int .u8 1, .int .u8 28, .int .u8 2, .int .u8 29, .int .u8 14, .int .u8 24, .int .u8 3, .int .u8 30, .int .u8 22, .int .u8 20, .int .u8 15, .int .u8 25, .int .u8 17, .int .u8 4, .int .u8 8, .int .u8 31, .int .u8 27, .int .u8 13, .int .u8 23, .int .u8 21, .int .u8 19, .int .u8 16, .int .u8 7, .int .u8 26, .int .u8 12, .int .u8 18, .int .u8 6, .int .u8 11, .int .u8 5, .int .u8 10, .int .u8 9] t frozen | o => o).modify 3 fun | .cells _ t frozen => .cells #[.int .u8 0, .int .u8 1, .int .u8 56, .int .u8 2, .int .u8 57, .int .u8 49, .int .u8 28, .int .u8 3, .int .u8 61, .int .u8 58, .int .u8 42, .int .u8 50, .int .u8 38, .int .u8 29, .int .u8 17, .int .u8 4, .int .u8 62, .int .u8 47, .int .u8 59, .int .u8 36, .int .u8 45, .int .u8 43, .int .u8 51, .int .u8 22, .int .u8 53, .int .u8 39, .int .u8 33, .int .u8 30, .int .u8 24, .int .u8 18, .int .u8 12, .int .u8 5, .int .u8 63, .int .u8 55, .int .u8 48, .int .u8 27, .int .u8 60, .int .u8 41, .int .u8 37, .int .u8 16, .int .u8 46, .int .u8 35, .int .u8 44, .int .u8 21, .int .u8 52, .int .u8 32, .int .u8 23, .int .u8 11, .int .u8 54, .int .u8 26, .int .u8 40, .int .u8 15, .int .u8 34, .int .u8 20, .int .u8 31, .int .u8 10, .int .u8 25, .int .u8 14, .int .u8 19, .int .u8 9, .int .u8 13, .int .u8 8, .int .u8 7, .int .u8 6] t frozen | o => o).modify 1 fun | .cells _ t frozen => .cells #[.int .u64 1, .int .u64 10, .int .u64 100, .int .u64 1000, .int .u64 10000, .int .u64 100000, .int .u64 1000000, .int .u64 10000000, .int .u64 100000000, .int .u64 1000000000, .int .u64 10000000000, .int .u64 100000000000, .int .u64 1000000000000, .int .u64 10000000000000, .int .u64 100000000000000, .int .u64 1000000000000000, .int .u64 10000000000000000, .int .u64 100000000000000000, .int .u64 1000000000000000000, .int .u64 10000000000000000000] t frozen | o => o) } : World).forCall (fun _ _ => 0) ⟨#[], #[.slice none 0 0], []⟩).memory Tryd.f3.params.toList Rows.fnAttrsSpec.vars false #[Value.slice none 0 0].toList 8 = some ([.nil], [], places) :=
  ⟨[], by kernel_rfl⟩

set_option maxRecDepth 100000 in
theorem lifted (os : Os) (started : os.Started) (H : Type) (enc : TypeId × Value → H) (F : Stop.Interp) :
    ReturnsInHanded {} Tryd.checked os 3 .any ((OpenSpec.ofChange Rows.fnAttrsSpec).preRow enc Tryd.prog Tryd.f3 Rows.fnAttrsRow.domain false Rows.fnAttrsRow.laid) (((OpenSpec.ofChange Rows.fnAttrsSpec).at F).post enc Tryd.prog Tryd.f3 false true false false) := by
  obtain ⟨places, hx⟩ := reads os enc
  refine returnsInHanded_of_row (C := Tryd.checked) (s := OpenSpec.ofChange Rows.fnAttrsSpec) own started (by kernel_rfl) Tryd.func3
    (witness_row_at (enc := enc) (C := Tryd.checked) false ({ World.holding Tryd.prog os ⟨#[], #[], []⟩ with heap := ((((World.holding Tryd.prog os ⟨#[], #[], []⟩).heap.modify 2 fun | .cells _ t frozen => .cells #[.int .u8 0, .int .u8 1, .int .u8 28, .int .u8 2, .int .u8 29, .int .u8 14, .int .u8 24, .int .u8 3, .int .u8 30, .int .u8 22, .int .u8 20, .int .u8 15, .int .u8 25, .int .u8 17, .int .u8 4, .int .u8 8, .int .u8 31, .int .u8 27, .int .u8 13, .int .u8 23, .int .u8 21, .int .u8 19, .int .u8 16, .int .u8 7, .int .u8 26, .int .u8 12, .int .u8 18, .int .u8 6, .int .u8 11, .int .u8 5, .int .u8 10, .int .u8 9] t frozen | o => o).modify 3 fun | .cells _ t frozen => .cells #[.int .u8 0, .int .u8 1, .int .u8 56, .int .u8 2, .int .u8 57, .int .u8 49, .int .u8 28, .int .u8 3, .int .u8 61, .int .u8 58, .int .u8 42, .int .u8 50, .int .u8 38, .int .u8 29, .int .u8 17, .int .u8 4, .int .u8 62, .int .u8 47, .int .u8 59, .int .u8 36, .int .u8 45, .int .u8 43, .int .u8 51, .int .u8 22, .int .u8 53, .int .u8 39, .int .u8 33, .int .u8 30, .int .u8 24, .int .u8 18, .int .u8 12, .int .u8 5, .int .u8 63, .int .u8 55, .int .u8 48, .int .u8 27, .int .u8 60, .int .u8 41, .int .u8 37, .int .u8 16, .int .u8 46, .int .u8 35, .int .u8 44, .int .u8 21, .int .u8 52, .int .u8 32, .int .u8 23, .int .u8 11, .int .u8 54, .int .u8 26, .int .u8 40, .int .u8 15, .int .u8 34, .int .u8 20, .int .u8 31, .int .u8 10, .int .u8 25, .int .u8 14, .int .u8 19, .int .u8 9, .int .u8 13, .int .u8 8, .int .u8 7, .int .u8 6] t frozen | o => o).modify 1 fun | .cells _ t frozen => .cells #[.int .u64 1, .int .u64 10, .int .u64 100, .int .u64 1000, .int .u64 10000, .int .u64 100000, .int .u64 1000000, .int .u64 10000000, .int .u64 100000000, .int .u64 1000000000, .int .u64 10000000000, .int .u64 100000000000, .int .u64 1000000000000, .int .u64 10000000000000, .int .u64 100000000000000, .int .u64 1000000000000000, .int .u64 10000000000000000, .int .u64 100000000000000000, .int .u64 1000000000000000000, .int .u64 10000000000000000000] t frozen | o => o) } : World) #[.slice none 0 0] rfl (by kernel_rfl) (by kernel_rfl) (by kernel_rfl)
      (OpenSpec.preRow_of_cond 8 hx (by kernel_rfl) (fun k hk => by cases hk) (by kernel_rfl) (laid_met os))) ?_
  intro W base args ds gs before hval hW _ _ _ hL _ _
  exact contract H enc W base args ds gs before hval hW hL

theorem row : Rows.FnAttrsSaid :=
  OpenClaim.holds_of_cond 3 Tryd.f3 rfl rfl rfl rfl rfl rfl rfl ⟨rfl, rfl, rfl, rfl, rfl⟩ rfl rfl rfl rfl rfl (by kernel_rfl) Tryd.func3 (by kernel_rfl)
    (of_decide_eq_true (by kernel_rfl)) (by unfold Func.isWrapper; first | (rw [if_pos (by decide +kernel)]; kernel_rfl) | (rw [if_neg (by decide +kernel)]; exact ⟨rfl, rfl⟩))
    (fun os started H enc _ F => by rw [OpenClaim.pre_eq_preRow]; exact lifted os started H enc F)

theorem plain (f : FuncId) (fn : Func) (hf : Tryd.pinned.checked.prog.funcNamed "loop.example/g00488/laws.FnAttrs" = some f) (hfn : Tryd.pinned.checked.prog.funcs[f]? = some fn) :
    true = Tryd.pinned.checked.prog.looks [] ∧ ∀ (j : Nat) t, fn.params[j]? = some t → Tryd.pinned.checked.prog.wantsStandIn t = false := by
  obtain rfl : f = 3 := Option.some.inj ((show Tryd.prog.funcNamed "loop.example/g00488/laws.FnAttrs" = some 3 by kernel_rfl).symm.trans hf) |>.symm
  obtain rfl : fn = Tryd.f3 := (Option.some.inj (Tryd.func3.symm.trans hfn)).symm
  refine ⟨by kernel_rfl, fun j t ht => ?_⟩
  rw [Tryd.params3] at ht
  have h := Array.mem_of_getElem? ht
  simp at h
  obtain rfl := h
  all_goals first | exact (show Tryd.prog.wantsStandIn 22 = false by kernel_rfl)

/-- The card. -/
theorem proved : Rows.FnAttrsCardSaid :=
  Claim7.holds_tied_plain_at .later [] _ _ _ _ row (fun _ h => by cases h) (by kernel_rfl) (fun _ h => by cases h) fnAttrs_row_tie rfl ⟨rfl, rfl⟩ (by kernel_rfl) rfl plain (by kernel_rfl)
#print axioms proved
end Go.Proofs.YtnlacjedamngkaaDoor.fnAttrs
