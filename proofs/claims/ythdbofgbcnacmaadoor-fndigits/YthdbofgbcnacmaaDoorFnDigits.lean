/-
  Proved (the tied card): FnDigits answers true at every input (any drawn bytes): numbers come back of their digits; the library's tables read as the program's text lays them (the tie is the kit's); the seat's repository is a pruned copy.
-/
import Derived.Test.YthdbofgbcnacmaaDoorRows
import Derived.Test.YthdbofgbcnacmaaDoorTie
import Derived.Test.YthdbofgbcnacmaaDoorCards
import Derived.Test.YthdbofgbcnacmaaDoorNum
import Derived.Test.YthdbofgbcnacmaaDoorDraw
import Derived.Test.YthdbofgbcnacmaaDoorDrawStr
import Derived.Test.YthdbofgbcnacmaaDoorStr1
import Derived.Test.YthdbofgbcnacmaaDoorParse1
import Derived.Test.YthdbofgbcnacmaaDoorItoa
import Derived.Test.YthdbofgbcnacmaaDoorNumText
import Derived.Test.YthdbofgbcnacmaaDoorDigits
import Derived.WalkKit
import Derived.ProofKit
import Derived.OpenShut
import Derived.Deep.DeepHandedRow
import Derived.Lib.LaidTab
import Derived.LaidSub
namespace Go.Proofs.YthdbofgbcnacmaaDoor.fnDigits
open Go.ChangeShapes Go.WideShapes Go.ChangeAt Go.RowKit
open Go.ChangeMaps (open_string shut_string)
set_option linter.unusedVariables false

theorem gTab : Tryd.prog.globalNamed "internal/strconv.uint64pow10" = some 0 := by kernel_rfl
theorem gTabType : (Tryd.prog.globals[0]?).map (·.type) = some 54 := by kernel_rfl
theorem cellsTab : Tryd.prog.cellsOf 54 = 20 := by kernel_rfl
theorem cellsEl : Tryd.prog.cellsOf 46 = 1 := by kernel_rfl
theorem laidOut : laidOutB Tryd.prog = true := by kernel_rfl
theorem isTab : (Rows.laid_internal_strconv_uint64pow10 : DataW Unit) = Lib.tabData .u64 Lib.pow10Tab := by kernel_rfl
/-- What the row's list gives: the table of powers of ten. -/
theorem table {W : World} (h : laidMetH Tryd.prog Rows.fnDigitsRow.laid W) : Lib.TabIs Tryd.prog W "internal/strconv.uint64pow10" .u64 Lib.pow10Tab := by
  have h1 := h.filter (fun x => x.1 == "internal/strconv.uint64pow10")
  have e : Rows.fnDigitsRow.laid.filter (fun x => x.1 == "internal/strconv.uint64pow10") = [("internal/strconv.uint64pow10", Lib.tabData .u64 Lib.pow10Tab)] := by
    rw [← isTab]; kernel_rfl
  rw [e] at h1
  exact Lib.tabIs_of_head (rest := []) gTab gTabType Tryd.underlying54 Tryd.underlying46 cellsEl cellsTab h1
def IsRow (k : IntKind) (w : World) (a : Option Addr) (len cap : Nat) (zs : List Int) : Prop :=
  (a = none ∧ len = 0 ∧ cap = 0 ∧ zs = []) ∨
  ∃ x, a = some x ∧ len ≤ cap ∧ cap ≤ maxLen ∧ zs.length = cap ∧ (∀ i, i < zs.length → w.cell? (x.add i) = some (.int k (zs.getD i 0))) ∧ ∀ n ∈ zs, (Lit.int k n).wf = true

theorem walk (a0 : Option Addr) (len0 cap0 : Nat) (z0 : List Int) (w : World) (htab : Lib.TabIs Tryd.prog w "internal/strconv.uint64pow10" .u64 Lib.pow10Tab) (w0 : IsRow .u8 w a0 len0 cap0 z0) :
    Calls Tryd.prog 3 #[.slice a0 len0 cap0] w fun e w' => e = .returned (.bool true) ∧ Below w.heap.size w w' := by
  have hy : Bytes w a0 len0 := bytes_of_row w0
  by_cases hbig : 1048576 < len0
  · have hbig' : (1048576 : Int) < (len0 : Int) := by omega
    go_enter Tryd.func3, Tryd.ntmps3
    go_wp2_with (go_at_call 4; refine (big_any _ _ _ _).mono ?_; rintro e w' ⟨rfl, rfl⟩)
    go_ret
    exact ⟨rfl, Below.refl _ _⟩
  have hbig' : decide ((1048576 : Int) < (len0 : Int)) = false := decide_eq_false (by omega)
  go_enter Tryd.func3, Tryd.ntmps3
  go_wp2_with fail
  refine (big_any _ _ _ _).mono ?_
  rintro e w' ⟨rfl, rfl⟩
  go_wp2_with fail
  refine (DrawNumText_any a0 len0 cap0 w (by omega) hy).mono ?_
  rintro e w1 ⟨⟨n, rfl, hn⟩, hb1⟩
  go_wp2_with fail
  refine (implNumText n hn.1 hn.2 w1 (htab_keep htab hb1)).mono ?_
  rintro e w2 ⟨rfl, hb2⟩
  replace hb2 := bthen hb1 hb2
  clear hb1
  have hs1 := itoa_size n hn
  generalize hs : (⟨(Lib.itoa n).toArray⟩ : ByteArray) = s at *
  have HS := hide hs
  clear hs
  go_wp2_with fail
  refine (implParseNum s w2 (by unfold maxLen; omega)).mono ?_
  rintro e w3 ⟨rfl, hb3⟩
  replace hb3 := bthen hb2 hb3
  clear hb2
  go_wp2_with fail
  refine (DrawParseNum_any a0 len0 cap0 w3 (by omega) (hy.keep hb3)).mono ?_
  rintro e w4 ⟨⟨t, rfl, ht⟩, hb4⟩
  replace hb4 := bthen hb3 hb4
  clear hb3
  go_wp2_with fail
  refine (implParseNum t w4 (by unfold maxLen; omega)).mono ?_
  rintro e w5 ⟨rfl, hb5⟩
  replace hb5 := bthen hb4 hb5
  clear hb4
  go_wp2_with fail
  refine (specParseNum t w5 (by unfold maxLen; omega)).mono ?_
  rintro e w6 ⟨rfl, hw6⟩
  obtain rfl := hw6.symm
  go_wp2_with fail
  refine (DrawNameOk_any a0 len0 cap0 w5 (by omega) (hy.keep hb5)).mono ?_
  rintro e w7 ⟨⟨u, rfl, hu⟩, hb7⟩
  replace hb7 := bthen hb5 hb7
  clear hb5
  go_wp2_with fail
  refine (DrawPlainOk_any a0 len0 cap0 w7 (by omega) (hy.keep hb7)).mono ?_
  rintro e w8 ⟨⟨v, rfl, hv⟩, hb8⟩
  replace hb8 := bthen hb7 hb8
  clear hb7
  have hus : u.size ≤ maxLen := by unfold maxLen; omega
  have hvs : v.size ≤ maxLen := by unfold maxLen; omega
  go_wp2_with fail
  refine (specNumText n hn.1 hn.2 w8).mono ?_
  rintro e w9 ⟨rfl, hb9⟩
  replace hb9 := bthen hb8 hb9
  clear hb8
  rw [unhide HS]
  clear hs1 hbig
  by_cases hn0 : n < 0
  · have hps : parseB s = false := by rw [← unhide HS]; exact parse_itoa_neg hn0
    have hd0 : decide (0 ≤ n) = false := decide_eq_false (by omega)
    rcases Bool.eq_false_or_eq_true (parseB t) with hp | hp
    · have HT := hide (itoa_parse hp)
      go_wp2_with fail
      refine (implNumText (parseV t) (unhide HT).2.1 (unhide HT).2.2 w9 (htab_keep htab hb9)).mono ?_
      rintro e wa ⟨rfl, hba⟩
      replace hba := bthen hb9 hba
      clear hb9
      rw [(unhide HT).1]
      go_wp2_with fail
      refine (implNameOk u wa hus).mono ?_
      rintro e wb ⟨rfl, hbb⟩
      replace hbb := bthen hba hbb
      clear hba
      go_wp2_with fail
      refine (specNameOk u wb hus).mono ?_
      rintro e wc ⟨rfl, hwc⟩
      obtain rfl := hwc.symm
      go_wp2_with fail
      refine (implPlainOk v wb hvs).mono ?_
      rintro e wd ⟨rfl, hbd⟩
      replace hbd := bthen hbb hbd
      clear hbb
      go_wp2_with fail
      refine (specPlainOk v wd hvs).mono ?_
      rintro e we ⟨rfl, hwe⟩
      obtain rfl := hwe.symm
      go_wp2
      go_ret
      exact ⟨rfl, hbd⟩
    · go_wp2_with fail
      refine (implNameOk u w9 hus).mono ?_
      rintro e wb ⟨rfl, hbb⟩
      replace hbb := bthen hb9 hbb
      clear hb9
      go_wp2_with fail
      refine (specNameOk u wb hus).mono ?_
      rintro e wc ⟨rfl, hwc⟩
      obtain rfl := hwc.symm
      go_wp2_with fail
      refine (implPlainOk v wb hvs).mono ?_
      rintro e wd ⟨rfl, hbd⟩
      replace hbd := bthen hbb hbd
      clear hbb
      go_wp2_with fail
      refine (specPlainOk v wd hvs).mono ?_
      rintro e we ⟨rfl, hwe⟩
      obtain rfl := hwe.symm
      go_wp2
      go_ret
      exact ⟨rfl, hbd⟩
  by_cases hn1 : 2147483647 < n
  · have hps : parseB s = false := by rw [← unhide HS]; exact parse_itoa_great hn1
    have hd0 : 0 ≤ n := by omega
    have hd1 : decide (n ≤ 2147483647) = false := decide_eq_false (by omega)
    rcases Bool.eq_false_or_eq_true (parseB t) with hp | hp
    · have HT := hide (itoa_parse hp)
      go_wp2_with fail
      refine (implNumText (parseV t) (unhide HT).2.1 (unhide HT).2.2 w9 (htab_keep htab hb9)).mono ?_
      rintro e wa ⟨rfl, hba⟩
      replace hba := bthen hb9 hba
      clear hb9
      rw [(unhide HT).1]
      go_wp2_with fail
      refine (implNameOk u wa hus).mono ?_
      rintro e wb ⟨rfl, hbb⟩
      replace hbb := bthen hba hbb
      clear hba
      go_wp2_with fail
      refine (specNameOk u wb hus).mono ?_
      rintro e wc ⟨rfl, hwc⟩
      obtain rfl := hwc.symm
      go_wp2_with fail
      refine (implPlainOk v wb hvs).mono ?_
      rintro e wd ⟨rfl, hbd⟩
      replace hbd := bthen hbb hbd
      clear hbb
      go_wp2_with fail
      refine (specPlainOk v wd hvs).mono ?_
      rintro e we ⟨rfl, hwe⟩
      obtain rfl := hwe.symm
      go_wp2
      go_ret
      exact ⟨rfl, hbd⟩
    · go_wp2_with fail
      refine (implNameOk u w9 hus).mono ?_
      rintro e wb ⟨rfl, hbb⟩
      replace hbb := bthen hb9 hbb
      clear hb9
      go_wp2_with fail
      refine (specNameOk u wb hus).mono ?_
      rintro e wc ⟨rfl, hwc⟩
      obtain rfl := hwc.symm
      go_wp2_with fail
      refine (implPlainOk v wb hvs).mono ?_
      rintro e wd ⟨rfl, hbd⟩
      replace hbd := bthen hbb hbd
      clear hbb
      go_wp2_with fail
      refine (specPlainOk v wd hvs).mono ?_
      rintro e we ⟨rfl, hwe⟩
      obtain rfl := hwe.symm
      go_wp2
      go_ret
      exact ⟨rfl, hbd⟩
  · have hps : parseB s = true := by rw [← unhide HS]; exact (parse_itoa_yes (by omega) (by omega)).1
    have hpv : parseV s = n := by rw [← unhide HS]; exact (parse_itoa_yes (by omega) (by omega)).2
    have hd0 : 0 ≤ n := by omega
    have hd1 : n ≤ 2147483647 := by omega
    rcases Bool.eq_false_or_eq_true (parseB t) with hp | hp
    · have HT := hide (itoa_parse hp)
      go_wp2_with fail
      refine (implNumText (parseV t) (unhide HT).2.1 (unhide HT).2.2 w9 (htab_keep htab hb9)).mono ?_
      rintro e wa ⟨rfl, hba⟩
      replace hba := bthen hb9 hba
      clear hb9
      rw [(unhide HT).1]
      go_wp2_with fail
      refine (implNameOk u wa hus).mono ?_
      rintro e wb ⟨rfl, hbb⟩
      replace hbb := bthen hba hbb
      clear hba
      go_wp2_with fail
      refine (specNameOk u wb hus).mono ?_
      rintro e wc ⟨rfl, hwc⟩
      obtain rfl := hwc.symm
      go_wp2_with fail
      refine (implPlainOk v wb hvs).mono ?_
      rintro e wd ⟨rfl, hbd⟩
      replace hbd := bthen hbb hbd
      clear hbb
      go_wp2_with fail
      refine (specPlainOk v wd hvs).mono ?_
      rintro e we ⟨rfl, hwe⟩
      obtain rfl := hwe.symm
      go_wp2
      go_ret
      exact ⟨rfl, hbd⟩
    · go_wp2_with fail
      refine (implNameOk u w9 hus).mono ?_
      rintro e wb ⟨rfl, hbb⟩
      replace hbb := bthen hb9 hbb
      clear hb9
      go_wp2_with fail
      refine (specNameOk u wb hus).mono ?_
      rintro e wc ⟨rfl, hwc⟩
      obtain rfl := hwc.symm
      go_wp2_with fail
      refine (implPlainOk v wb hvs).mono ?_
      rintro e wd ⟨rfl, hbd⟩
      replace hbd := bthen hbb hbd
      clear hbb
      go_wp2_with fail
      refine (specPlainOk v wd hvs).mono ?_
      rintro e we ⟨rfl, hwe⟩
      obtain rfl := hwe.symm
      go_wp2
      go_ret
      exact ⟨rfl, hbd⟩

theorem contract (H : Type) (enc : TypeId × Value → H) (W : World) (base : Nat) (args : Array Value) (ds gs : List (DataW H)) (before : List MemPlace)
    (hval : ∀ (j : Nat) t v, Tryd.f3.params[j]? = some t → args[j]? = some v → Value.okWide Tryd.prog W .any base t v)
    (hW : DataW.Whole enc Tryd.prog Tryd.f3.params.toList Rows.fnDigitsSpec.vars false W args.toList ds gs before) (hL : laidMetH Tryd.prog Rows.fnDigitsRow.laid W) :
    Calls Tryd.prog 3 args W fun e W' => ∃ v, e = .returned v ∧ Rows.fnDigitsSpec.post enc Tryd.prog Tryd.f3 false true false false W args v W' := by
  have hW' := hW
  obtain ⟨p, q, hA0, hV, rfl, hfz, hnd⟩ := hW
  have hA : DataW.TrodAll enc Tryd.prog W 0 (fun _ => true) true Tryd.f3.params.toList args.toList ds p := hA0
  rw [Tryd.params3] at hA hval
  obtain ⟨v0, vs0, d0, ds0, p0, q0, hargs, rfl, rfl, h0, r0⟩ := trodAll_cons hA
  obtain ⟨rfl, rfl, rfl⟩ := trodAll_nil r0
  obtain rfl : args = #[v0] := by cases args; simp_all
  obtain ⟨rfl, rfl⟩ := trodVars_none hV
  obtain ⟨a0, len0, cap0, rfl⟩ := okWide_slice Tryd.underlying22 (hval 0 22 v0 rfl rfl)
  have k0 := h0
  have lt0 : ∀ x ∈ p0, x.block < W.heap.size := by obtain ⟨m, hm⟩ := k0; exact DataW.trod_lt m _ _ _ hm
  obtain ⟨z0, w0⟩ : ∃ zs, IsRow .u8 W a0 len0 cap0 zs := by
    obtain ⟨fuel, hf⟩ := h0
    rcases open_ints Tryd.underlying22 Tryd.underlying5 (by kernel_rfl) hf with ⟨hcs, _⟩ | ⟨x, l, c, zs, hcs, _, hl, hm, hz, _, hcell, hwz⟩
    · simp [Value.cells] at hcs
      obtain ⟨rfl, rfl, rfl⟩ := hcs
      exact ⟨[], .inl ⟨rfl, rfl, rfl, rfl⟩⟩
    · simp [Value.cells] at hcs
      obtain ⟨rfl, rfl, rfl⟩ := hcs
      exact ⟨zs, .inr ⟨_, rfl, hl, hm, by simpa using hz, hcell, hwz⟩⟩
  clear hA0
  refine (walk a0 len0 cap0 z0 W (table hL) w0).mono fun e W' ⟨he, bel⟩ => ?_
  subst he
  exact ⟨_, rfl, _, _, _, [], _, [], hW', trodAll_mk1 (shut_bool Tryd.underlying4 _), (trodAll_cons_mk (Below.trod laidOut (by kernel_rfl) (of_decide_eq_true (by kernel_rfl)) k0 bel lt0) trodAll_mk0), rfl, bel.frame _, fun h => by cases h⟩

theorem laid_met (os : Os) : laidMet Tryd.prog Rows.fnDigitsRow.laid (({ World.holding Tryd.prog os ⟨#[], #[], []⟩ with heap := ((((World.holding Tryd.prog os ⟨#[], #[], []⟩).heap.modify 1 fun | .cells _ t frozen => .cells #[.int .u8 0, .int .u8 1, .int .u8 28, .int .u8 2, .int .u8 29, .int .u8 14, .int .u8 24, .int .u8 3, .int .u8 30, .int .u8 22, .int .u8 20, .int .u8 15, .int .u8 25, .int .u8 17, .int .u8 4, .int .u8 8, .int .u8 31, .int .u8 27, .int .u8 13, .int .u8 23, .int .u8 21, .int .u8 19, .int .u8 16, .int .u8 7, .int .u8 26, .int .u8 12, .int .u8 18, .int .u8 6, .int .u8 11, .int .u8 5, .int .u8 10, .int .u8 9] t frozen | o => o).modify 2 fun | .cells _ t frozen => .cells #[.int .u8 0, .int .u8 1, .int .u8 56, .int .u8 2, .int .u8 57, .int .u8 49, .int .u8 28, .int .u8 3, .int .u8 61, .int .u8 58, .int .u8 42, .int .u8 50, .int .u8 38, .int .u8 29, .int .u8 17, .int .u8 4, .int .u8 62, .int .u8 47, .int .u8 59, .int .u8 36, .int .u8 45, .int .u8 43, .int .u8 51, .int .u8 22, .int .u8 53, .int .u8 39, .int .u8 33, .int .u8 30, .int .u8 24, .int .u8 18, .int .u8 12, .int .u8 5, .int .u8 63, .int .u8 55, .int .u8 48, .int .u8 27, .int .u8 60, .int .u8 41, .int .u8 37, .int .u8 16, .int .u8 46, .int .u8 35, .int .u8 44, .int .u8 21, .int .u8 52, .int .u8 32, .int .u8 23, .int .u8 11, .int .u8 54, .int .u8 26, .int .u8 40, .int .u8 15, .int .u8 34, .int .u8 20, .int .u8 31, .int .u8 10, .int .u8 25, .int .u8 14, .int .u8 19, .int .u8 9, .int .u8 13, .int .u8 8, .int .u8 7, .int .u8 6] t frozen | o => o).modify 0 fun | .cells _ t frozen => .cells #[.int .u64 1, .int .u64 10, .int .u64 100, .int .u64 1000, .int .u64 10000, .int .u64 100000, .int .u64 1000000, .int .u64 10000000, .int .u64 100000000, .int .u64 1000000000, .int .u64 10000000000, .int .u64 100000000000, .int .u64 1000000000000, .int .u64 10000000000000, .int .u64 100000000000000, .int .u64 1000000000000000, .int .u64 10000000000000000, .int .u64 100000000000000000, .int .u64 1000000000000000000, .int .u64 10000000000000000000] t frozen | o => o) } : World).forCall (fun _ _ => 0) ⟨#[], #[.slice none 0 0], []⟩).memory :=
  laidMet_of_run' 8 (by kernel_rfl) (by kernel_rfl)
theorem reads (os : Os) {H : Type} (enc : TypeId × Value → H) : ∃ places, DataW.whole enc Tryd.prog (({ World.holding Tryd.prog os ⟨#[], #[], []⟩ with heap := ((((World.holding Tryd.prog os ⟨#[], #[], []⟩).heap.modify 1 fun | .cells _ t frozen => .cells #[.int .u8 0, .int .u8 1, .int .u8 28, .int .u8 2, .int .u8 29, .int .u8 14, .int .u8 24, .int .u8 3, .int .u8 30, .int .u8 22, .int .u8 20, .int .u8 15, .int .u8 25, .int .u8 17, .int .u8 4, .int .u8 8, .int .u8 31, .int .u8 27, .int .u8 13, .int .u8 23, .int .u8 21, .int .u8 19, .int .u8 16, .int .u8 7, .int .u8 26, .int .u8 12, .int .u8 18, .int .u8 6, .int .u8 11, .int .u8 5, .int .u8 10, .int .u8 9] t frozen | o => o).modify 2 fun | .cells _ t frozen => .cells #[.int .u8 0, .int .u8 1, .int .u8 56, .int .u8 2, .int .u8 57, .int .u8 49, .int .u8 28, .int .u8 3, .int .u8 61, .int .u8 58, .int .u8 42, .int .u8 50, .int .u8 38, .int .u8 29, .int .u8 17, .int .u8 4, .int .u8 62, .int .u8 47, .int .u8 59, .int .u8 36, .int .u8 45, .int .u8 43, .int .u8 51, .int .u8 22, .int .u8 53, .int .u8 39, .int .u8 33, .int .u8 30, .int .u8 24, .int .u8 18, .int .u8 12, .int .u8 5, .int .u8 63, .int .u8 55, .int .u8 48, .int .u8 27, .int .u8 60, .int .u8 41, .int .u8 37, .int .u8 16, .int .u8 46, .int .u8 35, .int .u8 44, .int .u8 21, .int .u8 52, .int .u8 32, .int .u8 23, .int .u8 11, .int .u8 54, .int .u8 26, .int .u8 40, .int .u8 15, .int .u8 34, .int .u8 20, .int .u8 31, .int .u8 10, .int .u8 25, .int .u8 14, .int .u8 19, .int .u8 9, .int .u8 13, .int .u8 8, .int .u8 7, .int .u8 6] t frozen | o => o).modify 0 fun | .cells _ t frozen => .cells #[.int .u64 1, .int .u64 10, .int .u64 100, .int .u64 1000, .int .u64 10000, .int .u64 100000, .int .u64 1000000, .int .u64 10000000, .int .u64 100000000, .int .u64 1000000000, .int .u64 10000000000, .int .u64 100000000000, .int .u64 1000000000000, .int .u64 10000000000000, .int .u64 100000000000000, .int .u64 1000000000000000, .int .u64 10000000000000000, .int .u64 100000000000000000, .int .u64 1000000000000000000, .int .u64 10000000000000000000] t frozen | o => o) } : World).forCall (fun _ _ => 0) ⟨#[], #[.slice none 0 0], []⟩).memory Tryd.f3.params.toList Rows.fnDigitsSpec.vars false #[Value.slice none 0 0].toList 8 = some ([.nil], [], places) :=
  ⟨[], by kernel_rfl⟩

set_option maxRecDepth 100000 in
theorem lifted (os : Os) (started : os.Started) (H : Type) (enc : TypeId × Value → H) (F : Stop.Interp) :
    ReturnsInHanded {} Tryd.checked os 3 .any ((OpenSpec.ofChange Rows.fnDigitsSpec).preRow enc Tryd.prog Tryd.f3 Rows.fnDigitsRow.domain false Rows.fnDigitsRow.laid) (((OpenSpec.ofChange Rows.fnDigitsSpec).at F).post enc Tryd.prog Tryd.f3 false true false false) := by
  obtain ⟨places, hx⟩ := reads os enc
  refine returnsInHanded_of_row (C := Tryd.checked) (s := OpenSpec.ofChange Rows.fnDigitsSpec) own started (by kernel_rfl) Tryd.func3
    (witness_row_at (enc := enc) (C := Tryd.checked) false ({ World.holding Tryd.prog os ⟨#[], #[], []⟩ with heap := ((((World.holding Tryd.prog os ⟨#[], #[], []⟩).heap.modify 1 fun | .cells _ t frozen => .cells #[.int .u8 0, .int .u8 1, .int .u8 28, .int .u8 2, .int .u8 29, .int .u8 14, .int .u8 24, .int .u8 3, .int .u8 30, .int .u8 22, .int .u8 20, .int .u8 15, .int .u8 25, .int .u8 17, .int .u8 4, .int .u8 8, .int .u8 31, .int .u8 27, .int .u8 13, .int .u8 23, .int .u8 21, .int .u8 19, .int .u8 16, .int .u8 7, .int .u8 26, .int .u8 12, .int .u8 18, .int .u8 6, .int .u8 11, .int .u8 5, .int .u8 10, .int .u8 9] t frozen | o => o).modify 2 fun | .cells _ t frozen => .cells #[.int .u8 0, .int .u8 1, .int .u8 56, .int .u8 2, .int .u8 57, .int .u8 49, .int .u8 28, .int .u8 3, .int .u8 61, .int .u8 58, .int .u8 42, .int .u8 50, .int .u8 38, .int .u8 29, .int .u8 17, .int .u8 4, .int .u8 62, .int .u8 47, .int .u8 59, .int .u8 36, .int .u8 45, .int .u8 43, .int .u8 51, .int .u8 22, .int .u8 53, .int .u8 39, .int .u8 33, .int .u8 30, .int .u8 24, .int .u8 18, .int .u8 12, .int .u8 5, .int .u8 63, .int .u8 55, .int .u8 48, .int .u8 27, .int .u8 60, .int .u8 41, .int .u8 37, .int .u8 16, .int .u8 46, .int .u8 35, .int .u8 44, .int .u8 21, .int .u8 52, .int .u8 32, .int .u8 23, .int .u8 11, .int .u8 54, .int .u8 26, .int .u8 40, .int .u8 15, .int .u8 34, .int .u8 20, .int .u8 31, .int .u8 10, .int .u8 25, .int .u8 14, .int .u8 19, .int .u8 9, .int .u8 13, .int .u8 8, .int .u8 7, .int .u8 6] t frozen | o => o).modify 0 fun | .cells _ t frozen => .cells #[.int .u64 1, .int .u64 10, .int .u64 100, .int .u64 1000, .int .u64 10000, .int .u64 100000, .int .u64 1000000, .int .u64 10000000, .int .u64 100000000, .int .u64 1000000000, .int .u64 10000000000, .int .u64 100000000000, .int .u64 1000000000000, .int .u64 10000000000000, .int .u64 100000000000000, .int .u64 1000000000000000, .int .u64 10000000000000000, .int .u64 100000000000000000, .int .u64 1000000000000000000, .int .u64 10000000000000000000] t frozen | o => o) } : World) #[.slice none 0 0] rfl (by kernel_rfl) (by kernel_rfl) (by kernel_rfl)
      (OpenSpec.preRow_of_cond 8 hx (by kernel_rfl) (fun k hk => by cases hk) (by kernel_rfl) (laid_met os))) ?_
  intro W base args ds gs before hval hW _ _ _ hL _ _
  exact contract H enc W base args ds gs before hval hW hL

theorem row : Rows.FnDigitsSaid :=
  OpenClaim.holds_of_cond 3 Tryd.f3 rfl rfl rfl rfl rfl rfl rfl ⟨rfl, rfl, rfl, rfl, rfl⟩ rfl rfl rfl rfl rfl (by kernel_rfl) Tryd.func3 (by kernel_rfl)
    (of_decide_eq_true (by kernel_rfl)) (by unfold Func.isWrapper; first | (rw [if_pos (by decide +kernel)]; kernel_rfl) | (rw [if_neg (by decide +kernel)]; exact ⟨rfl, rfl⟩))
    (fun os started H enc _ F => by rw [OpenClaim.pre_eq_preRow]; exact lifted os started H enc F)

theorem plain (f : FuncId) (fn : Func) (hf : Tryd.pinned.checked.prog.funcNamed "loop.example/g00488/laws.FnDigits" = some f) (hfn : Tryd.pinned.checked.prog.funcs[f]? = some fn) :
    false = Tryd.pinned.checked.prog.looks [] ∧ ∀ (j : Nat) t, fn.params[j]? = some t → Tryd.pinned.checked.prog.wantsStandIn t = false := by
  obtain rfl : f = 3 := Option.some.inj ((show Tryd.prog.funcNamed "loop.example/g00488/laws.FnDigits" = some 3 by kernel_rfl).symm.trans hf) |>.symm
  obtain rfl : fn = Tryd.f3 := (Option.some.inj (Tryd.func3.symm.trans hfn)).symm
  refine ⟨by kernel_rfl, fun j t ht => ?_⟩
  rw [Tryd.params3] at ht
  have h := Array.mem_of_getElem? ht
  simp at h
  obtain rfl := h
  all_goals first | exact (show Tryd.prog.wantsStandIn 22 = false by kernel_rfl)

/-- The card. -/
theorem proved : Rows.FnDigitsCardSaid :=
  Claim7.holds_tied_plain_at .later [] _ _ _ _ row (fun _ h => by cases h) (by kernel_rfl) (fun _ h => by cases h) fnDigits_row_tie rfl ⟨rfl, rfl⟩ (by kernel_rfl) rfl plain (by kernel_rfl)
#print axioms proved
end Go.Proofs.YthdbofgbcnacmaaDoor.fnDigits
