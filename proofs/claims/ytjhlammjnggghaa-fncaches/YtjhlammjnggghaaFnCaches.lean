/-
  Proved: FnCaches answers true at every input (any drawn bytes): what is remembered is known, and there is never more of it than may be; the first one is forgotten first; no condition.
-/
import Derived.Test.YtjhlammjnggghaaRows
import Derived.Test.YtjhlammjnggghaaCacA
import Derived.Test.YtjhlammjnggghaaQLoad
import Derived.WalkKit
import Derived.ProofKit
import Derived.OpenShut
import Derived.ShutString
import Derived.ChangeOld
import Derived.Below
namespace Go.Proofs.Ytjhlammjnggghaa.fnCaches
open Go.ChangeShapes Go.WideShapes Go.ChangeAt Go.RowKit
open Go.ChangeMaps (open_string shut_string)
set_option linter.unusedVariables false
set_option maxRecDepth 100000

theorem laidOut : laidOutB Try.prog = true := by kernel_rfl

/-- WHAT THE WALK IS TOLD OF A SLICE OF INTEGERS THAT CAME IN: it is nil; or it leads to a row of 'cap' cells, the numbers 'zs' (the first 'len' are its elements, the rest its spare room), each fitting its kind. -/
def IsRow (k : IntKind) (w : World) (a : Option Addr) (len cap : Nat) (zs : List Int) : Prop :=
  (a = none ∧ len = 0 ∧ cap = 0 ∧ zs = []) ∨
  ∃ x, a = some x ∧ len ≤ cap ∧ cap ≤ maxLen ∧ zs.length = cap ∧ (∀ i, i < zs.length → w.cell? (x.add i) = some (.int k (zs.getD i 0))) ∧ ∀ n ∈ zs, (Lit.int k n).wf = true

/-! ### STEP 1: THE WALK: the Go text returns true, AND WRITES NOTHING THAT WAS THERE: 'Below w.heap.size w w'' (Derived/Below.lean: '.refl', '.alloc', '.drew', '.setCell' at a new block, '.trans'). Open each 'IsRow' by 'rcases' AHEAD of 'go_enter'; part every test ahead of the walk. -/
theorem see_low {w : World} {p q : Nat} {v : Value} {l : List VerdictD} (h : LOw 3 verdictO w (Within p q) v l) : LAt 3 verdictR w All1 v l := (h.read verdictR_widens verdictO_read).widens verdictR_widens (fun _ _ => trivial)
theorem one_lit (w : World) (x : VerdictD) : LAt 3 verdictR (w.alloc (.cells #[.int .i64 x.trace, .int .i64 x.stamp, .bool x.keep] 59)) All1 (.slice (some ⟨w.heap.size, 0, none⟩) 1 1) [x] := by
  exact see_low (lowV (l := [x]) (WrAt.new w #[.int .i64 x.trace, .int .i64 x.stamp, .bool x.keep] 59 3 rfl) ((Held.new w [.int .i64 x.trace, .int .i64 x.stamp, .bool x.keep] 59).inB) (Nat.le_refl _) (by simp) 1)
set_option maxHeartbeats 4000000 in
theorem walk (a0 : Option Addr) (len0 cap0 : Nat) (z0 : List Int) (w : World) (w0 : IsRow .u8 w a0 len0 cap0 z0) :
    Calls Try.prog 6 #[.slice a0 len0 cap0] w fun e w' => e = .returned (.bool true) ∧ Below w.heap.size w w' := by
  have hy : Bytes w a0 len0 := bytes_of_row w0
  by_cases hbig : 1048576 < len0
  · have hbig' : (1048576 : Int) < (len0 : Int) := by omega
    go_enter Try.func6, Try.ntmps6
    go_wp2_with (go_at_call 33; refine (big_any _ _ _ _).mono ?_; rintro e w' ⟨rfl, rfl⟩)
    go_ret
    exact ⟨rfl, Below.refl _ _⟩
  have hbig' : decide ((1048576 : Int) < (len0 : Int)) = false := decide_eq_false (by omega)
  have hl0 : len0 ≤ 1048576 := by omega
  go_enter Try.func6, Try.ntmps6
  go_wp2_with fail
  refine (big_any _ _ _ _).mono ?_
  rintro e w' ⟨rfl, hw'⟩
  obtain rfl := hw'
  have Yv0 := hy
  have Bv0 := Below.refl w.heap.size w
  clear hy
  go_wp2_with fail
  refine (DrawRemember_any a0 len0 cap0 w hl0 Yv0).mono ?_
  rintro e w1 ⟨⟨v, l, x, n, rfl, hl6, hsx, hn0, hn1, hsee⟩, hb⟩
  obtain ⟨al, cl, rfl⟩ := hsee.1.form
  have HLn := hide hsee.1
  have HWL := hide (allV_ok hsee.2)
  have HVL := hide hsee.2
  clear hsee
  have Yv1 := Yv0.keep hb
  have Bv1 := bthen Bv0 hb
  clear Yv0 Bv0 hb
  have HLv1 := HLn
  clear HLn
  have bn := bnew w1 (.cells #[.int .i64 x.trace, .int .i64 x.stamp, .bool x.keep] 59)
  have Pn := Held.new w1 [.int .i64 x.trace, .int .i64 x.stamp, .bool x.keep] 59
  have Yv2 := Yv1.keep bn
  have Bv2 := bthen Bv1 bn
  have HLv2 := hide ((unhide HLv1).keep verdictR_keeps bn)
  clear Yv1 Bv1 HLv1 bn
  have Pv2 := Pn
  clear Pn
  go_upto_region 4 with (first | (refine wpl_store_new rfl _ _ _ rfl _ [.int .i64 x.trace, .int .i64 x.stamp, .bool x.keep] rfl rfl ?_ (by intro v hv; simp only [List.mem_cons, List.not_mem_nil, or_false] at hv; rcases hv with rfl | rfl | rfl <;> rfl) rowIVerdict ?_; rfl))
  generalize w1.heap.size = s4 at *
  generalize World.alloc w1 _ = w2 at *
  go_wp2_with (first | (refine wpl_load rfl 59 _ rfl _ 0 rfl [.int .i64 x.trace, .int .i64 x.stamp, .bool x.keep] Pv2.inB rowIVerdict ?_))
  refine (implRemember l x n _ _ w2 (unhide HLv2) (by rw [bulk_ver]; omega)).mono ?_
  rintro e w3 ⟨vm, rfl, lo, hb⟩
  obtain ⟨am, cm, rfl⟩ := lo.form
  have HMn := hide (see_low lo)
  clear lo
  have Yv3 := Yv2.keep hb
  have Bv3 := bthen Bv2 hb
  have HLv3 := hide ((unhide HLv2).keep verdictR_keeps hb)
  have Pv3 := Pv2.keep hb
  clear Yv2 Bv2 HLv2 Pv2 hb
  have HMv3 := HMn
  clear HMn
  have hrl := remL_len l x n
  have FA := hide (fun (h : n < 1) => And.intro (remL_no (l := l) (x := x) h) (remG_no2 (l := l) (x := x) h))
  have FB := hide (fun (h : ¬ n < 1) => And.intro (rem_len (l := l) (x := x) h) (And.intro (rem_last (l := l) (x := x) h) (And.intro (rem_verd (l := l) (x := x) h) (And.intro (fun hc => cok_rem (l := l) (x := x) h hc) (fun hc => gone_one (l := l) (x := x) h hc)))))
  have HWM := hide (allV_ok (allV_rem (unhide HVL) hsx n))
  clear HVL hsx
  go_wp2_with (first | (refine wpl_load rfl 59 _ rfl _ 0 rfl [.int .i64 x.trace, .int .i64 x.stamp, .bool x.keep] Pv3.inB rowIVerdict ?_))
  refine (specRemember l x n _ _ w3 (unhide HLv3) (by rw [bulk_ver]; omega)).mono ?_
  rintro e w4 ⟨vn, rfl, lo, hb⟩
  obtain ⟨an, cn, rfl⟩ := lo.form
  have HNn := hide (see_low lo)
  clear lo
  have Yv4 := Yv3.keep hb
  have Bv4 := bthen Bv3 hb
  have HLv4 := hide ((unhide HLv3).keep verdictR_keeps hb)
  have Pv4 := Pv3.keep hb
  have HMv4 := hide ((unhide HMv3).keep verdictR_keeps hb)
  clear Yv3 Bv3 HLv3 Pv3 HMv3 hb
  have HNv4 := HNn
  clear HNn
  generalize remL l x n = M at *
  generalize remG l x n = G at *
  have hM7 : M.length ≤ 7 := by omega
  clear hrl
  go_wp2_with fail
  refine (DrawCacheOk_any a0 len0 cap0 w4 hl0 Yv4).mono ?_
  rintro e w5 ⟨⟨va, la, na, rfl, hla, hna0, hna1, hsee⟩, hb⟩
  obtain ⟨aa, ca, rfl⟩ := hsee.1.form
  have HAn := hide hsee.1
  clear hsee
  have Yv5 := Yv4.keep hb
  have Bv5 := bthen Bv4 hb
  have HLv5 := hide ((unhide HLv4).keep verdictR_keeps hb)
  have Pv5 := Pv4.keep hb
  have HMv5 := hide ((unhide HMv4).keep verdictR_keeps hb)
  have HNv5 := hide ((unhide HNv4).keep verdictR_keeps hb)
  clear Yv4 Bv4 HLv4 Pv4 HMv4 HNv4 hb
  have HAv5 := HAn
  clear HAn
  go_wp2_with fail
  refine (DrawVerdictOf_any a0 len0 cap0 w5 hl0 Yv5).mono ?_
  rintro e w6 ⟨⟨vb, lb, nb, rfl, hlb, hnb0, hnb1, hsee⟩, hb⟩
  obtain ⟨ab, cb, rfl⟩ := hsee.1.form
  have HBn := hide hsee.1
  clear hsee
  have Yv6 := Yv5.keep hb
  have Bv6 := bthen Bv5 hb
  have HLv6 := hide ((unhide HLv5).keep verdictR_keeps hb)
  have Pv6 := Pv5.keep hb
  have HMv6 := hide ((unhide HMv5).keep verdictR_keeps hb)
  have HNv6 := hide ((unhide HNv5).keep verdictR_keeps hb)
  have HAv6 := hide ((unhide HAv5).keep verdictR_keeps hb)
  clear Yv5 Bv5 HLv5 Pv5 HMv5 HNv5 HAv5 hb
  have HBv6 := HBn
  clear HBn
  go_wp2_with fail
  refine (implVerdictOf lb nb _ _ w6 (unhide HBv6) (by rw [bulk_ver]; omega)).mono ?_
  rintro e w7 ⟨rfl, hb⟩
  have Yv7 := Yv6.keep hb
  have Bv7 := bthen Bv6 hb
  have HLv7 := hide ((unhide HLv6).keep verdictR_keeps hb)
  have Pv7 := Pv6.keep hb
  have HMv7 := hide ((unhide HMv6).keep verdictR_keeps hb)
  have HNv7 := hide ((unhide HNv6).keep verdictR_keeps hb)
  have HAv7 := hide ((unhide HAv6).keep verdictR_keeps hb)
  have HBv7 := hide ((unhide HBv6).keep verdictR_keeps hb)
  clear Yv6 Bv6 HLv6 Pv6 HMv6 HNv6 HAv6 HBv6 hb
  generalize hy0 : verdOf lb nb = y at *
  have HY0 := hide hy0
  clear hy0
  generalize hi0 : verdIs lb nb = yi at *
  have HI0 := hide hi0
  clear hi0
  have bn := bnew w7 (.cells #[.int .i64 y.trace, .int .i64 y.stamp, .bool y.keep] 59)
  have Rn := Held.new w7 [.int .i64 y.trace, .int .i64 y.stamp, .bool y.keep] 59
  have Yv8 := Yv7.keep bn
  have Bv8 := bthen Bv7 bn
  have HLv8 := hide ((unhide HLv7).keep verdictR_keeps bn)
  have Pv8 := Pv7.keep bn
  have HMv8 := hide ((unhide HMv7).keep verdictR_keeps bn)
  have HNv8 := hide ((unhide HNv7).keep verdictR_keeps bn)
  have HAv8 := hide ((unhide HAv7).keep verdictR_keeps bn)
  have HBv8 := hide ((unhide HBv7).keep verdictR_keeps bn)
  clear Yv7 Bv7 HLv7 Pv7 HMv7 HNv7 HAv7 HBv7 bn
  have Rv8 := Rn
  clear Rn
  go_upto_region 9 with (first | (refine wpl_store_new rfl _ _ _ rfl _ [.int .i64 y.trace, .int .i64 y.stamp, .bool y.keep] rfl rfl ?_ (by intro v hv; simp only [List.mem_cons, List.not_mem_nil, or_false] at hv; rcases hv with rfl | rfl | rfl <;> rfl) rowIVerdict ?_; rfl))
  generalize w7.heap.size = s14 at *
  generalize World.alloc w7 _ = w8 at *
  go_wp2_with fail
  refine (specVerdictOf lb nb _ _ w8 (unhide HBv8) (by rw [bulk_ver]; omega)).mono ?_
  rintro e w9 ⟨rfl, hb⟩
  have Yv9 := Yv8.keep hb
  have Bv9 := bthen Bv8 hb
  have HLv9 := hide ((unhide HLv8).keep verdictR_keeps hb)
  have Pv9 := Pv8.keep hb
  have HMv9 := hide ((unhide HMv8).keep verdictR_keeps hb)
  have HNv9 := hide ((unhide HNv8).keep verdictR_keeps hb)
  have HAv9 := hide ((unhide HAv8).keep verdictR_keeps hb)
  have HBv9 := hide ((unhide HBv8).keep verdictR_keeps hb)
  have Rv9 := Rv8.keep hb
  clear Yv8 Bv8 HLv8 Pv8 HMv8 HNv8 HAv8 HBv8 Rv8 hb
  rw [unhide HY0, unhide HI0]
  have bn := bnew w9 (.cells #[.int .i64 y.trace, .int .i64 y.stamp, .bool y.keep] 59)
  have Sn := Held.new w9 [.int .i64 y.trace, .int .i64 y.stamp, .bool y.keep] 59
  have Yv10 := Yv9.keep bn
  have Bv10 := bthen Bv9 bn
  have HLv10 := hide ((unhide HLv9).keep verdictR_keeps bn)
  have Pv10 := Pv9.keep bn
  have HMv10 := hide ((unhide HMv9).keep verdictR_keeps bn)
  have HNv10 := hide ((unhide HNv9).keep verdictR_keeps bn)
  have HAv10 := hide ((unhide HAv9).keep verdictR_keeps bn)
  have HBv10 := hide ((unhide HBv9).keep verdictR_keeps bn)
  have Rv10 := Rv9.keep bn
  clear Yv9 Bv9 HLv9 Pv9 HMv9 HNv9 HAv9 HBv9 Rv9 bn
  have Sv10 := Sn
  clear Sn
  go_upto_region 10 with (first | (refine wpl_store_new rfl _ _ _ rfl _ [.int .i64 y.trace, .int .i64 y.stamp, .bool y.keep] rfl rfl ?_ (by intro v hv; simp only [List.mem_cons, List.not_mem_nil, or_false] at hv; rcases hv with rfl | rfl | rfl <;> rfl) rowIVerdict ?_; rfl))
  generalize w9.heap.size = s16 at *
  generalize World.alloc w9 _ = w10 at *
  go_wp2_with fail
  refine (DrawForgets_any a0 len0 cap0 w10 hl0 Yv10).mono ?_
  rintro e w11 ⟨⟨vc, lc, vd, ld, rfl, hlc, hld, hsc, hsd⟩, hb⟩
  obtain ⟨ac, cc, rfl⟩ := hsc.1.form
  obtain ⟨ad, cd, rfl⟩ := hsd.1.form
  have HCn := hide hsc.1
  have HDn := hide hsd.1
  have HWC := hide (allV_ok hsc.2)
  have HWD := hide (allV_ok hsd.2)
  clear hsc hsd
  have Yv11 := Yv10.keep hb
  have Bv11 := bthen Bv10 hb
  have HLv11 := hide ((unhide HLv10).keep verdictR_keeps hb)
  have Pv11 := Pv10.keep hb
  have HMv11 := hide ((unhide HMv10).keep verdictR_keeps hb)
  have HNv11 := hide ((unhide HNv10).keep verdictR_keeps hb)
  have HAv11 := hide ((unhide HAv10).keep verdictR_keeps hb)
  have HBv11 := hide ((unhide HBv10).keep verdictR_keeps hb)
  have Rv11 := Rv10.keep hb
  have Sv11 := Sv10.keep hb
  clear Yv10 Bv10 HLv10 Pv10 HMv10 HNv10 HAv10 HBv10 Rv10 Sv10 hb
  have HCv11 := HCn
  have HDv11 := HDn
  clear HCn HDn
  clear Yv11
  go_wp2_with fail
  refine (lawSameCache M _ _ _ _ w11 (unhide HMv11) (unhide HNv11)).mono ?_
  rintro e w12 ⟨rfl, hb⟩
  have Bv12 := bthen Bv11 hb
  have HLv12 := hide ((unhide HLv11).keep verdictR_keeps hb)
  have Pv12 := Pv11.keep hb
  have HMv12 := hide ((unhide HMv11).keep verdictR_keeps hb)
  have HNv12 := hide ((unhide HNv11).keep verdictR_keeps hb)
  have HAv12 := hide ((unhide HAv11).keep verdictR_keeps hb)
  have HBv12 := hide ((unhide HBv11).keep verdictR_keeps hb)
  have Rv12 := Rv11.keep hb
  have Sv12 := Sv11.keep hb
  have HCv12 := hide ((unhide HCv11).keep verdictR_keeps hb)
  have HDv12 := hide ((unhide HDv11).keep verdictR_keeps hb)
  clear Bv11 HLv11 Pv11 HMv11 HNv11 HAv11 HBv11 Rv11 Sv11 HCv11 HDv11 hb
  go_wp2_with fail
  refine (implCacheOk la na _ _ w12 (unhide HAv12) (by rw [bulk_ver]; omega)).mono ?_
  rintro e w13 ⟨rfl, hb⟩
  have Bv13 := bthen Bv12 hb
  have HLv13 := hide ((unhide HLv12).keep verdictR_keeps hb)
  have Pv13 := Pv12.keep hb
  have HMv13 := hide ((unhide HMv12).keep verdictR_keeps hb)
  have HNv13 := hide ((unhide HNv12).keep verdictR_keeps hb)
  have HAv13 := hide ((unhide HAv12).keep verdictR_keeps hb)
  have HBv13 := hide ((unhide HBv12).keep verdictR_keeps hb)
  have Rv13 := Rv12.keep hb
  have Sv13 := Sv12.keep hb
  have HCv13 := hide ((unhide HCv12).keep verdictR_keeps hb)
  have HDv13 := hide ((unhide HDv12).keep verdictR_keeps hb)
  clear Bv12 HLv12 Pv12 HMv12 HNv12 HAv12 HBv12 Rv12 Sv12 HCv12 HDv12 hb
  go_wp2_with fail
  refine (specCacheOk la na _ _ w13 (unhide HAv13) (by rw [bulk_ver]; omega)).mono ?_
  rintro e w14 ⟨rfl, hb⟩
  have Bv14 := bthen Bv13 hb
  have HLv14 := hide ((unhide HLv13).keep verdictR_keeps hb)
  have Pv14 := Pv13.keep hb
  have HMv14 := hide ((unhide HMv13).keep verdictR_keeps hb)
  have HNv14 := hide ((unhide HNv13).keep verdictR_keeps hb)
  have HAv14 := hide ((unhide HAv13).keep verdictR_keeps hb)
  have HBv14 := hide ((unhide HBv13).keep verdictR_keeps hb)
  have Rv14 := Rv13.keep hb
  have Sv14 := Sv13.keep hb
  have HCv14 := hide ((unhide HCv13).keep verdictR_keeps hb)
  have HDv14 := hide ((unhide HDv13).keep verdictR_keeps hb)
  clear Bv13 HLv13 Pv13 HMv13 HNv13 HAv13 HBv13 Rv13 Sv13 HCv13 HDv13 hb
  have qa0 := Rv14.2 0 _ rfl
  have qa1 := Rv14.2 1 _ rfl
  have qa2 := Rv14.2 2 _ rfl
  have qb0 := Sv14.2 0 _ rfl
  have qb1 := Sv14.2 1 _ rfl
  have qb2 := Sv14.2 2 _ rfl
  go_wp2_with fail
  refine (implForgets lc ld _ _ _ _ w14 (unhide HCv14) (by rw [bulk_ver]; omega) (unhide HDv14) (by rw [bulk_ver]; omega) (unhide HWC) (unhide HWD)).mono ?_
  rintro e w15 ⟨vf, rfl, lo, hb⟩
  obtain ⟨af, cf, rfl⟩ := lo.form
  have HFn := hide ((lo.read intR_widens (fun _ _ _ _ h => h)).widens intR_widens (T := All1) (fun _ _ => trivial))
  clear lo qa0 qa1 qa2 qb0 qb1 qb2
  have Bv15 := bthen Bv14 hb
  have HLv15 := hide ((unhide HLv14).keep verdictR_keeps hb)
  have Pv15 := Pv14.keep hb
  have HMv15 := hide ((unhide HMv14).keep verdictR_keeps hb)
  have HNv15 := hide ((unhide HNv14).keep verdictR_keeps hb)
  have HAv15 := hide ((unhide HAv14).keep verdictR_keeps hb)
  have HBv15 := hide ((unhide HBv14).keep verdictR_keeps hb)
  have Rv15 := Rv14.keep hb
  have Sv15 := Sv14.keep hb
  have HCv15 := hide ((unhide HCv14).keep verdictR_keeps hb)
  have HDv15 := hide ((unhide HDv14).keep verdictR_keeps hb)
  clear Bv14 HLv14 Pv14 HMv14 HNv14 HAv14 HBv14 Rv14 Sv14 HCv14 HDv14 hb
  have HFv15 := HFn
  clear HFn
  go_wp2_with fail
  refine (specForgets lc ld _ _ _ _ w15 (unhide HCv15) (by rw [bulk_ver]; omega) (unhide HDv15) (by rw [bulk_ver]; omega)).mono ?_
  rintro e w16 ⟨vg, rfl, lo, hb⟩
  obtain ⟨ag, cg, rfl⟩ := lo.form
  have HGn := hide ((lo.read intR_widens (fun _ _ _ _ h => h)).widens intR_widens (T := All1) (fun _ _ => trivial))
  clear lo
  have Bv16 := bthen Bv15 hb
  have HLv16 := hide ((unhide HLv15).keep verdictR_keeps hb)
  have Pv16 := Pv15.keep hb
  have HMv16 := hide ((unhide HMv15).keep verdictR_keeps hb)
  have HNv16 := hide ((unhide HNv15).keep verdictR_keeps hb)
  have HAv16 := hide ((unhide HAv15).keep verdictR_keeps hb)
  have HBv16 := hide ((unhide HBv15).keep verdictR_keeps hb)
  have Rv16 := Rv15.keep hb
  have Sv16 := Sv15.keep hb
  have HCv16 := hide ((unhide HCv15).keep verdictR_keeps hb)
  have HDv16 := hide ((unhide HDv15).keep verdictR_keeps hb)
  have HFv16 := hide ((unhide HFv15).keep intR_keeps hb)
  clear Bv15 HLv15 Pv15 HMv15 HNv15 HAv15 HBv15 Rv15 Sv15 HCv15 HDv15 HFv15 hb
  have HGv16 := HGn
  clear HGn
  go_wp2_with fail
  refine (lawSameInts2 (gone lc ld) _ _ _ _ w16 (unhide HFv16) (unhide HGv16)).mono ?_
  rintro e w17 ⟨rfl, hb⟩
  have Bv17 := bthen Bv16 hb
  have HLv17 := hide ((unhide HLv16).keep verdictR_keeps hb)
  have Pv17 := Pv16.keep hb
  have HMv17 := hide ((unhide HMv16).keep verdictR_keeps hb)
  have HNv17 := hide ((unhide HNv16).keep verdictR_keeps hb)
  have HAv17 := hide ((unhide HAv16).keep verdictR_keeps hb)
  have HBv17 := hide ((unhide HBv16).keep verdictR_keeps hb)
  have Rv17 := Rv16.keep hb
  have Sv17 := Sv16.keep hb
  have HCv17 := hide ((unhide HCv16).keep verdictR_keeps hb)
  have HDv17 := hide ((unhide HDv16).keep verdictR_keeps hb)
  have HFv17 := hide ((unhide HFv16).keep intR_keeps hb)
  have HGv17 := hide ((unhide HGv16).keep intR_keeps hb)
  clear Bv16 HLv16 Pv16 HMv16 HNv16 HAv16 HBv16 Rv16 Sv16 HCv16 HDv16 HFv16 HGv16 hb
  clear HFv17
  clear HGv17
  clear HCv17
  clear HDv17
  clear HAv17
  clear HBv17
  clear Rv17
  clear Sv17
  clear HNv17
  clear HWC HWD HY0 HI0
  go_upto_region 13 with fail
  by_cases hn : n < 1
  · obtain ⟨hM, hG⟩ := unhide FA (by omega)
    subst hM
    subst hG
    clear FA FB HWM
    go_wp2_with fail
    refine (lawSameCache M _ _ _ _ w17 (unhide HMv17) (unhide HLv17)).mono ?_
    rintro e w18 ⟨rfl, hb⟩
    have Bv18 := bthen Bv17 hb
    have HLv18 := hide ((unhide HLv17).keep verdictR_keeps hb)
    have Pv18 := Pv17.keep hb
    have HMv18 := hide ((unhide HMv17).keep verdictR_keeps hb)
    clear Bv17 HLv17 Pv17 HMv17 hb
    go_wp2
    go_ret
    exact ⟨rfl, Bv18⟩
  · obtain ⟨⟨hm1, hm2⟩, hml, ⟨hvd, hvi⟩, hck, hgo⟩ := unhide FB (by omega)
    clear FA FB
    have qx := Pv17.2 0 _ rfl
    have HVD := hide (And.intro hvd hvi)
    have HML := hide hml
    have HCK := hide hck
    have HGO := hide hgo
    clear hvd hvi hml hck hgo
    go_wp2_with fail
    refine (implVerdictOf M x.trace _ _ w17 (unhide HMv17) (by rw [bulk_ver]; omega)).mono ?_
    rintro e w19 ⟨rfl, hb⟩
    clear qx
    have Bv18 := bthen Bv17 hb
    have HLv18 := hide ((unhide HLv17).keep verdictR_keeps hb)
    have Pv18 := Pv17.keep hb
    have HMv18 := hide ((unhide HMv17).keep verdictR_keeps hb)
    clear Bv17 HLv17 Pv17 HMv17 hb
    rw [(unhide HVD).1, (unhide HVD).2]
    clear HVD
    have bn := bnew w19 (.cells #[.int .i64 x.trace, .int .i64 x.stamp, .bool x.keep] 59)
    have Tn := Held.new w19 [.int .i64 x.trace, .int .i64 x.stamp, .bool x.keep] 59
    have Bv19 := bthen Bv18 bn
    have HLv19 := hide ((unhide HLv18).keep verdictR_keeps bn)
    have Pv19 := Pv18.keep bn
    have HMv19 := hide ((unhide HMv18).keep verdictR_keeps bn)
    clear Bv18 HLv18 Pv18 HMv18 bn
    have Tv19 := Tn
    clear Tn
    go_upto_region 16 with (first | (refine wpl_store_new rfl _ _ _ rfl _ [.int .i64 x.trace, .int .i64 x.stamp, .bool x.keep] rfl rfl ?_ (by intro v hv; simp only [List.mem_cons, List.not_mem_nil, or_false] at hv; rcases hv with rfl | rfl | rfl <;> rfl) rowIVerdict ?_; rfl))
    generalize w19.heap.size = s20 at *
    generalize World.alloc w19 _ = w20 at *
    obtain ⟨j, hj⟩ : ∃ j, M.length = j + 1 := ⟨M.length - 1, by omega⟩
    have hMj : M[j]? = some x := by have h9 := unhide HML; rw [hj] at h9; exact h9
    have hjl : j < M.length := by omega
    obtain ⟨bm, om, csm, ham, hbm, _, hcsm, him⟩ := (unhide HMv19).at j hjl
    have hMe : M[j] = x := Option.some.inj ((List.getElem?_eq_getElem hjl).symm.trans hMj)
    rw [hMe] at hcsm
    obtain rfl : csm = _ := hcsm
    subst ham
    have CL := hide (fun wx (hb : Below w20.heap.size w20 wx) => implCacheOk l n _ _ wx ((unhide HLv19).keep verdictR_keeps hb) (by rw [bulk_ver]; omega))
    have CM := hide (fun wx (hb : Below w20.heap.size w20 wx) => implCacheOk M n _ _ wx ((unhide HMv19).keep verdictR_keeps hb) (by rw [bulk_ver]; omega))
    have CF := hide (fun wx (hb : Below w20.heap.size w20 wx) => implForgets l M _ _ _ _ wx ((unhide HLv19).keep verdictR_keeps hb) (by rw [bulk_ver]; omega) ((unhide HMv19).keep verdictR_keeps hb) (by rw [bulk_ver]; omega) (unhide HWL) (unhide HWM))
    clear HLv19 HMv19 HML hMj hMe hjl HWL HWM
    rw [hj] at CM CF hm1 hm2 hM7 ⊢
    clear hj
    have hm3 : ((j : Int) + 1) ≤ n := by omega
    have hm4 : (1 : Int) ≤ (j : Int) + 1 := by omega
    have hjj : (j : Int) < (j : Int) + 1 := by omega
    have HWJ : Hid (IntKind.i64.wrap (j : Int) = (j : Int)) := hide (by rw [IntKind.wrap_i64]; omega)
    cases hc : cokB l n with
    | false =>
      rw [hc] at CL
      clear hc CM CF HCK HGO
      have mixed : Try.prog.follows .mixedOrders = true := by kernel_rfl
      refine wq_region (by assumption) (by kernel_rfl) ?_
      refine q_take (by kernel_rfl) (fun K hK => ?_)
      go_simp
      refine hK _ ?_
      clear hK K
      refine q_take (by kernel_rfl) (fun K hK => ?_)
      go_simp
      refine hK _ ?_
      clear hK K
      refine q_take (by kernel_rfl) (fun K hK => ?_)
      go_simp
      refine hK _ ?_
      clear hK K
      refine q_take (by kernel_rfl) (fun K hK => ?_)
      go_simp
      refine hK _ ?_
      clear hK K
      refine q_take (by kernel_rfl) (fun K hK => ?_)
      go_simp
      refine hK _ ?_
      clear hK K
      refine q_take (by kernel_rfl) (fun K hK => ?_)
      go_simp
      refine hK _ ?_
      clear hK K
      refine q_take (by kernel_rfl) (fun K hK => ?_)
      go_simp
      refine hK _ ?_
      clear hK K
      refine q_take (by kernel_rfl) (fun K hK => ?_)
      go_simp
      refine hK _ ?_
      clear hK K
      refine q_take (by kernel_rfl) (fun K hK => ?_)
      go_simp
      refine hK _ ?_
      clear hK K
      refine q_take (by kernel_rfl) (fun K hK => ?_)
      go_simp
      refine hK _ ?_
      clear hK K
      refine q_take (by kernel_rfl) (fun K hK => ?_)
      go_simp
      refine hK _ ?_
      clear hK K
      refine q_take (by kernel_rfl) (fun K hK => ?_)
      go_simp
      refine hK _ ?_
      clear hK K
      refine q_take (by kernel_rfl) (fun K hK => ?_)
      go_simp
      refine hK _ ?_
      clear hK K
      refine q_load (by kernel_rfl) 59 _ rfl s20 0 rfl [.int .i64 x.trace, .int .i64 x.stamp, .bool x.keep] Tv19.1 Tv19.inB rowIVerdict (fun K hK => ?_)
      simp only [Act.put, List.setIfInBounds_toArray, List.set_cons_zero, List.set_cons_succ]
      refine hK _ ?_
      clear hK K
      refine q_load (by kernel_rfl) 59 _ rfl s4 0 rfl [.int .i64 x.trace, .int .i64 x.stamp, .bool x.keep] Pv19.1 Pv19.inB rowIVerdict (fun K hK => ?_)
      simp only [Act.put, List.setIfInBounds_toArray, List.set_cons_zero, List.set_cons_succ]
      refine hK _ ?_
      clear hK K
      refine q_take (by kernel_rfl) (fun K hK => ?_)
      go_simp
      refine hK _ ?_
      clear hK K
      refine q_take (by kernel_rfl) (fun K hK => ?_)
      go_simp
      refine hK _ ?_
      clear hK K
      refine q_take (by kernel_rfl) (fun K hK => ?_)
      go_simp
      refine hK _ ?_
      clear hK K
      refine q_take (by kernel_rfl) (fun K hK => ?_)
      go_simp
      refine hK _ ?_
      clear hK K
      refine q_take (by kernel_rfl) (fun K hK => ?_)
      go_simp
      refine hK _ ?_
      clear hK K
      refine q_take (by kernel_rfl) (fun K hK => ?_)
      go_simp
      refine hK _ ?_
      clear hK K
      refine q_take (by kernel_rfl) (fun K hK => ?_)
      go_simp
      try rw [unhide HWJ]
      refine hK _ ?_
      clear hK K
      refine q_take (by kernel_rfl) (fun K hK => ?_)
      go_simp
      refine hK _ ?_
      clear hK K
      refine q_load (by kernel_rfl) 59 _ rfl bm (om + j * 3) rfl [.int .i64 x.trace, .int .i64 x.stamp, .bool x.keep] hbm him rowIVerdict (fun K hK => ?_)
      simp only [Act.put, List.setIfInBounds_toArray, List.set_cons_zero, List.set_cons_succ]
      refine hK _ ?_
      clear hK K
      refine q_load (by kernel_rfl) 59 _ rfl s4 0 rfl [.int .i64 x.trace, .int .i64 x.stamp, .bool x.keep] Pv19.1 Pv19.inB rowIVerdict (fun K hK => ?_)
      simp only [Act.put, List.setIfInBounds_toArray, List.set_cons_zero, List.set_cons_succ]
      refine hK _ ?_
      clear hK K
      refine q_take (by kernel_rfl) (fun K hK => ?_)
      go_simp
      refine hK _ ?_
      clear hK K
      refine q_take (by kernel_rfl) (fun K hK => ?_)
      go_simp
      refine hK _ ?_
      clear hK K
      refine q_take (by kernel_rfl) (fun K hK => ?_)
      go_simp
      refine hK _ ?_
      clear hK K
      refine q_take (by kernel_rfl) (fun K hK => ?_)
      go_simp
      refine hK _ ?_
      clear hK K
      refine q_take (by kernel_rfl) (fun K hK => ?_)
      go_simp
      refine hK _ ?_
      clear hK K
      refine q_take (by kernel_rfl) (fun K hK => ?_)
      go_simp
      apply Exists.intro
      refine ⟨fun _ => ?_, hK _ ?_⟩
      exact Calls.regrown_of (unhide CL _ (below_regrown _ _ _))
      clear hK K
      refine q_take (by kernel_rfl) (fun K hK => ?_)
      go_simp
      refine hK _ ?_
      clear hK K
      refine q_take (by kernel_rfl) (fun K hK => ?_)
      go_simp
      refine hK _ ?_
      clear hK K
      refine q_skipK (by kernel_rfl) (fun K hK => ?_)
      simp only [Act.put, List.setIfInBounds_toArray, List.set_cons_zero, List.set_cons_succ]
      refine hK _ ?_
      clear hK K
      refine q_skipK (by kernel_rfl) (fun K hK => ?_)
      simp only [Act.put, List.setIfInBounds_toArray, List.set_cons_zero, List.set_cons_succ]
      refine hK _ ?_
      clear hK K
      refine q_skipK (by kernel_rfl) (fun K hK => ?_)
      simp only [Act.put, List.setIfInBounds_toArray, List.set_cons_zero, List.set_cons_succ]
      refine hK _ ?_
      clear hK K
      refine q_skipK (by kernel_rfl) (fun K hK => ?_)
      simp only [Act.put, List.setIfInBounds_toArray, List.set_cons_zero, List.set_cons_succ]
      refine hK _ ?_
      clear hK K
      refine q_skipK (by kernel_rfl) (fun K hK => ?_)
      simp only [Act.put, List.setIfInBounds_toArray, List.set_cons_zero, List.set_cons_succ]
      refine hK _ ?_
      clear hK K
      refine q_skipK (by kernel_rfl) (fun K hK => ?_)
      simp only [Act.put, List.setIfInBounds_toArray, List.set_cons_zero, List.set_cons_succ]
      refine hK _ ?_
      clear hK K
      refine q_skipK (by kernel_rfl) (fun K hK => ?_)
      simp only [Act.put, List.setIfInBounds_toArray, List.set_cons_zero, List.set_cons_succ]
      refine hK _ ?_
      clear hK K
      refine q_skipK (by kernel_rfl) (fun K hK => ?_)
      simp only [Act.put, List.setIfInBounds_toArray, List.set_cons_zero, List.set_cons_succ]
      refine hK _ ?_
      clear hK K
      refine q_skipK (by kernel_rfl) (fun K hK => ?_)
      simp only [Act.put, List.setIfInBounds_toArray, List.set_cons_zero, List.set_cons_succ]
      refine hK _ ?_
      clear hK K
      refine q_skipK (by kernel_rfl) (fun K hK => ?_)
      simp only [Act.put, List.setIfInBounds_toArray, List.set_cons_zero, List.set_cons_succ]
      refine hK _ ?_
      clear hK K
      refine q_skipK (by kernel_rfl) (fun K hK => ?_)
      simp only [Act.put, List.setIfInBounds_toArray, List.set_cons_zero, List.set_cons_succ]
      refine hK _ ?_
      clear hK K
      refine q_skipK (by kernel_rfl) (fun K hK => ?_)
      simp only [Act.put, List.setIfInBounds_toArray, List.set_cons_zero, List.set_cons_succ]
      refine hK _ ?_
      clear hK K
      refine q_skipK (by kernel_rfl) (fun K hK => ?_)
      simp only [Act.put, List.setIfInBounds_toArray, List.set_cons_zero, List.set_cons_succ]
      refine hK _ ?_
      clear hK K
      refine q_skipK (by kernel_rfl) (fun K hK => ?_)
      simp only [Act.put, List.setIfInBounds_toArray, List.set_cons_zero, List.set_cons_succ]
      refine hK _ ?_
      clear hK K
      refine q_skipK (by kernel_rfl) (fun K hK => ?_)
      simp only [Act.put, List.setIfInBounds_toArray, List.set_cons_zero, List.set_cons_succ]
      refine hK _ ?_
      clear hK K
      refine q_take (by kernel_rfl) (fun K hK => ?_)
      go_simp
      refine hK _ ?_
      clear hK K
      refine q_take (by kernel_rfl) (fun K hK => ?_)
      go_simp
      refine hK _ ?_
      clear hK K
      refine q_take (by kernel_rfl) (fun K hK => ?_)
      go_simp
      refine hK _ ?_
      clear hK K
      refine wq_nil ?_
      intro _ hw9
      obtain ⟨⟨dq, osq⟩, hw9'⟩ := hw9
      subst hw9'
      have hHeld := below_regrown w20 dq osq
      generalize Go.Sort.grow (redrawn w20 dq) osq = wq at *
      clear mixed
      have hfin := bthen Bv19 hHeld
      clear hHeld
      go_wp2
      go_ret
      exact ⟨rfl, hfin⟩
    | true =>
      rw [hc] at CL
      have hCK := unhide HCK hc
      have hGO := unhide HGO hc
      rw [hCK] at CM
      clear hc HCK HGO hCK
      have hg1 : ((gone l M).length : Int) ≤ 1 := by omega
      clear hGO
      generalize gone l M = GL at *
      have CX := hide (fun wx v (h : LAt 3 verdictR wx All1 v [x]) => implCacheOk [x] n _ _ wx h (by rw [bulk_ver]; simp))
      generalize cokB [x] n = KX at *
      refine wp_region_held_drew (S := fun w' => Below w20.heap.size w20 w') (by kernel_rfl) (Below.drew (Below.refl _ _)) (fun hHeld => ?_)
      generalize w20.drew = zd at *
      refine wpAnyH_take (i := 0) (oi := ?oo1) (v := ?vv1) ?hi1 (by kernel_rfl) (by kernel_rfl) (by kernel_rfl) ?hQ1 ?hy1 (by assumption) ?rest1
      case hi1 => (simp only [List.getElem?_toArray, List.getElem?_cons_zero]; rfl)
      case hQ1 => exact fun _ _ _ h => h
      case hy1 => exact Or.inl ⟨by rfl, by intro wS hSw; (try dsimp only at hSw); go_simp; try first | (with_reducible rfl) | (simp only [*]; done) | omega⟩
      try simp only [Act.put, List.setIfInBounds_toArray, List.set_cons_zero, List.set_cons_succ]
      refine wpAnyH_take (i := 1) (oi := ?oo2) (v := ?vv2) ?hi2 (by kernel_rfl) (by kernel_rfl) (by kernel_rfl) ?hQ2 ?hy2 (by assumption) ?rest2
      case hi2 => (simp only [List.getElem?_toArray, List.getElem?_cons_zero, List.getElem?_cons_succ]; rfl)
      case hQ2 => exact fun _ _ _ h => h
      case hy2 => exact Or.inl ⟨by rfl, by intro wS hSw; (try dsimp only at hSw); go_simp; try first | (with_reducible rfl) | (simp only [*]; done) | omega⟩
      try simp only [Act.put, List.setIfInBounds_toArray, List.set_cons_zero, List.set_cons_succ]
      refine wpAnyH_take (i := 2) (oi := ?oo3) (v := ?vv3) ?hi3 (by kernel_rfl) (by kernel_rfl) (by kernel_rfl) ?hQ3 ?hy3 (by assumption) ?rest3
      case hi3 => (simp only [List.getElem?_toArray, List.getElem?_cons_zero, List.getElem?_cons_succ]; rfl)
      case hQ3 => exact fun _ _ _ h => h
      case hy3 => exact Or.inl ⟨by rfl, by intro wS hSw; (try dsimp only at hSw); go_simp; try first | (with_reducible rfl) | (simp only [*]; done) | omega⟩
      try simp only [Act.put, List.setIfInBounds_toArray, List.set_cons_zero, List.set_cons_succ]
      refine wpAnyH_take (i := 3) (oi := ?oo4) (v := ?vv4) ?hi4 (by kernel_rfl) (by kernel_rfl) (by kernel_rfl) ?hQ4 ?hy4 (by assumption) ?rest4
      case hi4 => (simp only [List.getElem?_toArray, List.getElem?_cons_zero, List.getElem?_cons_succ]; rfl)
      case hQ4 => exact fun _ _ _ h => h
      case hy4 => exact Or.inl ⟨by rfl, by intro wS hSw; (try dsimp only at hSw); go_simp; try first | (with_reducible rfl) | (simp only [*]; done) | omega⟩
      try simp only [Act.put, List.setIfInBounds_toArray, List.set_cons_zero, List.set_cons_succ]
      refine wpAnyH_take (i := 4) (oi := ?oo5) (v := ?vv5) ?hi5 (by kernel_rfl) (by kernel_rfl) (by kernel_rfl) ?hQ5 ?hy5 (by assumption) ?rest5
      case hi5 => (simp only [List.getElem?_toArray, List.getElem?_cons_zero, List.getElem?_cons_succ]; rfl)
      case hQ5 => exact fun _ _ _ h => h
      case hy5 => exact Or.inl ⟨by rfl, by intro wS hSw; (try dsimp only at hSw); go_simp; try first | (with_reducible rfl) | (simp only [*]; done) | omega⟩
      try simp only [Act.put, List.setIfInBounds_toArray, List.set_cons_zero, List.set_cons_succ]
      refine wpAnyH_take (i := 5) (oi := ?oo6) (v := ?vv6) ?hi6 (by kernel_rfl) (by kernel_rfl) (by kernel_rfl) ?hQ6 ?hy6 (by assumption) ?rest6
      case hi6 => (simp only [List.getElem?_toArray, List.getElem?_cons_zero, List.getElem?_cons_succ]; rfl)
      case hQ6 => exact fun _ _ _ h => h
      case hy6 => exact Or.inl ⟨by rfl, by intro wS hSw; (try dsimp only at hSw); go_simp; try first | (with_reducible rfl) | (simp only [*]; done) | omega⟩
      try simp only [Act.put, List.setIfInBounds_toArray, List.set_cons_zero, List.set_cons_succ]
      refine wpAnyH_take (i := 6) (oi := ?oo7) (v := ?vv7) ?hi7 (by kernel_rfl) (by kernel_rfl) (by kernel_rfl) ?hQ7 ?hy7 (by assumption) ?rest7
      case hi7 => (simp only [List.getElem?_toArray, List.getElem?_cons_zero, List.getElem?_cons_succ]; rfl)
      case hQ7 => exact fun _ _ _ h => h
      case hy7 => exact Or.inl ⟨by rfl, by intro wS hSw; (try dsimp only at hSw); go_simp; try first | (with_reducible rfl) | (simp only [*]; done) | omega⟩
      try simp only [Act.put, List.setIfInBounds_toArray, List.set_cons_zero, List.set_cons_succ]
      refine wpAnyH_take (i := 7) (oi := ?oo8) (v := ?vv8) ?hi8 (by kernel_rfl) (by kernel_rfl) (by kernel_rfl) ?hQ8 ?hy8 (by assumption) ?rest8
      case hi8 => (simp only [List.getElem?_toArray, List.getElem?_cons_zero, List.getElem?_cons_succ]; rfl)
      case hQ8 => exact fun _ _ _ h => h
      case hy8 => exact Or.inl ⟨by rfl, by intro wS hSw; (try dsimp only at hSw); go_simp; try first | (with_reducible rfl) | (simp only [*]; done) | omega⟩
      try simp only [Act.put, List.setIfInBounds_toArray, List.set_cons_zero, List.set_cons_succ]
      refine wpAnyH_take (i := 8) (oi := ?oo9) (v := ?vv9) ?hi9 (by kernel_rfl) (by kernel_rfl) (by kernel_rfl) ?hQ9 ?hy9 (by assumption) ?rest9
      case hi9 => (simp only [List.getElem?_toArray, List.getElem?_cons_zero, List.getElem?_cons_succ]; rfl)
      case hQ9 => exact fun _ _ _ h => h
      case hy9 => exact Or.inl ⟨by rfl, by intro wS hSw; (try dsimp only at hSw); go_simp; try first | (with_reducible rfl) | (simp only [*]; done) | omega⟩
      try simp only [Act.put, List.setIfInBounds_toArray, List.set_cons_zero, List.set_cons_succ]
      refine wpAnyH_take (i := 9) (oi := ?oo10) (v := ?vv10) ?hi10 (by kernel_rfl) (by kernel_rfl) (by kernel_rfl) ?hQ10 ?hy10 (by assumption) ?rest10
      case hi10 => (simp only [List.getElem?_toArray, List.getElem?_cons_zero, List.getElem?_cons_succ]; rfl)
      case hQ10 => exact fun _ _ _ h => h
      case hy10 => exact Or.inl ⟨by rfl, by intro wS hSw; (try dsimp only at hSw); go_simp; try first | (with_reducible rfl) | (simp only [*]; done) | omega⟩
      try simp only [Act.put, List.setIfInBounds_toArray, List.set_cons_zero, List.set_cons_succ]
      refine wpAnyH_take (i := 10) (oi := ?oo11) (v := ?vv11) ?hi11 (by kernel_rfl) (by kernel_rfl) (by kernel_rfl) ?hQ11 ?hy11 (by assumption) ?rest11
      case hi11 => (simp only [List.getElem?_toArray, List.getElem?_cons_zero, List.getElem?_cons_succ]; rfl)
      case hQ11 => exact fun _ _ _ h => h
      case hy11 => exact Or.inl ⟨by rfl, by intro wS hSw; (try dsimp only at hSw); go_simp; try first | (with_reducible rfl) | (simp only [*]; done) | omega⟩
      try simp only [Act.put, List.setIfInBounds_toArray, List.set_cons_zero, List.set_cons_succ]
      refine wpAnyH_take (i := 11) (oi := ?oo12) (v := ?vv12) ?hi12 (by kernel_rfl) (by kernel_rfl) (by kernel_rfl) ?hQ12 ?hy12 (by assumption) ?rest12
      case hi12 => (simp only [List.getElem?_toArray, List.getElem?_cons_zero, List.getElem?_cons_succ]; rfl)
      case hQ12 => exact fun _ _ _ h => h
      case hy12 => exact Or.inl ⟨by rfl, by intro wS hSw; (try dsimp only at hSw); go_simp; try first | (with_reducible rfl) | (simp only [*]; done) | omega⟩
      try simp only [Act.put, List.setIfInBounds_toArray, List.set_cons_zero, List.set_cons_succ]
      refine wpAnyH_take (i := 12) (oi := ?oo13) (v := ?vv13) ?hi13 (by kernel_rfl) (by kernel_rfl) (by kernel_rfl) ?hQ13 ?hy13 (by assumption) ?rest13
      case hi13 => (simp only [List.getElem?_toArray, List.getElem?_cons_zero, List.getElem?_cons_succ]; rfl)
      case hQ13 => exact fun _ _ _ h => h
      case hy13 => exact Or.inl ⟨by rfl, by intro wS hSw; (try dsimp only at hSw); go_simp; try first | (with_reducible rfl) | (simp only [*]; done) | omega⟩
      try simp only [Act.put, List.setIfInBounds_toArray, List.set_cons_zero, List.set_cons_succ]
      refine wpAnyH_take (i := 13) (oi := ?oo14) (v := .agg #[.int .i64 x.trace, .int .i64 x.stamp, .bool x.keep]) ?hi14 (by kernel_rfl) (by kernel_rfl) (by kernel_rfl) ?hQ14 ?hy14 (by assumption) ?rest14
      case hi14 => (simp only [List.getElem?_toArray, List.getElem?_cons_zero, List.getElem?_cons_succ]; rfl)
      case hQ14 => exact fun _ _ _ h => h
      case hy14 => exact yld_load (by rfl) 59 _ rfl s20 0 rfl [.int .i64 x.trace, .int .i64 x.stamp, .bool x.keep] (fun w' hS => (Held.keep Tv19 hS).inB) rowIVerdict
      try simp only [Act.put, List.setIfInBounds_toArray, List.set_cons_zero, List.set_cons_succ]
      refine wpAnyH_take (i := 14) (oi := ?oo15) (v := .agg #[.int .i64 x.trace, .int .i64 x.stamp, .bool x.keep]) ?hi15 (by kernel_rfl) (by kernel_rfl) (by kernel_rfl) ?hQ15 ?hy15 (by assumption) ?rest15
      case hi15 => (simp only [List.getElem?_toArray, List.getElem?_cons_zero, List.getElem?_cons_succ]; rfl)
      case hQ15 => exact fun _ _ _ h => h
      case hy15 => exact yld_load (by rfl) 59 _ rfl s4 0 rfl [.int .i64 x.trace, .int .i64 x.stamp, .bool x.keep] (fun w' hS => (Held.keep Pv19 hS).inB) rowIVerdict
      try simp only [Act.put, List.setIfInBounds_toArray, List.set_cons_zero, List.set_cons_succ]
      refine wpAnyH_take (i := 15) (oi := ?oo16) (v := ?vv16) ?hi16 (by kernel_rfl) (by kernel_rfl) (by kernel_rfl) ?hQ16 ?hy16 (by assumption) ?rest16
      case hi16 => (simp only [List.getElem?_toArray, List.getElem?_cons_zero, List.getElem?_cons_succ]; rfl)
      case hQ16 => exact fun _ _ _ h => h
      case hy16 => exact Or.inl ⟨by rfl, by intro wS hSw; (try dsimp only at hSw); go_simp; try first | (with_reducible rfl) | (simp only [*]; done) | omega⟩
      try simp only [Act.put, List.setIfInBounds_toArray, List.set_cons_zero, List.set_cons_succ]
      refine wpAnyH_take (i := 16) (oi := ?oo17) (v := ?vv17) ?hi17 (by kernel_rfl) (by kernel_rfl) (by kernel_rfl) ?hQ17 ?hy17 (by assumption) ?rest17
      case hi17 => (simp only [List.getElem?_toArray, List.getElem?_cons_zero, List.getElem?_cons_succ]; rfl)
      case hQ17 => exact fun _ _ _ h => h
      case hy17 => exact Or.inl ⟨by rfl, by intro wS hSw; (try dsimp only at hSw); go_simp; try first | (with_reducible rfl) | (simp only [*]; done) | omega⟩
      try simp only [Act.put, List.setIfInBounds_toArray, List.set_cons_zero, List.set_cons_succ]
      refine wpAnyH_take (i := 17) (oi := ?oo18) (v := ?vv18) ?hi18 (by kernel_rfl) (by kernel_rfl) (by kernel_rfl) ?hQ18 ?hy18 (by assumption) ?rest18
      case hi18 => (simp only [List.getElem?_toArray, List.getElem?_cons_zero, List.getElem?_cons_succ]; rfl)
      case hQ18 => exact fun _ _ _ h => h
      case hy18 => exact Or.inl ⟨by rfl, by intro wS hSw; (try dsimp only at hSw); go_simp; try first | (with_reducible rfl) | (simp only [*]; done) | omega⟩
      try simp only [Act.put, List.setIfInBounds_toArray, List.set_cons_zero, List.set_cons_succ]
      refine wpAnyH_take (i := 18) (oi := ?oo19) (v := ?vv19) ?hi19 (by kernel_rfl) (by kernel_rfl) (by kernel_rfl) ?hQ19 ?hy19 (by assumption) ?rest19
      case hi19 => (simp only [List.getElem?_toArray, List.getElem?_cons_zero, List.getElem?_cons_succ]; rfl)
      case hQ19 => exact fun _ _ _ h => h
      case hy19 => exact Or.inl ⟨by rfl, by intro wS hSw; (try dsimp only at hSw); go_simp; try first | (with_reducible rfl) | (simp only [*]; done) | omega⟩
      try simp only [Act.put, List.setIfInBounds_toArray, List.set_cons_zero, List.set_cons_succ]
      refine wpAnyH_take (i := 19) (oi := ?oo20) (v := ?vv20) ?hi20 (by kernel_rfl) (by kernel_rfl) (by kernel_rfl) ?hQ20 ?hy20 (by assumption) ?rest20
      case hi20 => (simp only [List.getElem?_toArray, List.getElem?_cons_zero, List.getElem?_cons_succ]; rfl)
      case hQ20 => exact fun _ _ _ h => h
      case hy20 => exact Or.inl ⟨by rfl, by intro wS hSw; (try dsimp only at hSw); go_simp; try first | (with_reducible rfl) | (simp only [*]; done) | omega⟩
      try simp only [Act.put, List.setIfInBounds_toArray, List.set_cons_zero, List.set_cons_succ]
      refine wpAnyH_take (i := 20) (oi := ?oo21) (v := ?vv21) ?hi21 (by kernel_rfl) (by kernel_rfl) (by kernel_rfl) ?hQ21 ?hy21 (by assumption) ?rest21
      case hi21 => (simp only [List.getElem?_toArray, List.getElem?_cons_zero, List.getElem?_cons_succ]; rfl)
      case hQ21 => exact fun _ _ _ h => h
      case hy21 => exact Or.inl ⟨by rfl, by intro wS hSw; (try dsimp only at hSw); go_simp; try first | (with_reducible rfl) | (simp only [*]; done) | omega⟩
      try simp only [Act.put, List.setIfInBounds_toArray, List.set_cons_zero, List.set_cons_succ]
      refine wpAnyH_take (i := 21) (oi := ?oo22) (v := .int .i64 (j : Int)) ?hi22 (by kernel_rfl) (by kernel_rfl) (by kernel_rfl) ?hQ22 ?hy22 (by assumption) ?rest22
      case hi22 => (simp only [List.getElem?_toArray, List.getElem?_cons_zero, List.getElem?_cons_succ]; rfl)
      case hQ22 => exact fun _ _ _ h => h
      case hy22 => exact Or.inl ⟨by rfl, by intro wS hSw; (try dsimp only at hSw); go_simp; first | (rw [unhide HWJ]) | (exact unhide HWJ)⟩
      try simp only [Act.put, List.setIfInBounds_toArray, List.set_cons_zero, List.set_cons_succ]
      refine wpAnyH_take (i := 22) (oi := ?oo23) (v := ?vv23) ?hi23 (by kernel_rfl) (by kernel_rfl) (by kernel_rfl) ?hQ23 ?hy23 (by assumption) ?rest23
      case hi23 => (simp only [List.getElem?_toArray, List.getElem?_cons_zero, List.getElem?_cons_succ]; rfl)
      case hQ23 => exact fun _ _ _ h => h
      case hy23 => exact Or.inl ⟨by rfl, by intro wS hSw; (try dsimp only at hSw); go_simp; try first | (with_reducible rfl) | (simp only [*]; done) | omega⟩
      try simp only [Act.put, List.setIfInBounds_toArray, List.set_cons_zero, List.set_cons_succ]
      refine wpAnyH_take (i := 23) (oi := ?oo24) (v := .agg #[.int .i64 x.trace, .int .i64 x.stamp, .bool x.keep]) ?hi24 (by kernel_rfl) (by kernel_rfl) (by kernel_rfl) ?hQ24 ?hy24 (by assumption) ?rest24
      case hi24 => (simp only [List.getElem?_toArray, List.getElem?_cons_zero, List.getElem?_cons_succ]; rfl)
      case hQ24 => exact fun _ _ _ h => h
      case hy24 => exact yld_load (by rfl) 59 _ rfl bm (om + j * 3) rfl [.int .i64 x.trace, .int .i64 x.stamp, .bool x.keep] (fun w' hS => InB.turn him hbm (Below.turn hS) (fun e => e)) rowIVerdict
      try simp only [Act.put, List.setIfInBounds_toArray, List.set_cons_zero, List.set_cons_succ]
      refine wpAnyH_take (i := 24) (oi := ?oo25) (v := .agg #[.int .i64 x.trace, .int .i64 x.stamp, .bool x.keep]) ?hi25 (by kernel_rfl) (by kernel_rfl) (by kernel_rfl) ?hQ25 ?hy25 (by assumption) ?rest25
      case hi25 => (simp only [List.getElem?_toArray, List.getElem?_cons_zero, List.getElem?_cons_succ]; rfl)
      case hQ25 => exact fun _ _ _ h => h
      case hy25 => exact yld_load (by rfl) 59 _ rfl s4 0 rfl [.int .i64 x.trace, .int .i64 x.stamp, .bool x.keep] (fun w' hS => (Held.keep Pv19 hS).inB) rowIVerdict
      try simp only [Act.put, List.setIfInBounds_toArray, List.set_cons_zero, List.set_cons_succ]
      refine wpAnyH_take (i := 25) (oi := ?oo26) (v := ?vv26) ?hi26 (by kernel_rfl) (by kernel_rfl) (by kernel_rfl) ?hQ26 ?hy26 (by assumption) ?rest26
      case hi26 => (simp only [List.getElem?_toArray, List.getElem?_cons_zero, List.getElem?_cons_succ]; rfl)
      case hQ26 => exact fun _ _ _ h => h
      case hy26 => exact Or.inl ⟨by rfl, by intro wS hSw; (try dsimp only at hSw); go_simp; try first | (with_reducible rfl) | (simp only [*]; done) | omega⟩
      try simp only [Act.put, List.setIfInBounds_toArray, List.set_cons_zero, List.set_cons_succ]
      refine wpAnyH_take (i := 26) (oi := ?oo27) (v := ?vv27) ?hi27 (by kernel_rfl) (by kernel_rfl) (by kernel_rfl) ?hQ27 ?hy27 (by assumption) ?rest27
      case hi27 => (simp only [List.getElem?_toArray, List.getElem?_cons_zero, List.getElem?_cons_succ]; rfl)
      case hQ27 => exact fun _ _ _ h => h
      case hy27 => exact Or.inl ⟨by rfl, by intro wS hSw; (try dsimp only at hSw); go_simp; try first | (with_reducible rfl) | (simp only [*]; done) | omega⟩
      try simp only [Act.put, List.setIfInBounds_toArray, List.set_cons_zero, List.set_cons_succ]
      refine wpAnyH_take (i := 27) (oi := ?oo28) (v := ?vv28) ?hi28 (by kernel_rfl) (by kernel_rfl) (by kernel_rfl) ?hQ28 ?hy28 (by assumption) ?rest28
      case hi28 => (simp only [List.getElem?_toArray, List.getElem?_cons_zero, List.getElem?_cons_succ]; rfl)
      case hQ28 => exact fun _ _ _ h => h
      case hy28 => exact Or.inl ⟨by rfl, by intro wS hSw; (try dsimp only at hSw); go_simp; try first | (with_reducible rfl) | (simp only [*]; done) | omega⟩
      try simp only [Act.put, List.setIfInBounds_toArray, List.set_cons_zero, List.set_cons_succ]
      refine wpAnyH_take (i := 28) (oi := ?oo29) (v := ?vv29) ?hi29 (by kernel_rfl) (by kernel_rfl) (by kernel_rfl) ?hQ29 ?hy29 (by assumption) ?rest29
      case hi29 => (simp only [List.getElem?_toArray, List.getElem?_cons_zero, List.getElem?_cons_succ]; rfl)
      case hQ29 => exact fun _ _ _ h => h
      case hy29 => exact Or.inl ⟨by rfl, by intro wS hSw; (try dsimp only at hSw); go_simp; try first | (with_reducible rfl) | (simp only [*]; done) | omega⟩
      try simp only [Act.put, List.setIfInBounds_toArray, List.set_cons_zero, List.set_cons_succ]
      refine wpAnyH_take (i := 29) (oi := ?oo30) (v := ?vv30) ?hi30 (by kernel_rfl) (by kernel_rfl) (by kernel_rfl) ?hQ30 ?hy30 (by assumption) ?rest30
      case hi30 => (simp only [List.getElem?_toArray, List.getElem?_cons_zero, List.getElem?_cons_succ]; rfl)
      case hQ30 => exact fun _ _ _ h => h
      case hy30 => exact Or.inl ⟨by rfl, by intro wS hSw; (try dsimp only at hSw); go_simp; try first | (with_reducible rfl) | (simp only [*]; done) | omega⟩
      try simp only [Act.put, List.setIfInBounds_toArray, List.set_cons_zero, List.set_cons_succ]
      refine wpAnyH_ready (rs := [30]) (by kernel_rfl) (by simp) ?_
      refine (AllReadyH.cons (o := ?bo31n30) ?bh31n30 (fun K hK => ?br31n30) AllReadyH.nil)
      case bh31n30 => (simp only [List.getElem?_toArray, List.getElem?_cons_zero, List.getElem?_cons_succ]; rfl)
      case br31n30 =>
        go_simp
        refine (unhide CL _ hHeld).mono ?_
        rintro e z30 ⟨rfl, hbz⟩
        have hHz := hide (bthen hHeld hbz)
        clear hbz
        go_wp2_with fail
        refine hK.out _ _ ((unhide hHz)) (fun hHeld => ?_)
        clear hK
        refine wpAnyH_take (i := 31) (oi := ?oo32) (v := ?vv32) ?hi32 (by kernel_rfl) (by kernel_rfl) (by kernel_rfl) ?hQ32 ?hy32 (by assumption) ?rest32
        case hi32 => (simp only [List.getElem?_toArray, List.getElem?_cons_zero, List.getElem?_cons_succ]; rfl)
        case hQ32 => exact fun _ _ _ h => h
        case hy32 => exact Or.inl ⟨by rfl, by intro wS hSw; (try dsimp only at hSw); go_simp; try first | (with_reducible rfl) | (simp only [*]; done) | omega⟩
        try simp only [Act.put, List.setIfInBounds_toArray, List.set_cons_zero, List.set_cons_succ]
        refine wpAnyH_take (i := 32) (oi := ?oo33) (v := ?vv33) ?hi33 (by kernel_rfl) (by kernel_rfl) (by kernel_rfl) ?hQ33 ?hy33 (by assumption) ?rest33
        case hi33 => (simp only [List.getElem?_toArray, List.getElem?_cons_zero, List.getElem?_cons_succ]; rfl)
        case hQ33 => exact fun _ _ _ h => h
        case hy33 => exact Or.inl ⟨by rfl, by intro wS hSw; (try dsimp only at hSw); go_simp; try first | (with_reducible rfl) | (simp only [*]; done) | omega⟩
        try simp only [Act.put, List.setIfInBounds_toArray, List.set_cons_zero, List.set_cons_succ]
        refine wpAnyH_take (i := 33) (oi := ?oo34) (v := ?vv34) ?hi34 (by kernel_rfl) (by kernel_rfl) (by kernel_rfl) ?hQ34 ?hy34 (by assumption) ?rest34
        case hi34 => (simp only [List.getElem?_toArray, List.getElem?_cons_zero, List.getElem?_cons_succ]; rfl)
        case hQ34 => exact fun _ _ _ h => h
        case hy34 => exact Or.inl ⟨by rfl, by intro wS hSw; (try dsimp only at hSw); go_simp; try first | (with_reducible rfl) | (simp only [*]; done) | omega⟩
        try simp only [Act.put, List.setIfInBounds_toArray, List.set_cons_zero, List.set_cons_succ]
        refine wpAnyH_take (i := 34) (oi := ?oo35) (v := ?vv35) ?hi35 (by kernel_rfl) (by kernel_rfl) (by kernel_rfl) ?hQ35 ?hy35 (by assumption) ?rest35
        case hi35 => (simp only [List.getElem?_toArray, List.getElem?_cons_zero, List.getElem?_cons_succ]; rfl)
        case hQ35 => exact fun _ _ _ h => h
        case hy35 => exact Or.inl ⟨by rfl, by intro wS hSw; (try dsimp only at hSw); go_simp; try first | (with_reducible rfl) | (simp only [*]; done) | omega⟩
        try simp only [Act.put, List.setIfInBounds_toArray, List.set_cons_zero, List.set_cons_succ]
        refine wpAnyH_take (i := 36) (oi := ?oo36) (v := .agg #[.int .i64 x.trace, .int .i64 x.stamp, .bool x.keep]) ?hi36 (by kernel_rfl) (by kernel_rfl) (by kernel_rfl) ?hQ36 ?hy36 (by assumption) ?rest36
        case hi36 => (simp only [List.getElem?_toArray, List.getElem?_cons_zero, List.getElem?_cons_succ]; rfl)
        case hQ36 => exact fun _ _ _ h => h
        case hy36 => exact yld_load (by rfl) 59 _ rfl s4 0 rfl [.int .i64 x.trace, .int .i64 x.stamp, .bool x.keep] (fun w' hS => (Held.keep Pv19 hS).inB) rowIVerdict
        try simp only [Act.put, List.setIfInBounds_toArray, List.set_cons_zero, List.set_cons_succ]
        refine wpAnyH_take (i := 38) (oi := ?oo37) (v := ?vv37) ?hi37 (by kernel_rfl) (by kernel_rfl) (by kernel_rfl) ?hQ37 ?hy37 (by assumption) ?rest37
        case hi37 => (simp only [List.getElem?_toArray, List.getElem?_cons_zero, List.getElem?_cons_succ]; rfl)
        case hQ37 => exact fun _ _ _ h => h
        case hy37 => exact Or.inl ⟨by rfl, by intro wS hSw; (try dsimp only at hSw); go_simp; try first | (with_reducible rfl) | (simp only [*]; done) | omega⟩
        try simp only [Act.put, List.setIfInBounds_toArray, List.set_cons_zero, List.set_cons_succ]
        refine wpAnyH_ready (rs := [35, 37]) (by kernel_rfl) (by simp) ?_
        refine (AllReadyH.cons (o := ?bo38n35) ?bh38n35 (fun K hK => ?br38n35) (AllReadyH.cons (o := ?bo38n37) ?bh38n37 (fun K hK => ?br38n37) AllReadyH.nil))
        case bh38n35 => (simp only [List.getElem?_toArray, List.getElem?_cons_zero, List.getElem?_cons_succ]; rfl)
        case bh38n37 => (simp only [List.getElem?_toArray, List.getElem?_cons_zero, List.getElem?_cons_succ]; rfl)
        case br38n35 =>
          go_simp
          refine (unhide CM _ hHeld).mono ?_
          rintro e z35 ⟨rfl, hbz⟩
          have hHz := hide (bthen hHeld hbz)
          clear hbz
          go_wp2_with fail
          refine hK.out _ _ ((unhide hHz)) (fun hHeld => ?_)
          clear hK
          refine wpAnyH_ready (rs := [37]) (by kernel_rfl) (by simp) ?_
          refine (AllReadyH.cons (o := ?bo39n37) ?bh39n37 (fun K hK => ?br39n37) AllReadyH.nil)
          case bh39n37 => (simp only [List.getElem?_toArray, List.getElem?_cons_zero, List.getElem?_cons_succ]; rfl)
          case br39n37 =>
            go_simp
            have HON37 := hide (one_lit z35 x)
            have hHz := hide (bthen hHeld (bnew z35 (.cells #[.int .i64 x.trace, .int .i64 x.stamp, .bool x.keep] 59)))
            generalize hWl : World.alloc z35 _ = z37 at *
            clear hWl
            refine hK.out _ _ ((unhide hHz)) (fun hHeld => ?_)
            clear hK
            refine wpAnyH_ready (rs := [39]) (by kernel_rfl) (by simp) ?_
            refine (AllReadyH.cons (o := ?bo40n39) ?bh40n39 (fun K hK => ?br40n39) AllReadyH.nil)
            case bh40n39 => (simp only [List.getElem?_toArray, List.getElem?_cons_zero, List.getElem?_cons_succ]; rfl)
            case br40n39 =>
              go_simp
              refine (unhide CX _ _ (unhide HON37)).mono ?_
              rintro e z39 ⟨rfl, hbz⟩
              have hHz := hide (bthen hHeld hbz)
              clear hbz
              go_wp2_with fail
              refine hK.out _ _ ((unhide hHz)) (fun hHeld => ?_)
              clear hK
              refine wpAnyH_take (i := 40) (oi := ?oo41) (v := ?vv41) ?hi41 (by kernel_rfl) (by kernel_rfl) (by kernel_rfl) ?hQ41 ?hy41 (by assumption) ?rest41
              case hi41 => (simp only [List.getElem?_toArray, List.getElem?_cons_zero, List.getElem?_cons_succ]; rfl)
              case hQ41 => exact fun _ _ _ h => h
              case hy41 => exact Or.inl ⟨by rfl, by intro wS hSw; (try dsimp only at hSw); go_simp; try first | (with_reducible rfl) | (simp only [*]; done) | omega⟩
              try simp only [Act.put, List.setIfInBounds_toArray, List.set_cons_zero, List.set_cons_succ]
              refine wpAnyH_take (i := 41) (oi := ?oo42) (v := ?vv42) ?hi42 (by kernel_rfl) (by kernel_rfl) (by kernel_rfl) ?hQ42 ?hy42 (by assumption) ?rest42
              case hi42 => (simp only [List.getElem?_toArray, List.getElem?_cons_zero, List.getElem?_cons_succ]; rfl)
              case hQ42 => exact fun _ _ _ h => h
              case hy42 => exact Or.inl ⟨by rfl, by intro wS hSw; (try dsimp only at hSw); go_simp; try first | (with_reducible rfl) | (simp only [*]; done) | omega⟩
              try simp only [Act.put, List.setIfInBounds_toArray, List.set_cons_zero, List.set_cons_succ]
              refine wpAnyH_take (i := 42) (oi := ?oo43) (v := ?vv43) ?hi43 (by kernel_rfl) (by kernel_rfl) (by kernel_rfl) ?hQ43 ?hy43 (by assumption) ?rest43
              case hi43 => (simp only [List.getElem?_toArray, List.getElem?_cons_zero, List.getElem?_cons_succ]; rfl)
              case hQ43 => exact fun _ _ _ h => h
              case hy43 => exact Or.inl ⟨by rfl, by intro wS hSw; (try dsimp only at hSw); go_simp; try first | (with_reducible rfl) | (simp only [*]; done) | omega⟩
              try simp only [Act.put, List.setIfInBounds_toArray, List.set_cons_zero, List.set_cons_succ]
              refine wpAnyH_take (i := 43) (oi := ?oo44) (v := ?vv44) ?hi44 (by kernel_rfl) (by kernel_rfl) (by kernel_rfl) ?hQ44 ?hy44 (by assumption) ?rest44
              case hi44 => (simp only [List.getElem?_toArray, List.getElem?_cons_zero, List.getElem?_cons_succ]; rfl)
              case hQ44 => exact fun _ _ _ h => h
              case hy44 => exact Or.inl ⟨by rfl, by intro wS hSw; (try dsimp only at hSw); go_simp; try first | (with_reducible rfl) | (simp only [*]; done) | omega⟩
              try simp only [Act.put, List.setIfInBounds_toArray, List.set_cons_zero, List.set_cons_succ]
              refine wpAnyH_ready (rs := [44]) (by kernel_rfl) (by simp) ?_
              refine (AllReadyH.cons (o := ?bo45n44) ?bh45n44 (fun K hK => ?br45n44) AllReadyH.nil)
              case bh45n44 => (simp only [List.getElem?_toArray, List.getElem?_cons_zero, List.getElem?_cons_succ]; rfl)
              case br45n44 =>
                go_simp
                refine (unhide CF _ hHeld).mono ?_
                rintro e z44 ⟨vf, rfl, lo, hbz⟩
                obtain ⟨af, cf, rfl⟩ := lo.form
                have hHz := hide (bthen hHeld hbz)
                clear hbz lo
                go_wp2_with fail
                refine hK.out _ _ ((unhide hHz)) (fun hHeld => ?_)
                clear hK
                refine wpAnyH_take (i := 45) (oi := ?oo46) (v := ?vv46) ?hi46 (by kernel_rfl) (by kernel_rfl) (by kernel_rfl) ?hQ46 ?hy46 (by assumption) ?rest46
                case hi46 => (simp only [List.getElem?_toArray, List.getElem?_cons_zero, List.getElem?_cons_succ]; rfl)
                case hQ46 => exact fun _ _ _ h => h
                case hy46 => exact Or.inl ⟨by rfl, by intro wS hSw; (try dsimp only at hSw); go_simp; try first | (with_reducible rfl) | (simp only [*]; done) | omega⟩
                try simp only [Act.put, List.setIfInBounds_toArray, List.set_cons_zero, List.set_cons_succ]
                refine wpAnyH_take (i := 46) (oi := ?oo47) (v := ?vv47) ?hi47 (by kernel_rfl) (by kernel_rfl) (by kernel_rfl) ?hQ47 ?hy47 (by assumption) ?rest47
                case hi47 => (simp only [List.getElem?_toArray, List.getElem?_cons_zero, List.getElem?_cons_succ]; rfl)
                case hQ47 => exact fun _ _ _ h => h
                case hy47 => exact Or.inl ⟨by rfl, by intro wS hSw; (try dsimp only at hSw); go_simp; try first | (with_reducible rfl) | (simp only [*]; done) | omega⟩
                try simp only [Act.put, List.setIfInBounds_toArray, List.set_cons_zero, List.set_cons_succ]
                refine wpAnyH_take (i := 47) (oi := ?oo48) (v := ?vv48) ?hi48 (by kernel_rfl) (by kernel_rfl) (by kernel_rfl) ?hQ48 ?hy48 (by assumption) ?rest48
                case hi48 => (simp only [List.getElem?_toArray, List.getElem?_cons_zero, List.getElem?_cons_succ]; rfl)
                case hQ48 => exact fun _ _ _ h => h
                case hy48 => exact Or.inl ⟨by rfl, by intro wS hSw; (try dsimp only at hSw); go_simp; try first | (with_reducible rfl) | (simp only [*]; done) | omega⟩
                try simp only [Act.put, List.setIfInBounds_toArray, List.set_cons_zero, List.set_cons_succ]
                refine wpAnyH_take (i := 48) (oi := ?oo49) (v := ?vv49) ?hi49 (by kernel_rfl) (by kernel_rfl) (by kernel_rfl) ?hQ49 ?hy49 (by assumption) ?rest49
                case hi49 => (simp only [List.getElem?_toArray, List.getElem?_cons_zero, List.getElem?_cons_succ]; rfl)
                case hQ49 => exact fun _ _ _ h => h
                case hy49 => exact Or.inl ⟨by rfl, by intro wS hSw; (try dsimp only at hSw); go_simp; try first | (with_reducible rfl) | (simp only [*]; done) | omega⟩
                try simp only [Act.put, List.setIfInBounds_toArray, List.set_cons_zero, List.set_cons_succ]
                refine wpAnyH_take (i := 49) (oi := ?oo50) (v := ?vv50) ?hi50 (by kernel_rfl) (by kernel_rfl) (by kernel_rfl) ?hQ50 ?hy50 (by assumption) ?rest50
                case hi50 => (simp only [List.getElem?_toArray, List.getElem?_cons_zero, List.getElem?_cons_succ]; rfl)
                case hQ50 => exact fun _ _ _ h => h
                case hy50 => exact Or.inl ⟨by rfl, by intro wS hSw; (try dsimp only at hSw); go_simp; try first | (with_reducible rfl) | (simp only [*]; done) | omega⟩
                try simp only [Act.put, List.setIfInBounds_toArray, List.set_cons_zero, List.set_cons_succ]
                refine wpAnyH_take (i := 50) (oi := ?oo51) (v := ?vv51) ?hi51 (by kernel_rfl) (by kernel_rfl) (by kernel_rfl) ?hQ51 ?hy51 (by assumption) ?rest51
                case hi51 => (simp only [List.getElem?_toArray, List.getElem?_cons_zero, List.getElem?_cons_succ]; rfl)
                case hQ51 => exact fun _ _ _ h => h
                case hy51 => exact Or.inl ⟨by rfl, by intro wS hSw; (try dsimp only at hSw); go_simp; try first | (with_reducible rfl) | (simp only [*]; done) | omega⟩
                try simp only [Act.put, List.setIfInBounds_toArray, List.set_cons_zero, List.set_cons_succ]
                refine wpAnyH_done (by kernel_rfl) ?_ _
                have hfin := bthen Bv19 hHeld
                clear hHeld
                go_wp2
                go_ret
                exact ⟨rfl, hfin⟩
        case br38n37 =>
          go_simp
          have HON37 := hide (one_lit z30 x)
          have hHz := hide (bthen hHeld (bnew z30 (.cells #[.int .i64 x.trace, .int .i64 x.stamp, .bool x.keep] 59)))
          generalize hWl : World.alloc z30 _ = z37 at *
          clear hWl
          refine hK.out _ _ ((unhide hHz)) (fun hHeld => ?_)
          clear hK
          refine wpAnyH_ready (rs := [35]) (by kernel_rfl) (by simp) ?_
          refine (AllReadyH.cons (o := ?bo52n35) ?bh52n35 (fun K hK => ?br52n35) AllReadyH.nil)
          case bh52n35 => (simp only [List.getElem?_toArray, List.getElem?_cons_zero, List.getElem?_cons_succ]; rfl)
          case br52n35 =>
            go_simp
            refine (unhide CM _ hHeld).mono ?_
            rintro e z35 ⟨rfl, hbz⟩
            have hHz := hide (bthen hHeld hbz)
            have HON35 := hide ((unhide HON37).keep verdictR_keeps hbz)
            clear hbz
            go_wp2_with fail
            refine hK.out _ _ ((unhide hHz)) (fun hHeld => ?_)
            clear hK
            refine wpAnyH_ready (rs := [39]) (by kernel_rfl) (by simp) ?_
            refine (AllReadyH.cons (o := ?bo53n39) ?bh53n39 (fun K hK => ?br53n39) AllReadyH.nil)
            case bh53n39 => (simp only [List.getElem?_toArray, List.getElem?_cons_zero, List.getElem?_cons_succ]; rfl)
            case br53n39 =>
              go_simp
              refine (unhide CX _ _ (unhide HON35)).mono ?_
              rintro e z39 ⟨rfl, hbz⟩
              have hHz := hide (bthen hHeld hbz)
              clear hbz
              go_wp2_with fail
              refine hK.out _ _ ((unhide hHz)) (fun hHeld => ?_)
              clear hK
              refine wpAnyH_take (i := 40) (oi := ?oo54) (v := ?vv54) ?hi54 (by kernel_rfl) (by kernel_rfl) (by kernel_rfl) ?hQ54 ?hy54 (by assumption) ?rest54
              case hi54 => (simp only [List.getElem?_toArray, List.getElem?_cons_zero, List.getElem?_cons_succ]; rfl)
              case hQ54 => exact fun _ _ _ h => h
              case hy54 => exact Or.inl ⟨by rfl, by intro wS hSw; (try dsimp only at hSw); go_simp; try first | (with_reducible rfl) | (simp only [*]; done) | omega⟩
              try simp only [Act.put, List.setIfInBounds_toArray, List.set_cons_zero, List.set_cons_succ]
              refine wpAnyH_take (i := 41) (oi := ?oo55) (v := ?vv55) ?hi55 (by kernel_rfl) (by kernel_rfl) (by kernel_rfl) ?hQ55 ?hy55 (by assumption) ?rest55
              case hi55 => (simp only [List.getElem?_toArray, List.getElem?_cons_zero, List.getElem?_cons_succ]; rfl)
              case hQ55 => exact fun _ _ _ h => h
              case hy55 => exact Or.inl ⟨by rfl, by intro wS hSw; (try dsimp only at hSw); go_simp; try first | (with_reducible rfl) | (simp only [*]; done) | omega⟩
              try simp only [Act.put, List.setIfInBounds_toArray, List.set_cons_zero, List.set_cons_succ]
              refine wpAnyH_take (i := 42) (oi := ?oo56) (v := ?vv56) ?hi56 (by kernel_rfl) (by kernel_rfl) (by kernel_rfl) ?hQ56 ?hy56 (by assumption) ?rest56
              case hi56 => (simp only [List.getElem?_toArray, List.getElem?_cons_zero, List.getElem?_cons_succ]; rfl)
              case hQ56 => exact fun _ _ _ h => h
              case hy56 => exact Or.inl ⟨by rfl, by intro wS hSw; (try dsimp only at hSw); go_simp; try first | (with_reducible rfl) | (simp only [*]; done) | omega⟩
              try simp only [Act.put, List.setIfInBounds_toArray, List.set_cons_zero, List.set_cons_succ]
              refine wpAnyH_take (i := 43) (oi := ?oo57) (v := ?vv57) ?hi57 (by kernel_rfl) (by kernel_rfl) (by kernel_rfl) ?hQ57 ?hy57 (by assumption) ?rest57
              case hi57 => (simp only [List.getElem?_toArray, List.getElem?_cons_zero, List.getElem?_cons_succ]; rfl)
              case hQ57 => exact fun _ _ _ h => h
              case hy57 => exact Or.inl ⟨by rfl, by intro wS hSw; (try dsimp only at hSw); go_simp; try first | (with_reducible rfl) | (simp only [*]; done) | omega⟩
              try simp only [Act.put, List.setIfInBounds_toArray, List.set_cons_zero, List.set_cons_succ]
              refine wpAnyH_ready (rs := [44]) (by kernel_rfl) (by simp) ?_
              refine (AllReadyH.cons (o := ?bo58n44) ?bh58n44 (fun K hK => ?br58n44) AllReadyH.nil)
              case bh58n44 => (simp only [List.getElem?_toArray, List.getElem?_cons_zero, List.getElem?_cons_succ]; rfl)
              case br58n44 =>
                go_simp
                refine (unhide CF _ hHeld).mono ?_
                rintro e z44 ⟨vf, rfl, lo, hbz⟩
                obtain ⟨af, cf, rfl⟩ := lo.form
                have hHz := hide (bthen hHeld hbz)
                clear hbz lo
                go_wp2_with fail
                refine hK.out _ _ ((unhide hHz)) (fun hHeld => ?_)
                clear hK
                refine wpAnyH_take (i := 45) (oi := ?oo59) (v := ?vv59) ?hi59 (by kernel_rfl) (by kernel_rfl) (by kernel_rfl) ?hQ59 ?hy59 (by assumption) ?rest59
                case hi59 => (simp only [List.getElem?_toArray, List.getElem?_cons_zero, List.getElem?_cons_succ]; rfl)
                case hQ59 => exact fun _ _ _ h => h
                case hy59 => exact Or.inl ⟨by rfl, by intro wS hSw; (try dsimp only at hSw); go_simp; try first | (with_reducible rfl) | (simp only [*]; done) | omega⟩
                try simp only [Act.put, List.setIfInBounds_toArray, List.set_cons_zero, List.set_cons_succ]
                refine wpAnyH_take (i := 46) (oi := ?oo60) (v := ?vv60) ?hi60 (by kernel_rfl) (by kernel_rfl) (by kernel_rfl) ?hQ60 ?hy60 (by assumption) ?rest60
                case hi60 => (simp only [List.getElem?_toArray, List.getElem?_cons_zero, List.getElem?_cons_succ]; rfl)
                case hQ60 => exact fun _ _ _ h => h
                case hy60 => exact Or.inl ⟨by rfl, by intro wS hSw; (try dsimp only at hSw); go_simp; try first | (with_reducible rfl) | (simp only [*]; done) | omega⟩
                try simp only [Act.put, List.setIfInBounds_toArray, List.set_cons_zero, List.set_cons_succ]
                refine wpAnyH_take (i := 47) (oi := ?oo61) (v := ?vv61) ?hi61 (by kernel_rfl) (by kernel_rfl) (by kernel_rfl) ?hQ61 ?hy61 (by assumption) ?rest61
                case hi61 => (simp only [List.getElem?_toArray, List.getElem?_cons_zero, List.getElem?_cons_succ]; rfl)
                case hQ61 => exact fun _ _ _ h => h
                case hy61 => exact Or.inl ⟨by rfl, by intro wS hSw; (try dsimp only at hSw); go_simp; try first | (with_reducible rfl) | (simp only [*]; done) | omega⟩
                try simp only [Act.put, List.setIfInBounds_toArray, List.set_cons_zero, List.set_cons_succ]
                refine wpAnyH_take (i := 48) (oi := ?oo62) (v := ?vv62) ?hi62 (by kernel_rfl) (by kernel_rfl) (by kernel_rfl) ?hQ62 ?hy62 (by assumption) ?rest62
                case hi62 => (simp only [List.getElem?_toArray, List.getElem?_cons_zero, List.getElem?_cons_succ]; rfl)
                case hQ62 => exact fun _ _ _ h => h
                case hy62 => exact Or.inl ⟨by rfl, by intro wS hSw; (try dsimp only at hSw); go_simp; try first | (with_reducible rfl) | (simp only [*]; done) | omega⟩
                try simp only [Act.put, List.setIfInBounds_toArray, List.set_cons_zero, List.set_cons_succ]
                refine wpAnyH_take (i := 49) (oi := ?oo63) (v := ?vv63) ?hi63 (by kernel_rfl) (by kernel_rfl) (by kernel_rfl) ?hQ63 ?hy63 (by assumption) ?rest63
                case hi63 => (simp only [List.getElem?_toArray, List.getElem?_cons_zero, List.getElem?_cons_succ]; rfl)
                case hQ63 => exact fun _ _ _ h => h
                case hy63 => exact Or.inl ⟨by rfl, by intro wS hSw; (try dsimp only at hSw); go_simp; try first | (with_reducible rfl) | (simp only [*]; done) | omega⟩
                try simp only [Act.put, List.setIfInBounds_toArray, List.set_cons_zero, List.set_cons_succ]
                refine wpAnyH_take (i := 50) (oi := ?oo64) (v := ?vv64) ?hi64 (by kernel_rfl) (by kernel_rfl) (by kernel_rfl) ?hQ64 ?hy64 (by assumption) ?rest64
                case hi64 => (simp only [List.getElem?_toArray, List.getElem?_cons_zero, List.getElem?_cons_succ]; rfl)
                case hQ64 => exact fun _ _ _ h => h
                case hy64 => exact Or.inl ⟨by rfl, by intro wS hSw; (try dsimp only at hSw); go_simp; try first | (with_reducible rfl) | (simp only [*]; done) | omega⟩
                try simp only [Act.put, List.setIfInBounds_toArray, List.set_cons_zero, List.set_cons_succ]
                refine wpAnyH_done (by kernel_rfl) ?_ _
                have hfin := bthen Bv19 hHeld
                clear hHeld
                go_wp2
                go_ret
                exact ⟨rfl, hfin⟩

/-! ### THE ROW's STEP: WRITTEN OUT: LEAVE IT -/
set_option maxRecDepth 100000 in
theorem lifted (os : Os) (started : os.Started) (H : Type) (enc : TypeId × Value → H) :
    ReturnsInHanded {} Try.checked os 6 .any (Rows.fnCachesSpec.pre6 enc Try.prog Try.f6 Rows.fnCachesRow.domain false) (Rows.fnCachesSpec.post enc Try.prog Try.f6 false true false false) := by
  refine returnsInHanded_of_change (C := Try.checked) own started (by kernel_rfl) Try.func6
    (ChangeSpec.witness6 (enc := enc) (C := Try.checked) false ⟨#[], #[.slice none 0 0], []⟩ 8 (by kernel_rfl) (by kernel_rfl) (by kernel_rfl) (by kernel_rfl)) ?_
  intro W base args ds gs before hval0 hW hcnd _
  have hval : ∀ (j : Nat) t v, Try.f6.params[j]? = some t → args[j]? = some v → Value.okWide Try.prog W .any base t v := hval0
  have hW' := hW
  obtain ⟨p, q, hA0, hV, rfl, hfz, hnd⟩ := hW
  have hA : DataW.TrodAll enc Try.prog W 0 (fun _ => true) true Try.f6.params.toList args.toList ds p := hA0
  rw [Try.params6] at hA hval
  obtain ⟨v0, vs0, d0, ds0, p0, q0, hargs, rfl, rfl, h0, r0⟩ := trodAll_cons hA
  obtain ⟨rfl, rfl, rfl⟩ := trodAll_nil r0
  obtain rfl : args = #[v0] := by cases args; simp_all
  obtain ⟨rfl, rfl⟩ := trodVars_none hV
  obtain ⟨a0, len0, cap0, rfl⟩ := okWide_slice Try.underlying55 (hval 0 55 v0 rfl rfl)
  have k0 := h0
  have lt0 : ∀ x ∈ p0, x.block < W.heap.size := by obtain ⟨m, hm⟩ := k0; exact DataW.trod_lt m _ _ _ hm
  obtain ⟨z0, w0⟩ : ∃ zs, IsRow .u8 W a0 len0 cap0 zs := by
    obtain ⟨fuel, hf⟩ := h0
    rcases open_ints Try.underlying55 Try.underlying5 (by kernel_rfl) hf with ⟨hcs, _⟩ | ⟨x, l, c, zs, hcs, _, hl, hm, hz, _, hcell, hwz⟩
    · simp [Value.cells] at hcs
      obtain ⟨rfl, rfl, rfl⟩ := hcs
      exact ⟨[], .inl ⟨rfl, rfl, rfl, rfl⟩⟩
    · simp [Value.cells] at hcs
      obtain ⟨rfl, rfl, rfl⟩ := hcs
      exact ⟨zs, .inr ⟨_, rfl, hl, hm, by simpa using hz, hcell, hwz⟩⟩
  clear hA0 hval0
  refine (walk a0 len0 cap0 z0 W w0).mono fun e W' ⟨he, bel⟩ => ?_
  subst he
  exact ⟨_, rfl, _, _, _, [], _, [], hW', trodAll_mk1 (shut_bool Try.underlying4 _), (trodAll_cons_mk (Below.trod laidOut (by kernel_rfl) (of_decide_eq_true (by kernel_rfl)) k0 bel lt0) trodAll_mk0), rfl, bel.frame _, fun h => by cases h⟩

theorem over : Rows.fnCachesRow.holds Try.pinned (OpenSpec.ofChange Rows.fnCachesSpec) :=
  OpenClaim.holds_of_wide 6 Try.f6 rfl rfl rfl rfl rfl rfl rfl ⟨rfl, rfl, rfl, rfl, rfl⟩ rfl rfl rfl rfl rfl (by kernel_rfl) Try.func6 (by kernel_rfl)
    (of_decide_eq_true (by kernel_rfl)) (by unfold Func.isWrapper; first | (rw [if_pos (by decide +kernel)]; kernel_rfl) | (rw [if_neg (by decide +kernel)]; exact ⟨rfl, rfl⟩))
    (fun os started H enc _ => lifted os started H enc)

/-- ████ THE STATEMENT ████ -/
theorem proved : Rows.FnCachesSaid := over
#print axioms proved
end Go.Proofs.Ytjhlammjnggghaa.fnCaches
