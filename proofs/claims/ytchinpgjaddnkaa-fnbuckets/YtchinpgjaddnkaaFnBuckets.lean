/-
  Proved: FnBuckets answers true at every input (any drawn bytes): a bucket never has more than it may, what is refilled in two parts is refilled in one, and no more is spent than it had at most, and what came; no condition.
-/
import Derived.Test.YtchinpgjaddnkaaRows
import Derived.Test.YtchinpgjaddnkaaBuk2
import Derived.Test.YtchinpgjaddnkaaBuk3
import Derived.Test.YtchinpgjaddnkaaQLoad
import Derived.WalkKit
import Derived.ProofKit
import Derived.OpenShut
import Derived.ShutString
import Derived.ChangeOld
import Derived.Below
namespace Go.Proofs.Ytchinpgjaddnkaa.fnBuckets
open Go.ChangeShapes Go.WideShapes Go.ChangeAt Go.RowKit
open Go.ChangeMaps (open_string shut_string)
set_option linter.unusedVariables false
set_option maxRecDepth 100000

theorem laidOut : laidOutB Try.prog = true := by kernel_rfl

/-- WHAT THE WALK IS TOLD OF A SLICE OF INTEGERS THAT CAME IN: it is nil; or it leads to a row of 'cap' cells, the numbers 'zs' (the first 'len' are its elements, the rest its spare room), each fitting its kind. -/
def IsRow (k : IntKind) (w : World) (a : Option Addr) (len cap : Nat) (zs : List Int) : Prop :=
  (a = none ∧ len = 0 ∧ cap = 0 ∧ zs = []) ∨
  ∃ x, a = some x ∧ len ≤ cap ∧ cap ≤ maxLen ∧ zs.length = cap ∧ (∀ i, i < zs.length → w.cell? (x.add i) = some (.int k (zs.getD i 0))) ∧ ∀ n ∈ zs, (Lit.int k n).wf = true

/-! ### STEP 1: THE WALK: the Go text returns true, AND WRITES NOTHING THAT WAS THERE: 'Below w.heap.size w w'' (Derived/Below.lean: '.refl', '.alloc', '.drew', '.setCell' at a new block, '.trans'). Open each 'IsRow' by 'rcases' AHEAD of 'go_enter'; part every test ahead of the walk. -/
set_option maxHeartbeats 4000000 in
theorem walk (a0 : Option Addr) (len0 cap0 : Nat) (z0 : List Int) (w : World) (w0 : IsRow .u8 w a0 len0 cap0 z0) :
    Calls Try.prog 4 #[.slice a0 len0 cap0] w fun e w' => e = .returned (.bool true) ∧ Below w.heap.size w w' := by
  have hy : Bytes w a0 len0 := bytes_of_row w0
  by_cases hbig : 1048576 < len0
  · have hbig' : (1048576 : Int) < (len0 : Int) := by omega
    go_enter Try.func4, Try.ntmps4
    go_wp2_with (go_at_call 5; refine (big_any _ _ _ _).mono ?_; rintro e w' ⟨rfl, rfl⟩)
    go_ret
    exact ⟨rfl, Below.refl _ _⟩
  have hbig' : decide ((1048576 : Int) < (len0 : Int)) = false := decide_eq_false (by omega)
  have hl0 : len0 ≤ 1048576 := by omega
  go_enter Try.func4, Try.ntmps4
  go_wp2_with fail
  refine (big_any _ _ _ _).mono ?_
  rintro e w' ⟨rfl, hw'⟩
  obtain rfl := hw'
  have Y0 := hy
  have B0 := Below.refl w.heap.size w
  clear hy
  go_wp2_with fail
  refine (DrawRefill_any a0 len0 cap0 w hl0 Y0).mono ?_
  rintro e w1 ⟨⟨r1, u1, t1, a1, n1, rfl⟩, hb⟩
  have Y1 := Y0.keep hb
  have B1 := bthen B0 hb
  clear Y0 B0 hb
  have bn := bnew w1 (.cells #[.int .i64 r1, .int .i64 u1, .int .i64 t1, .int .i64 a1] 29)
  have P1v2 := Held.new w1 [.int .i64 r1, .int .i64 u1, .int .i64 t1, .int .i64 a1] 29
  have Y2 := Y1.keep bn
  have B2 := bthen B1 bn
  clear Y1 B1 bn
  go_upto_region 4 with (first | (refine wpl_store_new rfl _ _ _ rfl _ [.int .i64 r1, .int .i64 u1, .int .i64 t1, .int .i64 a1] rfl rfl ?_ (by intro v hv; simp only [List.mem_cons, List.not_mem_nil, or_false] at hv; rcases hv with rfl | rfl | rfl | rfl <;> rfl) rowIBucket ?_; rfl))
  generalize w1.heap.size = s1 at *
  generalize World.alloc w1 _ = w2 at *
  have CR := hide (fun wx => specRefill_any r1 u1 t1 a1 n1 wx)
  have CI := hide (implRefill_any r1 u1 t1 a1 n1 w2)
  have HRN := hide (fun h => ref_no (r := r1) (u := u1) (t := t1) (a := a1) (now := n1) h)
  have HRY := hide (fun h => ref_yes (r := r1) (u := u1) (t := t1) (a := a1) (now := n1) h)
  generalize refT r1 u1 t1 a1 n1 = X at *
  generalize refA r1 u1 t1 a1 n1 = A at *
  go_wp2_with (first | (refine wpl_load rfl 29 _ rfl _ 0 rfl [.int .i64 r1, .int .i64 u1, .int .i64 t1, .int .i64 a1] P1v2.inB rowIBucket ?_))
  refine (unhide CI).mono ?_
  rintro e w3 ⟨rfl, hb⟩
  have P1v3 := P1v2.keep hb
  have Y3 := Y2.keep hb
  have B3 := bthen B2 hb
  clear P1v2 Y2 B2 hb
  have bn := bnew w3 (.cells #[.int .i64 r1, .int .i64 u1, .int .i64 X, .int .i64 A] 29)
  have P2v4 := Held.new w3 [.int .i64 r1, .int .i64 u1, .int .i64 X, .int .i64 A] 29
  have P1v4 := P1v3.keep bn
  have Y4 := Y3.keep bn
  have B4 := bthen B3 bn
  clear P1v3 Y3 B3 bn
  go_upto_region 5 with (first | (refine wpl_store_new rfl _ _ _ rfl _ [.int .i64 r1, .int .i64 u1, .int .i64 X, .int .i64 A] rfl rfl ?_ (by intro v hv; simp only [List.mem_cons, List.not_mem_nil, or_false] at hv; rcases hv with rfl | rfl | rfl | rfl <;> rfl) rowIBucket ?_; rfl))
  generalize w3.heap.size = s2 at *
  generalize World.alloc w3 _ = w4 at *
  go_wp2_with (first | (refine wpl_load rfl 29 _ rfl _ 0 rfl [.int .i64 r1, .int .i64 u1, .int .i64 t1, .int .i64 a1] P1v4.inB rowIBucket ?_) | (refine wpl_load rfl 29 _ rfl _ 0 rfl [.int .i64 r1, .int .i64 u1, .int .i64 X, .int .i64 A] P2v4.inB rowIBucket ?_))
  refine (DrawSpend_any a0 len0 cap0 w4 hl0 Y4).mono ?_
  rintro e w5 ⟨⟨r3, u3, t3, a3, n3, rfl⟩, hb⟩
  have P1v5 := P1v4.keep hb
  have P2v5 := P2v4.keep hb
  have Y5 := Y4.keep hb
  have B5 := bthen B4 hb
  clear P1v4 P2v4 Y4 B4 hb
  have bn := bnew w5 (.cells #[.int .i64 r3, .int .i64 u3, .int .i64 t3, .int .i64 a3] 29)
  have P3v6 := Held.new w5 [.int .i64 r3, .int .i64 u3, .int .i64 t3, .int .i64 a3] 29
  have P1v6 := P1v5.keep bn
  have P2v6 := P2v5.keep bn
  have Y6 := Y5.keep bn
  have B6 := bthen B5 bn
  clear P1v5 P2v5 Y5 B5 bn
  go_upto_region 6 with (first | (refine wpl_store_new rfl _ _ _ rfl _ [.int .i64 r3, .int .i64 u3, .int .i64 t3, .int .i64 a3] rfl rfl ?_ (by intro v hv; simp only [List.mem_cons, List.not_mem_nil, or_false] at hv; rcases hv with rfl | rfl | rfl | rfl <;> rfl) rowIBucket ?_; rfl))
  generalize w5.heap.size = s3 at *
  generalize World.alloc w5 _ = w6 at *
  have CI2 := hide (implSpend_any r3 u3 t3 a3 n3 w6)
  have CS := hide (fun wx => specSpend_any r3 u3 t3 a3 n3 wx)
  have HSY := hide (fun h => spent_ok (r := r3) (u := u3) (t := t3) (a := a3) (n := n3) h)
  have HSN := hide (fun h => spent_no (r := r3) (u := u3) (t := t3) (a := a3) (n := n3) h)
  generalize spT r3 u3 t3 a3 n3 = Y at *
  generalize spendOk r3 u3 t3 a3 n3 = ok at *
  go_wp2_with (first | (refine wpl_load rfl 29 _ rfl _ 0 rfl [.int .i64 r1, .int .i64 u1, .int .i64 t1, .int .i64 a1] P1v6.inB rowIBucket ?_) | (refine wpl_load rfl 29 _ rfl _ 0 rfl [.int .i64 r1, .int .i64 u1, .int .i64 X, .int .i64 A] P2v6.inB rowIBucket ?_) | (refine wpl_load rfl 29 _ rfl _ 0 rfl [.int .i64 r3, .int .i64 u3, .int .i64 t3, .int .i64 a3] P3v6.inB rowIBucket ?_))
  refine (unhide CI2).mono ?_
  rintro e w7 ⟨rfl, hb⟩
  have P1v7 := P1v6.keep hb
  have P2v7 := P2v6.keep hb
  have P3v7 := P3v6.keep hb
  have Y7 := Y6.keep hb
  have B7 := bthen B6 hb
  clear P1v6 P2v6 P3v6 Y6 B6 hb
  have bn := bnew w7 (.cells #[.int .i64 r3, .int .i64 u3, .int .i64 Y, .int .i64 a3] 29)
  have P4v8 := Held.new w7 [.int .i64 r3, .int .i64 u3, .int .i64 Y, .int .i64 a3] 29
  have P1v8 := P1v7.keep bn
  have P2v8 := P2v7.keep bn
  have P3v8 := P3v7.keep bn
  have Y8 := Y7.keep bn
  have B8 := bthen B7 bn
  clear P1v7 P2v7 P3v7 Y7 B7 bn
  go_upto_region 7 with (first | (refine wpl_store_new rfl _ _ _ rfl _ [.int .i64 r3, .int .i64 u3, .int .i64 Y, .int .i64 a3] rfl rfl ?_ (by intro v hv; simp only [List.mem_cons, List.not_mem_nil, or_false] at hv; rcases hv with rfl | rfl | rfl | rfl <;> rfl) rowIBucket ?_; rfl))
  generalize w7.heap.size = s4 at *
  generalize World.alloc w7 _ = w8 at *
  go_wp2_with (first | (refine wpl_load rfl 29 _ rfl _ 0 rfl [.int .i64 r1, .int .i64 u1, .int .i64 t1, .int .i64 a1] P1v8.inB rowIBucket ?_) | (refine wpl_load rfl 29 _ rfl _ 0 rfl [.int .i64 r1, .int .i64 u1, .int .i64 X, .int .i64 A] P2v8.inB rowIBucket ?_) | (refine wpl_load rfl 29 _ rfl _ 0 rfl [.int .i64 r3, .int .i64 u3, .int .i64 t3, .int .i64 a3] P3v8.inB rowIBucket ?_) | (refine wpl_load rfl 29 _ rfl _ 0 rfl [.int .i64 r3, .int .i64 u3, .int .i64 Y, .int .i64 a3] P4v8.inB rowIBucket ?_))
  refine (unhide CS _).mono ?_
  rintro e w9 ⟨rfl, hb⟩
  have P1v9 := P1v8.keep hb
  have P2v9 := P2v8.keep hb
  have P3v9 := P3v8.keep hb
  have P4v9 := P4v8.keep hb
  have Y9 := Y8.keep hb
  have B9 := bthen B8 hb
  clear P1v8 P2v8 P3v8 P4v8 Y8 B8 hb
  have bn := bnew w9 (.cells #[.int .i64 r3, .int .i64 u3, .int .i64 Y, .int .i64 a3] 29)
  have P5v10 := Held.new w9 [.int .i64 r3, .int .i64 u3, .int .i64 Y, .int .i64 a3] 29
  have P1v10 := P1v9.keep bn
  have P2v10 := P2v9.keep bn
  have P3v10 := P3v9.keep bn
  have P4v10 := P4v9.keep bn
  have Y10 := Y9.keep bn
  have B10 := bthen B9 bn
  clear P1v9 P2v9 P3v9 P4v9 Y9 B9 bn
  go_upto_region 8 with (first | (refine wpl_store_new rfl _ _ _ rfl _ [.int .i64 r3, .int .i64 u3, .int .i64 Y, .int .i64 a3] rfl rfl ?_ (by intro v hv; simp only [List.mem_cons, List.not_mem_nil, or_false] at hv; rcases hv with rfl | rfl | rfl | rfl <;> rfl) rowIBucket ?_; rfl))
  generalize w9.heap.size = s5 at *
  generalize World.alloc w9 _ = w10 at *
  go_wp2_with (first | (refine wpl_load rfl 29 _ rfl _ 0 rfl [.int .i64 r1, .int .i64 u1, .int .i64 t1, .int .i64 a1] P1v10.inB rowIBucket ?_) | (refine wpl_load rfl 29 _ rfl _ 0 rfl [.int .i64 r1, .int .i64 u1, .int .i64 X, .int .i64 A] P2v10.inB rowIBucket ?_) | (refine wpl_load rfl 29 _ rfl _ 0 rfl [.int .i64 r3, .int .i64 u3, .int .i64 t3, .int .i64 a3] P3v10.inB rowIBucket ?_) | (refine wpl_load rfl 29 _ rfl _ 0 rfl [.int .i64 r3, .int .i64 u3, .int .i64 Y, .int .i64 a3] P4v10.inB rowIBucket ?_) | (refine wpl_load rfl 29 _ rfl _ 0 rfl [.int .i64 r3, .int .i64 u3, .int .i64 Y, .int .i64 a3] P5v10.inB rowIBucket ?_))
  refine (DrawBucketOk_any a0 len0 cap0 w10 hl0 Y10).mono ?_
  rintro e w11 ⟨⟨r6, u6, t6, a6, rfl⟩, hb⟩
  have P1v11 := P1v10.keep hb
  have P2v11 := P2v10.keep hb
  have P3v11 := P3v10.keep hb
  have P4v11 := P4v10.keep hb
  have P5v11 := P5v10.keep hb
  have Y11 := Y10.keep hb
  have B11 := bthen B10 hb
  clear P1v10 P2v10 P3v10 P4v10 P5v10 Y10 B10 hb
  have bn := bnew w11 (.cells #[.int .i64 r6, .int .i64 u6, .int .i64 t6, .int .i64 a6] 29)
  have P6v12 := Held.new w11 [.int .i64 r6, .int .i64 u6, .int .i64 t6, .int .i64 a6] 29
  have P1v12 := P1v11.keep bn
  have P2v12 := P2v11.keep bn
  have P3v12 := P3v11.keep bn
  have P4v12 := P4v11.keep bn
  have P5v12 := P5v11.keep bn
  have Y12 := Y11.keep bn
  have B12 := bthen B11 bn
  clear P1v11 P2v11 P3v11 P4v11 P5v11 Y11 B11 bn
  go_upto_region 9 with (first | (refine wpl_store_new rfl _ _ _ rfl _ [.int .i64 r6, .int .i64 u6, .int .i64 t6, .int .i64 a6] rfl rfl ?_ (by intro v hv; simp only [List.mem_cons, List.not_mem_nil, or_false] at hv; rcases hv with rfl | rfl | rfl | rfl <;> rfl) rowIBucket ?_; rfl))
  generalize w11.heap.size = s6 at *
  generalize World.alloc w11 _ = w12 at *
  go_wp2_with (first | (refine wpl_load rfl 29 _ rfl _ 0 rfl [.int .i64 r1, .int .i64 u1, .int .i64 t1, .int .i64 a1] P1v12.inB rowIBucket ?_) | (refine wpl_load rfl 29 _ rfl _ 0 rfl [.int .i64 r1, .int .i64 u1, .int .i64 X, .int .i64 A] P2v12.inB rowIBucket ?_) | (refine wpl_load rfl 29 _ rfl _ 0 rfl [.int .i64 r3, .int .i64 u3, .int .i64 t3, .int .i64 a3] P3v12.inB rowIBucket ?_) | (refine wpl_load rfl 29 _ rfl _ 0 rfl [.int .i64 r3, .int .i64 u3, .int .i64 Y, .int .i64 a3] P4v12.inB rowIBucket ?_) | (refine wpl_load rfl 29 _ rfl _ 0 rfl [.int .i64 r3, .int .i64 u3, .int .i64 Y, .int .i64 a3] P5v12.inB rowIBucket ?_) | (refine wpl_load rfl 29 _ rfl _ 0 rfl [.int .i64 r6, .int .i64 u6, .int .i64 t6, .int .i64 a6] P6v12.inB rowIBucket ?_))
  refine (DrawMostIn_any a0 len0 cap0 w12 hl0 Y12).mono ?_
  rintro e w13 ⟨⟨r7, u7, t7, a7, n7, rfl⟩, hb⟩
  have P1v13 := P1v12.keep hb
  have P2v13 := P2v12.keep hb
  have P3v13 := P3v12.keep hb
  have P4v13 := P4v12.keep hb
  have P5v13 := P5v12.keep hb
  have P6v13 := P6v12.keep hb
  have Y13 := Y12.keep hb
  have B13 := bthen B12 hb
  clear P1v12 P2v12 P3v12 P4v12 P5v12 P6v12 Y12 B12 hb
  have bn := bnew w13 (.cells #[.int .i64 r7, .int .i64 u7, .int .i64 t7, .int .i64 a7] 29)
  have P7v14 := Held.new w13 [.int .i64 r7, .int .i64 u7, .int .i64 t7, .int .i64 a7] 29
  have P1v14 := P1v13.keep bn
  have P2v14 := P2v13.keep bn
  have P3v14 := P3v13.keep bn
  have P4v14 := P4v13.keep bn
  have P5v14 := P5v13.keep bn
  have P6v14 := P6v13.keep bn
  have Y14 := Y13.keep bn
  have B14 := bthen B13 bn
  clear P1v13 P2v13 P3v13 P4v13 P5v13 P6v13 Y13 B13 bn
  go_upto_region 10 with (first | (refine wpl_store_new rfl _ _ _ rfl _ [.int .i64 r7, .int .i64 u7, .int .i64 t7, .int .i64 a7] rfl rfl ?_ (by intro v hv; simp only [List.mem_cons, List.not_mem_nil, or_false] at hv; rcases hv with rfl | rfl | rfl | rfl <;> rfl) rowIBucket ?_; rfl))
  generalize w13.heap.size = s7 at *
  generalize World.alloc w13 _ = w14 at *
  go_wp2_with (first | (refine wpl_load rfl 29 _ rfl _ 0 rfl [.int .i64 r1, .int .i64 u1, .int .i64 t1, .int .i64 a1] P1v14.inB rowIBucket ?_) | (refine wpl_load rfl 29 _ rfl _ 0 rfl [.int .i64 r1, .int .i64 u1, .int .i64 X, .int .i64 A] P2v14.inB rowIBucket ?_) | (refine wpl_load rfl 29 _ rfl _ 0 rfl [.int .i64 r3, .int .i64 u3, .int .i64 t3, .int .i64 a3] P3v14.inB rowIBucket ?_) | (refine wpl_load rfl 29 _ rfl _ 0 rfl [.int .i64 r3, .int .i64 u3, .int .i64 Y, .int .i64 a3] P4v14.inB rowIBucket ?_) | (refine wpl_load rfl 29 _ rfl _ 0 rfl [.int .i64 r3, .int .i64 u3, .int .i64 Y, .int .i64 a3] P5v14.inB rowIBucket ?_) | (refine wpl_load rfl 29 _ rfl _ 0 rfl [.int .i64 r6, .int .i64 u6, .int .i64 t6, .int .i64 a6] P6v14.inB rowIBucket ?_) | (refine wpl_load rfl 29 _ rfl _ 0 rfl [.int .i64 r7, .int .i64 u7, .int .i64 t7, .int .i64 a7] P7v14.inB rowIBucket ?_))
  refine (DrawBucketNew_any a0 len0 cap0 w14 hl0 Y14).mono ?_
  rintro e w15 ⟨⟨x8, y8, rfl⟩, hb⟩
  have P1v15 := P1v14.keep hb
  have P2v15 := P2v14.keep hb
  have P3v15 := P3v14.keep hb
  have P4v15 := P4v14.keep hb
  have P5v15 := P5v14.keep hb
  have P6v15 := P6v14.keep hb
  have P7v15 := P7v14.keep hb
  have Y15 := Y14.keep hb
  have B15 := bthen B14 hb
  clear P1v14 P2v14 P3v14 P4v14 P5v14 P6v14 P7v14 Y14 B14 hb
  go_upto_region 11 with fail
  have CK := hide (fun wx => bok_any r6 u6 t6 a6 wx _ rfl)
  have CKS := hide (fun wx => bok_anyS r6 u6 t6 a6 wx _ rfl)
  generalize bokB r6 u6 t6 a6 = k6 at *
  have CM := hide (fun wx => implMostIn r7 u7 t7 a7 n7 wx)
  have CMS := hide (fun wx => specMostIn r7 u7 t7 a7 n7 wx)
  generalize addv u7 (mulv r7 n7) = q7 at *
  have CN := hide (fun wx => implBucketNew x8 y8 wx)
  have CNS := hide (fun wx => specBucketNew x8 y8 wx)
  go_cut [96] from 57 to 96 (fun c wc => c = .bool false ∧ Below w15.heap.size w15 wc)
  case first =>
    have mixed : Try.prog.follows .mixedOrders = true := by kernel_rfl
    refine wq_region (by assumption) (by kernel_rfl) ?_
    refine q_load (by kernel_rfl) 29 _ rfl s2 0 rfl _ (P2v15).1 (P2v15).inB rowIBucket (fun K hK => ?_)
    simp only [Act.put, List.setIfInBounds_toArray, List.set_cons_zero, List.set_cons_succ]
    refine hK _ ?_
    clear hK K
    refine q_load (by kernel_rfl) 29 _ rfl s1 0 rfl _ (P1v15).1 (P1v15).inB rowIBucket (fun K hK => ?_)
    simp only [Act.put, List.setIfInBounds_toArray, List.set_cons_zero, List.set_cons_succ]
    refine hK _ ?_
    clear hK K
    refine q_take (by kernel_rfl) (fun K hK => ?_)
    go_simp
    refine hK _ ?_
    clear hK K
    refine q_take (by kernel_rfl) (fun K hK => ?_)
    go_simp
    apply Exists.intro
    refine ⟨fun _ => ?_, hK _ ?_⟩
    exact Calls.regrown_of (unhide CR _)
    clear hK K
    refine q_take (by kernel_rfl) (fun K hK => ?_)
    go_simp
    refine hK _ ?_
    clear hK K
    refine q_take (by kernel_rfl) (fun K hK => ?_)
    go_simp
    refine hK _ ?_
    clear hK K
    refine q_load (by kernel_rfl) 29 _ rfl s4 0 rfl _ (P4v15).1 (P4v15).inB rowIBucket (fun K hK => ?_)
    simp only [Act.put, List.setIfInBounds_toArray, List.set_cons_zero, List.set_cons_succ]
    refine hK _ ?_
    clear hK K
    refine q_load (by kernel_rfl) 29 _ rfl s5 0 rfl _ (P5v15).1 (P5v15).inB rowIBucket (fun K hK => ?_)
    simp only [Act.put, List.setIfInBounds_toArray, List.set_cons_zero, List.set_cons_succ]
    refine hK _ ?_
    clear hK K
    refine q_take (by kernel_rfl) (fun K hK => ?_)
    go_simp
    refine hK _ ?_
    clear hK K
    refine q_take (by kernel_rfl) (fun K hK => ?_)
    go_simp
    refine hK _ ?_
    clear hK K
    refine q_take (by kernel_rfl) (fun K hK => ?_)
    go_simp
    refine hK _ ?_
    clear hK K
    refine q_take (by kernel_rfl) (fun K hK => ?_)
    go_simp
    refine hK _ ?_
    clear hK K
    refine q_take (by kernel_rfl) (fun K hK => ?_)
    go_simp
    refine hK _ ?_
    clear hK K
    refine q_take (by kernel_rfl) (fun K hK => ?_)
    go_simp
    refine hK _ ?_
    clear hK K
    refine q_take (by kernel_rfl) (fun K hK => ?_)
    go_simp
    refine hK _ ?_
    clear hK K
    refine q_take (by kernel_rfl) (fun K hK => ?_)
    go_simp
    refine hK _ ?_
    clear hK K
    refine q_load (by kernel_rfl) 29 _ rfl s6 0 rfl _ (P6v15).1 (P6v15).inB rowIBucket (fun K hK => ?_)
    simp only [Act.put, List.setIfInBounds_toArray, List.set_cons_zero, List.set_cons_succ]
    refine hK _ ?_
    clear hK K
    refine q_take (by kernel_rfl) (fun K hK => ?_)
    go_simp
    apply Exists.intro
    refine ⟨fun _ => ?_, hK _ ?_⟩
    exact Calls.regrown_of (unhide CK _)
    clear hK K
    refine q_load (by kernel_rfl) 29 _ rfl s6 0 rfl _ (P6v15).1 (P6v15).inB rowIBucket (fun K hK => ?_)
    simp only [Act.put, List.setIfInBounds_toArray, List.set_cons_zero, List.set_cons_succ]
    refine hK _ ?_
    clear hK K
    refine q_take (by kernel_rfl) (fun K hK => ?_)
    go_simp
    apply Exists.intro
    refine ⟨fun _ => ?_, hK _ ?_⟩
    exact Calls.regrown_of (unhide CKS _)
    clear hK K
    refine q_take (by kernel_rfl) (fun K hK => ?_)
    go_simp
    refine hK _ ?_
    clear hK K
    refine q_take (by kernel_rfl) (fun K hK => ?_)
    go_simp
    refine hK _ ?_
    clear hK K
    refine q_take (by kernel_rfl) (fun K hK => ?_)
    go_simp
    refine hK _ ?_
    clear hK K
    refine q_load (by kernel_rfl) 29 _ rfl s7 0 rfl _ (P7v15).1 (P7v15).inB rowIBucket (fun K hK => ?_)
    simp only [Act.put, List.setIfInBounds_toArray, List.set_cons_zero, List.set_cons_succ]
    refine hK _ ?_
    clear hK K
    refine q_take (by kernel_rfl) (fun K hK => ?_)
    go_simp
    refine hK _ ?_
    clear hK K
    refine q_take (by kernel_rfl) (fun K hK => ?_)
    go_simp
    apply Exists.intro
    refine ⟨fun _ => ?_, hK _ ?_⟩
    exact Calls.regrown_of (unhide CM _)
    clear hK K
    refine q_load (by kernel_rfl) 29 _ rfl s7 0 rfl _ (P7v15).1 (P7v15).inB rowIBucket (fun K hK => ?_)
    simp only [Act.put, List.setIfInBounds_toArray, List.set_cons_zero, List.set_cons_succ]
    refine hK _ ?_
    clear hK K
    refine q_take (by kernel_rfl) (fun K hK => ?_)
    go_simp
    refine hK _ ?_
    clear hK K
    refine q_take (by kernel_rfl) (fun K hK => ?_)
    go_simp
    apply Exists.intro
    refine ⟨fun _ => ?_, hK _ ?_⟩
    exact Calls.regrown_of (unhide CMS _)
    clear hK K
    refine q_take (by kernel_rfl) (fun K hK => ?_)
    go_simp
    refine hK _ ?_
    clear hK K
    refine q_take (by kernel_rfl) (fun K hK => ?_)
    go_simp
    refine hK _ ?_
    clear hK K
    refine q_take (by kernel_rfl) (fun K hK => ?_)
    go_simp
    refine hK _ ?_
    clear hK K
    refine q_take (by kernel_rfl) (fun K hK => ?_)
    go_simp
    refine hK _ ?_
    clear hK K
    refine q_take (by kernel_rfl) (fun K hK => ?_)
    go_simp
    refine hK _ ?_
    clear hK K
    refine q_take (by kernel_rfl) (fun K hK => ?_)
    go_simp
    apply Exists.intro
    refine ⟨fun _ => ?_, hK _ ?_⟩
    exact Calls.regrown_of (unhide CN _)
    clear hK K
    refine q_take (by kernel_rfl) (fun K hK => ?_)
    go_simp
    refine hK _ ?_
    clear hK K
    refine q_take (by kernel_rfl) (fun K hK => ?_)
    go_simp
    refine hK _ ?_
    clear hK K
    refine q_take (by kernel_rfl) (fun K hK => ?_)
    go_simp
    apply Exists.intro
    refine ⟨fun _ => ?_, hK _ ?_⟩
    exact Calls.regrown_of (unhide CNS _)
    clear hK K
    refine q_take (by kernel_rfl) (fun K hK => ?_)
    go_simp
    refine hK _ ?_
    clear hK K
    refine q_take (by kernel_rfl) (fun K hK => ?_)
    go_simp
    refine hK _ ?_
    clear hK K
    refine wq_nil ?_
    intro _ hw9
    obtain ⟨⟨dq, osq⟩, hw9'⟩ := hw9
    subst hw9'
    have hHeld := below_regrown w15 dq osq
    generalize Go.Sort.grow (redrawn w15 dq) osq = wq at *
    clear mixed
    go_wp2
    go_meet
    exact ⟨rfl, hHeld⟩
  case rest =>
  obtain ⟨rfl, hbc⟩ := hcut
  skip
  have P1v16 := P1v15.keep hbc
  have P2v16 := P2v15.keep hbc
  have P3v16 := P3v15.keep hbc
  have P4v16 := P4v15.keep hbc
  have B16 := bthen B15 hbc
  clear hbc CR CK CKS CM CMS CN CNS CS P1v15 P2v15 P3v15 P4v15 P5v15 P6v15 P7v15 Y15 B15
  cases hk1 : bokB r1 u1 t1 a1 with
  | false =>
    have hC : ¬ refC r1 u1 t1 a1 n1 = true := fun h => by rw [(refC_yes h).1] at hk1; cases hk1
    obtain ⟨hX, hA⟩ := unhide HRN hC
    subst hX
    subst hA
    clear HRN HRY hC HSY HSN
    go_wp2_with (first | (refine wpl_load rfl 29 _ rfl _ 0 rfl _ P1v16.inB rowIBucket ?_))
    refine (bok_any r1 u1 _ _ _ _ hk1).mono ?_
    rintro e wB ⟨rfl, hb⟩
    have P1w := P1v16.keep hb
    have P2w := P2v16.keep hb
    have Bw := bthen B16 hb
    clear hb P1v16 P2v16 P3v16 P4v16 B16
    go_wp2_with (first | (refine wpl_load rfl 29 _ rfl _ 0 rfl _ P2w.inB rowIBucket ?_) | (refine wpl_load rfl 29 _ rfl _ 0 rfl _ P1w.inB rowIBucket ?_))
    go_ret
    exact ⟨rfl, Bw⟩
  | true =>
    go_wp2_with (first | (refine wpl_load rfl 29 _ rfl _ 0 rfl _ P1v16.inB rowIBucket ?_))
    refine (bok_any r1 u1 t1 a1 _ _ hk1).mono ?_
    rintro e wB ⟨rfl, hb⟩
    have P1w := P1v16.keep hb
    have P2w := P2v16.keep hb
    have P3w := P3v16.keep hb
    have P4w := P4v16.keep hb
    have Bw := bthen B16 hb
    clear hb P1v16 P2v16 P3v16 P4v16 B16
    go_upto_region 15 with fail
    go_cut [126] from 103 to 126 (fun c wc => c = .bool false ∧ Below wB.heap.size wB wc)
    case first =>
      cases ok with
      | true =>
        obtain ⟨hY, hok, h30, h31, h32, h33⟩ := unhide HSY rfl
        subst hY
        have qa0 := P4w.2 0 _ rfl
        have qa1 := P4w.2 1 _ rfl
        have qa2 := P4w.2 2 _ rfl
        have qa3 := P4w.2 3 _ rfl
        have q6 := P3w.2 2 _ rfl
        go_wp2_with fail
        refine (bok_any r3 u3 (t3 - n3) a3 wB _ hok).mono ?_
        rintro e wC ⟨rfl, hb⟩
        have P3x := P3w.keep hb
        have P4x := P4w.keep hb
        clear qa0 qa1 qa2 qa3 q6
        have q8 := P4x.2 2 _ rfl
        have q6 := P3x.2 2 _ rfl
        go_wp2
        go_meet
        exact ⟨rfl, hb⟩
      | false =>
        have hY := unhide HSN rfl
        subst hY
        have qa0 := P4w.2 0 _ rfl
        have qa1 := P4w.2 1 _ rfl
        have qa2 := P4w.2 2 _ rfl
        have qa3 := P4w.2 3 _ rfl
        have qb0 := P3w.2 0 _ rfl
        have qb1 := P3w.2 1 _ rfl
        have qb2 := P3w.2 2 _ rfl
        have qb3 := P3w.2 3 _ rfl
        go_wp2
        go_meet
        exact ⟨rfl, Below.refl _ _⟩
    case rest =>
    obtain ⟨rfl, hbc2⟩ := hcut
    have P1x := P1w.keep hbc2
    have P2x := P2w.keep hbc2
    have Bx := bthen Bw hbc2
    clear hbc2 P1w P2w P3w P4w Bw HSY HSN
    have hp := bok_parts hk1
    have q1 := P1x.2 3 _ rfl
    go_upto_region 17 with fail
    by_cases hin : a1 ≤ n1 ∧ n1 ≤ 2147483647
    · obtain ⟨hi1, hi2⟩ := hin
      have hC := refC_of hk1 hi1 hi2
      obtain ⟨hX, hA⟩ := unhide HRY hC
      have f1 := fill_ok hk1 hi1 hi2
      have f2 := fill_ge hk1 hi1 hi2
      have f3 := fill_most hk1 hi1 hi2 (n1 - a1)
      have f4 := hide (fun m (h1 : a1 ≤ m) (h2 : m ≤ n1) => fill_two hk1 h1 h2 hi2)
      rw [← hX] at f1 f2 f3 f4
      subst hA
      clear HRN HRY hX hC
      obtain ⟨⟨hr0, hr1⟩, ⟨hu0, hu1⟩, ⟨ht0, ht1⟩, ha0, ha1⟩ := hp
      go_upto_region 18 with fail
      clear q1
      have hm1 : a1 ≤ a1 + (A - a1) / 2 := by omega
      have hm2 : a1 + (A - a1) / 2 ≤ A := by omega
      generalize a1 + (A - a1) / 2 = m at *
      have f5 := unhide f4 m hm1 hm2
      clear f4
      have CA1 := hide (fun wx => implRefill_any r1 u1 t1 a1 m wx)
      have e1 := ref_yes (refC_of hk1 hm1 (by omega : m ≤ 2147483647))
      rw [e1.1, e1.2] at CA1
      have CA2 := hide (fun wx => implRefill_any r1 u1 (fillv r1 u1 t1 a1 m) m A wx)
      have e2 := ref_yes (refC_of (fill_ok hk1 hm1 (by omega : m ≤ 2147483647)) hm2 hi2)
      rw [e2.1, e2.2, f5] at CA2
      generalize fillv r1 u1 t1 a1 m = M1 at *
      clear e1 e2 f5
      have CQ := hide (fun wx => implMostIn r1 u1 t1 a1 (A - a1) wx)
      generalize addv u1 (mulv r1 (A - a1)) = Q at *
      have CBX := hide (fun wx => bok_any r1 u1 X A wx _ f1)
      clear f1
      have hi3 : decide (A < a1) = false := decide_eq_false (by omega)
      have hi4 : decide (2147483647 < A) = false := decide_eq_false (by omega)
      have HWB : Hid (IntKind.i64.wrap (A - a1) = A - a1) := hide (by rw [IntKind.wrap_i64]; omega)
      have mixed : Try.prog.follows .mixedOrders = true := by kernel_rfl
      refine wq_region (by assumption) (by kernel_rfl) ?_
      refine q_load (by kernel_rfl) 29 _ rfl s2 0 rfl _ (P2x).1 (P2x).inB rowIBucket (fun K hK => ?_)
      simp only [Act.put, List.setIfInBounds_toArray, List.set_cons_zero, List.set_cons_succ]
      refine hK _ ?_
      clear hK K
      refine q_take (by kernel_rfl) (fun K hK => ?_)
      go_simp
      apply Exists.intro
      refine ⟨fun _ => ?_, hK _ ?_⟩
      exact Calls.regrown_of (unhide CBX _)
      clear hK K
      refine q_take (by kernel_rfl) (fun K hK => ?_)
      go_simp
      refine hK _ ?_
      clear hK K
      refine q_take (by kernel_rfl) (fun K hK => ?_)
      go_simp
      refine hK _ ?_
      clear hK K
      refine q_cell (by kernel_rfl) 3 _ rfl s2 2 rfl _ ((P2x).2 2 _ rfl) plainInt (fun K hK => ?_)
      simp only [Act.put, List.setIfInBounds_toArray, List.set_cons_zero, List.set_cons_succ]
      refine hK _ ?_
      clear hK K
      refine q_take (by kernel_rfl) (fun K hK => ?_)
      go_simp
      refine hK _ ?_
      clear hK K
      refine q_cell (by kernel_rfl) 3 _ rfl s1 2 rfl _ ((P1x).2 2 _ rfl) plainInt (fun K hK => ?_)
      simp only [Act.put, List.setIfInBounds_toArray, List.set_cons_zero, List.set_cons_succ]
      refine hK _ ?_
      clear hK K
      refine q_take (by kernel_rfl) (fun K hK => ?_)
      go_simp
      refine hK _ ?_
      clear hK K
      refine q_take (by kernel_rfl) (fun K hK => ?_)
      go_simp
      refine hK _ ?_
      clear hK K
      refine q_take (by kernel_rfl) (fun K hK => ?_)
      go_simp
      refine hK _ ?_
      clear hK K
      refine q_take (by kernel_rfl) (fun K hK => ?_)
      go_simp
      refine hK _ ?_
      clear hK K
      refine q_take (by kernel_rfl) (fun K hK => ?_)
      go_simp
      refine hK _ ?_
      clear hK K
      refine q_cell (by kernel_rfl) 3 _ rfl s1 3 rfl _ ((P1x).2 3 _ rfl) plainInt (fun K hK => ?_)
      simp only [Act.put, List.setIfInBounds_toArray, List.set_cons_zero, List.set_cons_succ]
      refine hK _ ?_
      clear hK K
      refine q_take (by kernel_rfl) (fun K hK => ?_)
      go_simp
      refine hK _ ?_
      clear hK K
      refine q_take (by kernel_rfl) (fun K hK => ?_)
      go_simp
      refine hK _ ?_
      clear hK K
      refine q_take (by kernel_rfl) (fun K hK => ?_)
      go_simp
      refine hK _ ?_
      clear hK K
      refine q_take (by kernel_rfl) (fun K hK => ?_)
      go_simp
      refine hK _ ?_
      clear hK K
      refine q_take (by kernel_rfl) (fun K hK => ?_)
      go_simp
      refine hK _ ?_
      clear hK K
      refine q_take (by kernel_rfl) (fun K hK => ?_)
      go_simp
      refine hK _ ?_
      clear hK K
      refine q_take (by kernel_rfl) (fun K hK => ?_)
      go_simp
      refine hK _ ?_
      clear hK K
      refine q_cell (by kernel_rfl) 3 _ rfl s2 3 rfl _ ((P2x).2 3 _ rfl) plainInt (fun K hK => ?_)
      simp only [Act.put, List.setIfInBounds_toArray, List.set_cons_zero, List.set_cons_succ]
      refine hK _ ?_
      clear hK K
      refine q_take (by kernel_rfl) (fun K hK => ?_)
      go_simp
      refine hK _ ?_
      clear hK K
      refine q_take (by kernel_rfl) (fun K hK => ?_)
      go_simp
      refine hK _ ?_
      clear hK K
      refine q_take (by kernel_rfl) (fun K hK => ?_)
      go_simp
      refine hK _ ?_
      clear hK K
      refine q_load (by kernel_rfl) 29 _ rfl s1 0 rfl _ (P1x).1 (P1x).inB rowIBucket (fun K hK => ?_)
      simp only [Act.put, List.setIfInBounds_toArray, List.set_cons_zero, List.set_cons_succ]
      refine hK _ ?_
      clear hK K
      refine q_take (by kernel_rfl) (fun K hK => ?_)
      go_simp
      refine hK _ ?_
      clear hK K
      refine q_take (by kernel_rfl) (fun K hK => ?_)
      go_simp
      apply Exists.intro
      refine ⟨fun _ => ?_, hK _ ?_⟩
      exact Calls.regrown_of (unhide CA1 _)
      clear hK K
      refine q_take (by kernel_rfl) (fun K hK => ?_)
      go_simp
      refine hK _ ?_
      clear hK K
      refine q_take (by kernel_rfl) (fun K hK => ?_)
      go_simp
      apply Exists.intro
      refine ⟨fun _ => ?_, hK _ ?_⟩
      exact Calls.regrown_of (unhide CA2 _)
      clear hK K
      refine q_load (by kernel_rfl) 29 _ rfl s2 0 rfl _ (P2x).1 (P2x).inB rowIBucket (fun K hK => ?_)
      simp only [Act.put, List.setIfInBounds_toArray, List.set_cons_zero, List.set_cons_succ]
      refine hK _ ?_
      clear hK K
      refine q_take (by kernel_rfl) (fun K hK => ?_)
      go_simp
      refine hK _ ?_
      clear hK K
      refine q_take (by kernel_rfl) (fun K hK => ?_)
      go_simp
      refine hK _ ?_
      clear hK K
      refine q_take (by kernel_rfl) (fun K hK => ?_)
      go_simp
      refine hK _ ?_
      clear hK K
      refine q_take (by kernel_rfl) (fun K hK => ?_)
      go_simp
      refine hK _ ?_
      clear hK K
      refine q_cell (by kernel_rfl) 3 _ rfl s2 2 rfl _ ((P2x).2 2 _ rfl) plainInt (fun K hK => ?_)
      simp only [Act.put, List.setIfInBounds_toArray, List.set_cons_zero, List.set_cons_succ]
      refine hK _ ?_
      clear hK K
      refine q_load (by kernel_rfl) 29 _ rfl s1 0 rfl _ (P1x).1 (P1x).inB rowIBucket (fun K hK => ?_)
      simp only [Act.put, List.setIfInBounds_toArray, List.set_cons_zero, List.set_cons_succ]
      refine hK _ ?_
      clear hK K
      refine q_take (by kernel_rfl) (fun K hK => ?_)
      go_simp
      refine hK _ ?_
      clear hK K
      refine q_take (by kernel_rfl) (fun K hK => ?_)
      go_simp
      refine hK _ ?_
      clear hK K
      refine q_cell (by kernel_rfl) 3 _ rfl s1 3 rfl _ ((P1x).2 3 _ rfl) plainInt (fun K hK => ?_)
      simp only [Act.put, List.setIfInBounds_toArray, List.set_cons_zero, List.set_cons_succ]
      refine hK _ ?_
      clear hK K
      refine q_take (by kernel_rfl) (fun K hK => ?_)
      go_simp
      try rw [unhide HWB]
      refine hK _ ?_
      clear hK K
      refine q_take (by kernel_rfl) (fun K hK => ?_)
      go_simp
      apply Exists.intro
      refine ⟨fun _ => ?_, hK _ ?_⟩
      exact Calls.regrown_of (unhide CQ _)
      clear hK K
      refine q_take (by kernel_rfl) (fun K hK => ?_)
      go_simp
      refine hK _ ?_
      clear hK K
      refine q_take (by kernel_rfl) (fun K hK => ?_)
      go_simp
      refine hK _ ?_
      clear hK K
      refine q_take (by kernel_rfl) (fun K hK => ?_)
      go_simp
      refine hK _ ?_
      clear hK K
      refine q_take (by kernel_rfl) (fun K hK => ?_)
      go_simp
      refine hK _ ?_
      clear hK K
      refine q_take (by kernel_rfl) (fun K hK => ?_)
      go_simp
      refine hK _ ?_
      clear hK K
      refine wq_nil ?_
      intro _ hw9
      obtain ⟨⟨dq, osq⟩, hw9'⟩ := hw9
      subst hw9'
      have hHeld := below_regrown wc dq osq
      generalize Go.Sort.grow (redrawn wc dq) osq = wq at *
      clear mixed
      have hfin := bthen Bx hHeld
      clear hHeld
      go_wp2
      go_ret
      exact ⟨rfl, hfin⟩
    · have hC : ¬ refC r1 u1 t1 a1 n1 = true := fun h => hin (refC_yes h).2
      obtain ⟨hX, hA⟩ := unhide HRN hC
      subst hX
      subst hA
      clear HRN HRY hC hp
      go_upto_region 18 with fail
      clear q1
      have CBX := hide (fun wx => bok_any r1 u1 _ _ wx _ hk1)
      by_cases hlt : n1 < A
      · have hi3 : decide (n1 < A) = true := decide_eq_true hlt
        have mixed : Try.prog.follows .mixedOrders = true := by kernel_rfl
        refine wq_region (by assumption) (by kernel_rfl) ?_
        refine q_load (by kernel_rfl) 29 _ rfl s2 0 rfl _ (P2x).1 (P2x).inB rowIBucket (fun K hK => ?_)
        simp only [Act.put, List.setIfInBounds_toArray, List.set_cons_zero, List.set_cons_succ]
        refine hK _ ?_
        clear hK K
        refine q_take (by kernel_rfl) (fun K hK => ?_)
        go_simp
        apply Exists.intro
        refine ⟨fun _ => ?_, hK _ ?_⟩
        exact Calls.regrown_of (unhide CBX _)
        clear hK K
        refine q_take (by kernel_rfl) (fun K hK => ?_)
        go_simp
        refine hK _ ?_
        clear hK K
        refine q_take (by kernel_rfl) (fun K hK => ?_)
        go_simp
        refine hK _ ?_
        clear hK K
        refine q_cell (by kernel_rfl) 3 _ rfl s2 2 rfl _ ((P2x).2 2 _ rfl) plainInt (fun K hK => ?_)
        simp only [Act.put, List.setIfInBounds_toArray, List.set_cons_zero, List.set_cons_succ]
        refine hK _ ?_
        clear hK K
        refine q_take (by kernel_rfl) (fun K hK => ?_)
        go_simp
        refine hK _ ?_
        clear hK K
        refine q_cell (by kernel_rfl) 3 _ rfl s1 2 rfl _ ((P1x).2 2 _ rfl) plainInt (fun K hK => ?_)
        simp only [Act.put, List.setIfInBounds_toArray, List.set_cons_zero, List.set_cons_succ]
        refine hK _ ?_
        clear hK K
        refine q_take (by kernel_rfl) (fun K hK => ?_)
        go_simp
        refine hK _ ?_
        clear hK K
        refine q_take (by kernel_rfl) (fun K hK => ?_)
        go_simp
        refine hK _ ?_
        clear hK K
        refine q_take (by kernel_rfl) (fun K hK => ?_)
        go_simp
        refine hK _ ?_
        clear hK K
        refine q_take (by kernel_rfl) (fun K hK => ?_)
        go_simp
        refine hK _ ?_
        clear hK K
        refine q_take (by kernel_rfl) (fun K hK => ?_)
        go_simp
        refine hK _ ?_
        clear hK K
        refine q_cell (by kernel_rfl) 3 _ rfl s1 3 rfl _ ((P1x).2 3 _ rfl) plainInt (fun K hK => ?_)
        simp only [Act.put, List.setIfInBounds_toArray, List.set_cons_zero, List.set_cons_succ]
        refine hK _ ?_
        clear hK K
        refine q_take (by kernel_rfl) (fun K hK => ?_)
        go_simp
        refine hK _ ?_
        clear hK K
        refine q_take (by kernel_rfl) (fun K hK => ?_)
        go_simp
        refine hK _ ?_
        clear hK K
        refine q_skipK (by kernel_rfl) (fun K hK => ?_)
        simp only [Act.put, List.setIfInBounds_toArray, List.set_cons_zero, List.set_cons_succ]
        refine hK _ ?_
        clear hK K
        refine q_skipK (by kernel_rfl) (fun K hK => ?_)
        simp only [Act.put, List.setIfInBounds_toArray, List.set_cons_zero, List.set_cons_succ]
        refine hK _ ?_
        clear hK K
        refine q_take (by kernel_rfl) (fun K hK => ?_)
        go_simp
        refine hK _ ?_
        clear hK K
        refine q_take (by kernel_rfl) (fun K hK => ?_)
        go_simp
        refine hK _ ?_
        clear hK K
        refine q_skipK (by kernel_rfl) (fun K hK => ?_)
        simp only [Act.put, List.setIfInBounds_toArray, List.set_cons_zero, List.set_cons_succ]
        refine hK _ ?_
        clear hK K
        refine q_skipK (by kernel_rfl) (fun K hK => ?_)
        simp only [Act.put, List.setIfInBounds_toArray, List.set_cons_zero, List.set_cons_succ]
        refine hK _ ?_
        clear hK K
        refine q_skipK (by kernel_rfl) (fun K hK => ?_)
        simp only [Act.put, List.setIfInBounds_toArray, List.set_cons_zero, List.set_cons_succ]
        refine hK _ ?_
        clear hK K
        refine q_skipK (by kernel_rfl) (fun K hK => ?_)
        simp only [Act.put, List.setIfInBounds_toArray, List.set_cons_zero, List.set_cons_succ]
        refine hK _ ?_
        clear hK K
        refine q_skipK (by kernel_rfl) (fun K hK => ?_)
        simp only [Act.put, List.setIfInBounds_toArray, List.set_cons_zero, List.set_cons_succ]
        refine hK _ ?_
        clear hK K
        refine q_skipK (by kernel_rfl) (fun K hK => ?_)
        simp only [Act.put, List.setIfInBounds_toArray, List.set_cons_zero, List.set_cons_succ]
        refine hK _ ?_
        clear hK K
        refine q_skipK (by kernel_rfl) (fun K hK => ?_)
        simp only [Act.put, List.setIfInBounds_toArray, List.set_cons_zero, List.set_cons_succ]
        refine hK _ ?_
        clear hK K
        refine q_skipK (by kernel_rfl) (fun K hK => ?_)
        simp only [Act.put, List.setIfInBounds_toArray, List.set_cons_zero, List.set_cons_succ]
        refine hK _ ?_
        clear hK K
        refine q_skipK (by kernel_rfl) (fun K hK => ?_)
        simp only [Act.put, List.setIfInBounds_toArray, List.set_cons_zero, List.set_cons_succ]
        refine hK _ ?_
        clear hK K
        refine q_skipK (by kernel_rfl) (fun K hK => ?_)
        simp only [Act.put, List.setIfInBounds_toArray, List.set_cons_zero, List.set_cons_succ]
        refine hK _ ?_
        clear hK K
        refine q_skipK (by kernel_rfl) (fun K hK => ?_)
        simp only [Act.put, List.setIfInBounds_toArray, List.set_cons_zero, List.set_cons_succ]
        refine hK _ ?_
        clear hK K
        refine q_skipK (by kernel_rfl) (fun K hK => ?_)
        simp only [Act.put, List.setIfInBounds_toArray, List.set_cons_zero, List.set_cons_succ]
        refine hK _ ?_
        clear hK K
        refine q_skipK (by kernel_rfl) (fun K hK => ?_)
        simp only [Act.put, List.setIfInBounds_toArray, List.set_cons_zero, List.set_cons_succ]
        refine hK _ ?_
        clear hK K
        refine q_skipK (by kernel_rfl) (fun K hK => ?_)
        simp only [Act.put, List.setIfInBounds_toArray, List.set_cons_zero, List.set_cons_succ]
        refine hK _ ?_
        clear hK K
        refine q_skipK (by kernel_rfl) (fun K hK => ?_)
        simp only [Act.put, List.setIfInBounds_toArray, List.set_cons_zero, List.set_cons_succ]
        refine hK _ ?_
        clear hK K
        refine q_skipK (by kernel_rfl) (fun K hK => ?_)
        simp only [Act.put, List.setIfInBounds_toArray, List.set_cons_zero, List.set_cons_succ]
        refine hK _ ?_
        clear hK K
        refine q_skipK (by kernel_rfl) (fun K hK => ?_)
        simp only [Act.put, List.setIfInBounds_toArray, List.set_cons_zero, List.set_cons_succ]
        refine hK _ ?_
        clear hK K
        refine q_skipK (by kernel_rfl) (fun K hK => ?_)
        simp only [Act.put, List.setIfInBounds_toArray, List.set_cons_zero, List.set_cons_succ]
        refine hK _ ?_
        clear hK K
        refine q_skipK (by kernel_rfl) (fun K hK => ?_)
        simp only [Act.put, List.setIfInBounds_toArray, List.set_cons_zero, List.set_cons_succ]
        refine hK _ ?_
        clear hK K
        refine q_skipK (by kernel_rfl) (fun K hK => ?_)
        simp only [Act.put, List.setIfInBounds_toArray, List.set_cons_zero, List.set_cons_succ]
        refine hK _ ?_
        clear hK K
        refine q_skipK (by kernel_rfl) (fun K hK => ?_)
        simp only [Act.put, List.setIfInBounds_toArray, List.set_cons_zero, List.set_cons_succ]
        refine hK _ ?_
        clear hK K
        refine q_skipK (by kernel_rfl) (fun K hK => ?_)
        simp only [Act.put, List.setIfInBounds_toArray, List.set_cons_zero, List.set_cons_succ]
        refine hK _ ?_
        clear hK K
        refine q_skipK (by kernel_rfl) (fun K hK => ?_)
        simp only [Act.put, List.setIfInBounds_toArray, List.set_cons_zero, List.set_cons_succ]
        refine hK _ ?_
        clear hK K
        refine q_skipK (by kernel_rfl) (fun K hK => ?_)
        simp only [Act.put, List.setIfInBounds_toArray, List.set_cons_zero, List.set_cons_succ]
        refine hK _ ?_
        clear hK K
        refine q_take (by kernel_rfl) (fun K hK => ?_)
        go_simp
        refine hK _ ?_
        clear hK K
        refine q_take (by kernel_rfl) (fun K hK => ?_)
        go_simp
        refine hK _ ?_
        clear hK K
        refine q_take (by kernel_rfl) (fun K hK => ?_)
        go_simp
        refine hK _ ?_
        clear hK K
        refine wq_nil ?_
        intro _ hw9
        obtain ⟨⟨dq, osq⟩, hw9'⟩ := hw9
        subst hw9'
        have hHeld := below_regrown wc dq osq
        generalize Go.Sort.grow (redrawn wc dq) osq = wq at *
        clear mixed
        have hfin := bthen Bx hHeld
        clear hHeld
        go_wp2
        go_ret
        exact ⟨rfl, hfin⟩
      · have hi3 : decide (n1 < A) = false := decide_eq_false hlt
        have hi4 : decide (2147483647 < n1) = true := decide_eq_true (by omega)
        have mixed : Try.prog.follows .mixedOrders = true := by kernel_rfl
        refine wq_region (by assumption) (by kernel_rfl) ?_
        refine q_load (by kernel_rfl) 29 _ rfl s2 0 rfl _ (P2x).1 (P2x).inB rowIBucket (fun K hK => ?_)
        simp only [Act.put, List.setIfInBounds_toArray, List.set_cons_zero, List.set_cons_succ]
        refine hK _ ?_
        clear hK K
        refine q_take (by kernel_rfl) (fun K hK => ?_)
        go_simp
        apply Exists.intro
        refine ⟨fun _ => ?_, hK _ ?_⟩
        exact Calls.regrown_of (unhide CBX _)
        clear hK K
        refine q_take (by kernel_rfl) (fun K hK => ?_)
        go_simp
        refine hK _ ?_
        clear hK K
        refine q_take (by kernel_rfl) (fun K hK => ?_)
        go_simp
        refine hK _ ?_
        clear hK K
        refine q_cell (by kernel_rfl) 3 _ rfl s2 2 rfl _ ((P2x).2 2 _ rfl) plainInt (fun K hK => ?_)
        simp only [Act.put, List.setIfInBounds_toArray, List.set_cons_zero, List.set_cons_succ]
        refine hK _ ?_
        clear hK K
        refine q_take (by kernel_rfl) (fun K hK => ?_)
        go_simp
        refine hK _ ?_
        clear hK K
        refine q_cell (by kernel_rfl) 3 _ rfl s1 2 rfl _ ((P1x).2 2 _ rfl) plainInt (fun K hK => ?_)
        simp only [Act.put, List.setIfInBounds_toArray, List.set_cons_zero, List.set_cons_succ]
        refine hK _ ?_
        clear hK K
        refine q_take (by kernel_rfl) (fun K hK => ?_)
        go_simp
        refine hK _ ?_
        clear hK K
        refine q_take (by kernel_rfl) (fun K hK => ?_)
        go_simp
        refine hK _ ?_
        clear hK K
        refine q_take (by kernel_rfl) (fun K hK => ?_)
        go_simp
        refine hK _ ?_
        clear hK K
        refine q_take (by kernel_rfl) (fun K hK => ?_)
        go_simp
        refine hK _ ?_
        clear hK K
        refine q_take (by kernel_rfl) (fun K hK => ?_)
        go_simp
        refine hK _ ?_
        clear hK K
        refine q_cell (by kernel_rfl) 3 _ rfl s1 3 rfl _ ((P1x).2 3 _ rfl) plainInt (fun K hK => ?_)
        simp only [Act.put, List.setIfInBounds_toArray, List.set_cons_zero, List.set_cons_succ]
        refine hK _ ?_
        clear hK K
        refine q_take (by kernel_rfl) (fun K hK => ?_)
        go_simp
        refine hK _ ?_
        clear hK K
        refine q_take (by kernel_rfl) (fun K hK => ?_)
        go_simp
        refine hK _ ?_
        clear hK K
        refine q_take (by kernel_rfl) (fun K hK => ?_)
        go_simp
        refine hK _ ?_
        clear hK K
        refine q_take (by kernel_rfl) (fun K hK => ?_)
        go_simp
        refine hK _ ?_
        clear hK K
        refine q_take (by kernel_rfl) (fun K hK => ?_)
        go_simp
        refine hK _ ?_
        clear hK K
        refine q_take (by kernel_rfl) (fun K hK => ?_)
        go_simp
        refine hK _ ?_
        clear hK K
        refine q_skipK (by kernel_rfl) (fun K hK => ?_)
        simp only [Act.put, List.setIfInBounds_toArray, List.set_cons_zero, List.set_cons_succ]
        refine hK _ ?_
        clear hK K
        refine q_skipK (by kernel_rfl) (fun K hK => ?_)
        simp only [Act.put, List.setIfInBounds_toArray, List.set_cons_zero, List.set_cons_succ]
        refine hK _ ?_
        clear hK K
        refine q_skipK (by kernel_rfl) (fun K hK => ?_)
        simp only [Act.put, List.setIfInBounds_toArray, List.set_cons_zero, List.set_cons_succ]
        refine hK _ ?_
        clear hK K
        refine q_skipK (by kernel_rfl) (fun K hK => ?_)
        simp only [Act.put, List.setIfInBounds_toArray, List.set_cons_zero, List.set_cons_succ]
        refine hK _ ?_
        clear hK K
        refine q_skipK (by kernel_rfl) (fun K hK => ?_)
        simp only [Act.put, List.setIfInBounds_toArray, List.set_cons_zero, List.set_cons_succ]
        refine hK _ ?_
        clear hK K
        refine q_skipK (by kernel_rfl) (fun K hK => ?_)
        simp only [Act.put, List.setIfInBounds_toArray, List.set_cons_zero, List.set_cons_succ]
        refine hK _ ?_
        clear hK K
        refine q_skipK (by kernel_rfl) (fun K hK => ?_)
        simp only [Act.put, List.setIfInBounds_toArray, List.set_cons_zero, List.set_cons_succ]
        refine hK _ ?_
        clear hK K
        refine q_skipK (by kernel_rfl) (fun K hK => ?_)
        simp only [Act.put, List.setIfInBounds_toArray, List.set_cons_zero, List.set_cons_succ]
        refine hK _ ?_
        clear hK K
        refine q_skipK (by kernel_rfl) (fun K hK => ?_)
        simp only [Act.put, List.setIfInBounds_toArray, List.set_cons_zero, List.set_cons_succ]
        refine hK _ ?_
        clear hK K
        refine q_skipK (by kernel_rfl) (fun K hK => ?_)
        simp only [Act.put, List.setIfInBounds_toArray, List.set_cons_zero, List.set_cons_succ]
        refine hK _ ?_
        clear hK K
        refine q_skipK (by kernel_rfl) (fun K hK => ?_)
        simp only [Act.put, List.setIfInBounds_toArray, List.set_cons_zero, List.set_cons_succ]
        refine hK _ ?_
        clear hK K
        refine q_skipK (by kernel_rfl) (fun K hK => ?_)
        simp only [Act.put, List.setIfInBounds_toArray, List.set_cons_zero, List.set_cons_succ]
        refine hK _ ?_
        clear hK K
        refine q_skipK (by kernel_rfl) (fun K hK => ?_)
        simp only [Act.put, List.setIfInBounds_toArray, List.set_cons_zero, List.set_cons_succ]
        refine hK _ ?_
        clear hK K
        refine q_skipK (by kernel_rfl) (fun K hK => ?_)
        simp only [Act.put, List.setIfInBounds_toArray, List.set_cons_zero, List.set_cons_succ]
        refine hK _ ?_
        clear hK K
        refine q_skipK (by kernel_rfl) (fun K hK => ?_)
        simp only [Act.put, List.setIfInBounds_toArray, List.set_cons_zero, List.set_cons_succ]
        refine hK _ ?_
        clear hK K
        refine q_skipK (by kernel_rfl) (fun K hK => ?_)
        simp only [Act.put, List.setIfInBounds_toArray, List.set_cons_zero, List.set_cons_succ]
        refine hK _ ?_
        clear hK K
        refine q_skipK (by kernel_rfl) (fun K hK => ?_)
        simp only [Act.put, List.setIfInBounds_toArray, List.set_cons_zero, List.set_cons_succ]
        refine hK _ ?_
        clear hK K
        refine q_skipK (by kernel_rfl) (fun K hK => ?_)
        simp only [Act.put, List.setIfInBounds_toArray, List.set_cons_zero, List.set_cons_succ]
        refine hK _ ?_
        clear hK K
        refine q_skipK (by kernel_rfl) (fun K hK => ?_)
        simp only [Act.put, List.setIfInBounds_toArray, List.set_cons_zero, List.set_cons_succ]
        refine hK _ ?_
        clear hK K
        refine q_skipK (by kernel_rfl) (fun K hK => ?_)
        simp only [Act.put, List.setIfInBounds_toArray, List.set_cons_zero, List.set_cons_succ]
        refine hK _ ?_
        clear hK K
        refine q_skipK (by kernel_rfl) (fun K hK => ?_)
        simp only [Act.put, List.setIfInBounds_toArray, List.set_cons_zero, List.set_cons_succ]
        refine hK _ ?_
        clear hK K
        refine q_skipK (by kernel_rfl) (fun K hK => ?_)
        simp only [Act.put, List.setIfInBounds_toArray, List.set_cons_zero, List.set_cons_succ]
        refine hK _ ?_
        clear hK K
        refine q_skipK (by kernel_rfl) (fun K hK => ?_)
        simp only [Act.put, List.setIfInBounds_toArray, List.set_cons_zero, List.set_cons_succ]
        refine hK _ ?_
        clear hK K
        refine q_skipK (by kernel_rfl) (fun K hK => ?_)
        simp only [Act.put, List.setIfInBounds_toArray, List.set_cons_zero, List.set_cons_succ]
        refine hK _ ?_
        clear hK K
        refine q_take (by kernel_rfl) (fun K hK => ?_)
        go_simp
        refine hK _ ?_
        clear hK K
        refine q_take (by kernel_rfl) (fun K hK => ?_)
        go_simp
        refine hK _ ?_
        clear hK K
        refine q_take (by kernel_rfl) (fun K hK => ?_)
        go_simp
        refine hK _ ?_
        clear hK K
        refine wq_nil ?_
        intro _ hw9
        obtain ⟨⟨dq, osq⟩, hw9'⟩ := hw9
        subst hw9'
        have hHeld := below_regrown wc dq osq
        generalize Go.Sort.grow (redrawn wc dq) osq = wq at *
        clear mixed
        have hfin := bthen Bx hHeld
        clear hHeld
        go_wp2
        go_ret
        exact ⟨rfl, hfin⟩

/-! ### THE ROW's STEP: WRITTEN OUT: LEAVE IT -/
set_option maxRecDepth 100000 in
theorem lifted (os : Os) (started : os.Started) (H : Type) (enc : TypeId × Value → H) :
    ReturnsInHanded {} Try.checked os 4 .any (Rows.fnBucketsSpec.pre6 enc Try.prog Try.f4 Rows.fnBucketsRow.domain false) (Rows.fnBucketsSpec.post enc Try.prog Try.f4 false true false false) := by
  refine returnsInHanded_of_change (C := Try.checked) own started (by kernel_rfl) Try.func4
    (ChangeSpec.witness6 (enc := enc) (C := Try.checked) false ⟨#[], #[.slice none 0 0], []⟩ 8 (by kernel_rfl) (by kernel_rfl) (by kernel_rfl) (by kernel_rfl)) ?_
  intro W base args ds gs before hval0 hW hcnd _
  have hval : ∀ (j : Nat) t v, Try.f4.params[j]? = some t → args[j]? = some v → Value.okWide Try.prog W .any base t v := hval0
  have hW' := hW
  obtain ⟨p, q, hA0, hV, rfl, hfz, hnd⟩ := hW
  have hA : DataW.TrodAll enc Try.prog W 0 (fun _ => true) true Try.f4.params.toList args.toList ds p := hA0
  rw [Try.params4] at hA hval
  obtain ⟨v0, vs0, d0, ds0, p0, q0, hargs, rfl, rfl, h0, r0⟩ := trodAll_cons hA
  obtain ⟨rfl, rfl, rfl⟩ := trodAll_nil r0
  obtain rfl : args = #[v0] := by cases args; simp_all
  obtain ⟨rfl, rfl⟩ := trodVars_none hV
  obtain ⟨a0, len0, cap0, rfl⟩ := okWide_slice Try.underlying22 (hval 0 22 v0 rfl rfl)
  have k0 := h0
  have lt0 : ∀ x ∈ p0, x.block < W.heap.size := by obtain ⟨m, hm⟩ := k0; exact DataW.trod_lt m _ _ _ hm
  obtain ⟨z0, w0⟩ : ∃ zs, IsRow .u8 W a0 len0 cap0 zs := by
    obtain ⟨fuel, hf⟩ := h0
    rcases open_ints Try.underlying22 Try.underlying5 (by kernel_rfl) hf with ⟨hcs, _⟩ | ⟨x, l, c, zs, hcs, _, hl, hm, hz, _, hcell, hwz⟩
    · simp [Value.cells] at hcs
      obtain ⟨rfl, rfl, rfl⟩ := hcs
      exact ⟨[], .inl ⟨rfl, rfl, rfl, rfl⟩⟩
    · simp [Value.cells] at hcs
      obtain ⟨rfl, rfl, rfl⟩ := hcs
      exact ⟨zs, .inr ⟨_, rfl, hl, hm, by simpa using hz, hcell, hwz⟩⟩
  clear hA0 hval0
  refine (walk a0 len0 cap0 z0 W w0).mono fun e W' ⟨he, bel⟩ => ?_
  subst he
  exact ⟨_, rfl, _, _, _, [], _, [], hW', trodAll_mk1 (shut_bool Try.underlying4 _), (trodAll_cons_mk (Below.trod laidOut (by kernel_rfl) (of_decide_eq_true (by kernel_rfl)) k0 bel lt0) trodAll_mk0), rfl, bel.frame _, fun h => by cases h⟩

theorem over : Rows.fnBucketsRow.holds Try.pinned (OpenSpec.ofChange Rows.fnBucketsSpec) :=
  OpenClaim.holds_of_wide 4 Try.f4 rfl rfl rfl rfl rfl rfl rfl ⟨rfl, rfl, rfl, rfl, rfl⟩ rfl rfl rfl rfl rfl (by kernel_rfl) Try.func4 (by kernel_rfl)
    (of_decide_eq_true (by kernel_rfl)) (by unfold Func.isWrapper; first | (rw [if_pos (by decide +kernel)]; kernel_rfl) | (rw [if_neg (by decide +kernel)]; exact ⟨rfl, rfl⟩))
    (fun os started H enc _ => lifted os started H enc)

/-- ████ THE STATEMENT ████ -/
theorem proved : Rows.FnBucketsSaid := over
#print axioms proved
end Go.Proofs.Ytchinpgjaddnkaa.fnBuckets
