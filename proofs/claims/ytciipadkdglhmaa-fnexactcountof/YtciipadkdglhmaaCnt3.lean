/-
  CountOf of the specification.
-/
import Derived.Test.YtciipadkdglhmaaCnt2
namespace Go.Proofs.Ytciipadkdglhmaa
open Go.ChangeShapes Go.WideShapes Go.ChangeAt Go.RowKit
set_option linter.unusedVariables false
set_option maxRecDepth 100000

theorem wrap_same (x : Int) : IntKind.i64.wrap x = wrap64 x := IntWalk.i64_left x
theorem fold_all {α : Type} (g : α → Int) : ∀ (l : List α) (s : Int), l.foldl (fun s x => addI s (g x)) (wrap64 s) = wrap64 (s + (l.map g).sum) := by
  intro l
  induction l with
  | nil => intro s; simp
  | cons a r ih =>
    intro s
    rw [List.foldl_cons, show addI (wrap64 s) (g a) = wrap64 (s + g a) by unfold addI wrap64; omega, ih]
    simp [Int.add_assoc]
def movN (q : Int) (l : List TaskD) : Int := l.foldl (fun s x => addI s (handL x)) q
theorem mov_all (q : Nat) (hq : q ≤ 9223372036854775807) (l : List TaskD) : movN q l = IntKind.i64.wrap ((q : Int) + sumI handL l) := by
  have e : wrap64 (q : Int) = q := by unfold wrap64; omega
  have e0 : wrap64 (0 : Int) = 0 := by unfold wrap64; omega
  unfold movN sumI
  rw [wrap_same]
  have h1 := fold_all handL l q
  have h2 := fold_all handL l 0
  rw [e] at h1
  rw [e0] at h2
  rw [h1, h2]
  unfold wrap64
  omega
theorem movN_step {q : Int} {l : List TaskD} {k : Nat} (h : k < l.length) : movN q (l.take (k + 1)) = addI (movN q (l.take k)) (handL l[k]) := fold_snoc' h
def NS (w wk : World) (c0 : List Value) (n : CountD) : Prop := Below w.heap.size w wk ∧ Held wk w.heap.size c0 ∧ Held wk (w.heap.size + 2) (countC n) ∧ WrAt wk (w.heap.size + 2) 0 5 ∧ WrAt wk (w.heap.size + 1) 0 5
theorem NS.call {w a b : World} {c0 : List Value} {n : CountD} (h : NS w a c0 n) (hb : Below a.heap.size a b) : NS w b c0 n :=
  ⟨bthen h.1 hb, h.2.1.keep hb, h.2.2.1.keep hb, h.2.2.2.1.keep hb, h.2.2.2.2.keep hb⟩
theorem NS.drew {w a : World} {c0 : List Value} {n : CountD} (h : NS w a c0 n) : NS w a.drew c0 n := h.call (Below.drew (Below.refl _ _))
theorem NS.set {w a : World} {c0 : List Value} {n m : CountD} (h : NS w a c0 n) (i : Nat) (v : Value) (hi : i < 5) (e : (countC n).set i v = countC m) : NS w (a.setCell ⟨w.heap.size + 2, i, none⟩ v) c0 m :=
  ⟨h.1.setCell (by show w.heap.size ≤ w.heap.size + 2; omega) v, h.2.1.other (by show w.heap.size + 2 ≠ w.heap.size; omega) v, e ▸ h.2.2.1.set i v (by simpa [countC] using hi), h.2.2.2.1.set _ _, h.2.2.2.2.set _ _⟩
theorem NS.at {w a : World} {c0 : List Value} {n : CountD} (h : NS w a c0 n) (i : Nat) (v : Value) (hv : (countC n)[i]? = some v) : a.cell? ⟨w.heap.size + 2, i, none⟩ = some v := h.2.2.1.2 i v hv
theorem NS.free {w a : World} {c0 : List Value} {n : CountD} (h : NS w a c0 n) (i : Nat) (hi : i < 5) : a.frozen? ⟨w.heap.size + 2, i, none⟩ = false := by
  have := h.2.2.2.1.free i hi
  rwa [Nat.zero_add] at this
set_option maxHeartbeats 16000000 in
theorem specCountOf (x : WorldD) (S0 : Nat → Prop) (c0 : List Value) (w : World) (h0 : worldR w S0 c0 x) (b0 : worldBulk x ≤ 1048576) :
    Calls Try.prog 5 #[.agg c0.toArray] w fun e w' => e = .returned (.agg (countC (countOf x)).toArray) ∧ Below w.heap.size w w' := by
  have PW := Held.new w c0 60
  have P0 := (Held.new w c0 60).keep (bnew _ (.cells #[.int .i64 0, .int .i64 0, .int .i64 0, .int .i64 0, .int .i64 0] 42))
  have B0 := bthen (bnew w (.cells c0.toArray 60)) (bnew _ (.cells #[.int .i64 0, .int .i64 0, .int .i64 0, .int .i64 0, .int .i64 0] 42))
  obtain ⟨aD, kD, hcD, hD⟩ := worldR_c30 h0
  obtain ⟨aT, kT, hcT, hT⟩ := worldR_c29 h0
  obtain ⟨aO, kO, hcO, hO⟩ := worldR_c28 h0
  obtain ⟨aQ, kQ, hcQ, hQ⟩ := worldR_c27 h0
  obtain ⟨aS, kS, hcS, hS⟩ := worldR_c14 h0
  have HCD := hide hcD
  have HCT := hide hcT
  have HCO := hide hcO
  have HCQ := hide hcQ
  have HCS := hide hcS
  have HD := hide hD
  have HT := hide hT
  have HS := hide hS
  have bD : bulkL deedBulk x.deeds ≤ 1048576 := by unfold worldBulk at b0; omega
  have bT : bulkL taskBulk x.tasks ≤ 1048576 := by unfold worldBulk at b0; omega
  have bS : bulkL stripeBulk x.st ≤ 1048576 := by unfold worldBulk at b0; omega
  have lD := bulkL_len deedBulk x.deeds
  have lT := bulkL_len taskBulk x.tasks
  have lS := bulkL_len stripeBulk x.st
  have lO := hO.len
  have lQ := hQ.len
  have hwr : WrAt ((w.alloc (.cells c0.toArray 60)).alloc (.cells #[.int .i64 0, .int .i64 0, .int .i64 0, .int .i64 0, .int .i64 0] 42)) (w.heap.size + 1) 0 5 := by
    have h := WrAt.new (w.alloc (.cells c0.toArray 60)) #[.int .i64 0, .int .i64 0, .int .i64 0, .int .i64 0, .int .i64 0] 42 5 rfl
    rwa [show (w.alloc (.cells c0.toArray 60)).heap.size = w.heap.size + 1 by simp] at h
  have hsz0 : ((w.alloc (.cells c0.toArray 60)).alloc (.cells #[.int .i64 0, .int .i64 0, .int .i64 0, .int .i64 0, .int .i64 0] 42)).heap.size = w.heap.size + 2 := by simp
  have HSZ := hide hsz0
  clear h0 hcD hcT hcO hcQ hcS hD hT hO hQ hS b0 hsz0 PW
  go_enter Try.func5, Try.ntmps5
  go_upto_region 1 with fail
  generalize hW : World.alloc (World.alloc w _) _ = w0 at *
  clear hW
  have p28 := P0.2 28 _ (unhide HCO)
  have p27 := P0.2 27 _ (unhide HCQ)
  have hbn := bnew w0 (.cells #[.int .i64 0, .int .i64 (x.out.length : Int), .int .i64 (x.queue.length : Int), .int .i64 0, .int .i64 0] 42)
  have hPn := Held.new w0 (countC ⟨0, (x.out.length : Int), (x.queue.length : Int), 0, 0⟩) 42
  have hWn := WrAt.new w0 (countC ⟨0, (x.out.length : Int), (x.queue.length : Int), 0, 0⟩).toArray 42 5 rfl
  rw [unhide HSZ] at hPn hWn
  have HN : Hid (NS w (w0.alloc (.cells #[.int .i64 0, .int .i64 (x.out.length : Int), .int .i64 (x.queue.length : Int), .int .i64 0, .int .i64 0] 42)) c0 ⟨0, (x.out.length : Int), (x.queue.length : Int), 0, 0⟩) := hide ⟨bthen B0 hbn, P0.keep hbn, hPn, hWn, hwr.keep hbn⟩
  have hsq := unhide HSZ
  clear hbn hPn hWn
  go_upto_region 2 with (first | (refine wpl_store_new rfl _ _ _ rfl _ [.int .i64 0, .int .i64 (x.out.length : Int), .int .i64 (x.queue.length : Int), .int .i64 0, .int .i64 0] rfl rfl rfl (countC_one ⟨0, (x.out.length : Int), (x.queue.length : Int), 0, 0⟩) rowCnt ?_))
  generalize hW1 : World.alloc w0 _ = wi at *
  clear hW1 p28 p27 hsq
  go_wp2
  generalize hDD : x.deeds = l at *
  have HDD := hide hDD
  clear hDD
  go_loopw [4] (fun i wk => ∃ k : Nat, k ≤ l.length ∧ i = .int .i64 k ∧ Hid (NS w wk c0 ⟨sumI (fun d => one (takenB d)) (l.take k), (x.out.length : Int), (x.queue.length : Int), 0, sumI lostG (l.take k)⟩)) (fun i _ => l.length - (intOf i).toNat)
  case atStart => exact ⟨0, Nat.zero_le _, rfl, HN⟩
  case round =>
    obtain ⟨k, hk, rfl, hns⟩ := hrel
    clear HN
    have hbl := (unhide hns).1
    have p30 := (unhide hns).2.1.2 30 _ (unhide HCD)
    by_cases hlt : k < l.length
    · have hki : (k : Int) < (l.length : Int) := by omega
      obtain ⟨b, o, cs, rfl, hbk, hSb, hcs, hin⟩ := (unhide HD).at k hlt
      have hin := hin.turn hbk (Below.turn hbl) (fun e => e)
      have HS1 := hide (sum_step (fun d => one (takenB d)) hlt)
      have HZ1 := hide (sum_zero (fun d => one (takenB d)) (l.take k))
      have HS2 := hide (sum_step lostG hlt)
      have HZ2 := hide (sum_zero lostG (l.take k))
      generalize l[k] = d at *
      generalize sumI (fun d => one (takenB d)) (l.take k) = Y1 at *
      generalize sumI lostG (l.take k) = Y2 at *
      have hrw : RowT Try.prog 77 cs.length := by rw [deedR_len hcs]; exact rowIDeed
      have HL1 := hide (deedR_len hcs)
      have on1 := deedR_one hcs
      have HRD := hide hcs
      have hA1 := Held.new wr cs 77
      have hbA := bnew wr (.cells cs.toArray 77)
      have HNk := hide ((unhide hns).call hbA)
      clear hns hcs
      go_upto_region 6 with (first | (refine wpl_load rfl 77 _ rfl _ _ rfl cs hin hrw ?_) | (refine wpl_store_new rfl _ _ _ rfl _ cs rfl rfl ?_ on1 hrw ?_; (rw [unhide HL1]; rfl)))
      generalize hWa : World.alloc wr _ = wa at *
      clear hWa hin on1 hrw p30 hbA
      have p0 := hA1.2 0 _ (deedR_c0 (unhide HRD))
      have p10 := hA1.2 10 _ (deedR_c10 (unhide HRD))
      have p11 := hA1.2 11 _ (deedR_c11 (unhide HRD))
      have p12 := hA1.2 12 _ (deedR_c12 (unhide HRD))
      have p14 := hA1.2 14 _ (deedR_c14 (unhide HRD))
      have p18 := hA1.2 18 _ (deedR_c18 (unhide HRD))
      have n0 := (unhide HNk).at 0 _ rfl
      have n4 := (unhide HNk).at 4 _ rfl
      have f0 := (unhide HNk).free 0 (by omega)
      have f4 := (unhide HNk).free 4 (by omega)
      by_cases e1 : d.lin = -1
      case pos =>
        have q1 : (d.lin == -1) = true := by simpa using e1
        have HG1 := hide (show one (takenB d) = 0 by simp [one, takenB, offB, tookB, e1])
        have HG2 := hide (show lostG d = 0 by simp [lostG, lostB, judB, tookB, e1])
        go_wp2
        go_roundw
        case rel =>
          refine ⟨k + 1, by omega, by go_num, hide ?_⟩
          have ec : sumI (fun d => one (takenB d)) (l.take (k + 1)) = Y1 := by rw [unhide HS1, unhide HG1, unhide HZ1]
          have ed : sumI lostG (l.take (k + 1)) = Y2 := by rw [unhide HS2, unhide HG2, unhide HZ2]
          rw [ec, ed]
          exact unhide HNk
        case measure => simp [intOf]; omega
      have q1 : (d.lin == -1) = false := by simpa using e1
      by_cases e2 : d.op = 1
      case pos =>
        have q2 : (d.op == 1) = true := by simpa using e2
        have q3 : (d.op == 3) = false := by simp [e2]
        have q4 : (d.op == 2) = false := by simp [e2]
        by_cases e3 : d.code = 1
        case pos =>
          have q5 : (d.code == 1) = true := by simpa using e3
          have HG1 := hide (show one (takenB d) = 1 by simp [one, takenB, offB, tookB, e1, e2, e3])
          have HG2 := hide (show lostG d = 0 by simp [lostG, lostB, judB, dropB, e2])
          go_wp2
          go_roundw
          case rel =>
            refine ⟨k + 1, by omega, by go_num, hide ?_⟩
            have ec : sumI (fun d => one (takenB d)) (l.take (k + 1)) = addI Y1 1 := by rw [unhide HS1, unhide HG1]
            have ed : sumI lostG (l.take (k + 1)) = Y2 := by rw [unhide HS2, unhide HG2, unhide HZ2]
            rw [ec, ed]
            exact (unhide HNk).set 0 _ (by omega) rfl
          case measure => simp [intOf]; omega
        have q5 : (d.code == 1) = false := by simpa using e3
        by_cases e4 : d.code = 2
        case pos =>
          have q6 : (d.code == 2) = true := by simpa using e4
          have HG1 := hide (show one (takenB d) = 1 by simp [one, takenB, offB, tookB, e1, e2, e4])
          have HG2 := hide (show lostG d = 0 by simp [lostG, lostB, judB, dropB, e2])
          go_wp2
          go_roundw
          case rel =>
            refine ⟨k + 1, by omega, by go_num, hide ?_⟩
            have ec : sumI (fun d => one (takenB d)) (l.take (k + 1)) = addI Y1 1 := by rw [unhide HS1, unhide HG1]
            have ed : sumI lostG (l.take (k + 1)) = Y2 := by rw [unhide HS2, unhide HG2, unhide HZ2]
            rw [ec, ed]
            exact (unhide HNk).set 0 _ (by omega) rfl
          case measure => simp [intOf]; omega
        have q6 : (d.code == 2) = false := by simpa using e4
        have HG1 := hide (show one (takenB d) = 0 by simp [one, takenB, offB, e3, e4])
        have HG2 := hide (show lostG d = 0 by simp [lostG, lostB, judB, dropB, e2])
        go_wp2
        go_roundw
        case rel =>
          refine ⟨k + 1, by omega, by go_num, hide ?_⟩
          have ec : sumI (fun d => one (takenB d)) (l.take (k + 1)) = Y1 := by rw [unhide HS1, unhide HG1, unhide HZ1]
          have ed : sumI lostG (l.take (k + 1)) = Y2 := by rw [unhide HS2, unhide HG2, unhide HZ2]
          rw [ec, ed]
          exact unhide HNk
        case measure => simp [intOf]; omega
      have q2 : (d.op == 1) = false := by simpa using e2
      by_cases e3 : d.op = 3
      case pos =>
        have q3 : (d.op == 3) = true := by simpa using e3
        have HG1 := hide (show one (takenB d) = 0 by simp [one, takenB, offB, e2])
        have HG2 := hide (show lostG d = d.n by simp [lostG, lostB, dropB, tookB, e1, e3])
        go_wp2
        go_roundw
        case rel =>
          refine ⟨k + 1, by omega, by go_num, hide ?_⟩
          have ec : sumI (fun d => one (takenB d)) (l.take (k + 1)) = Y1 := by rw [unhide HS1, unhide HG1, unhide HZ1]
          have ed : sumI lostG (l.take (k + 1)) = addI Y2 d.n := by rw [unhide HS2, unhide HG2]
          rw [ec, ed]
          exact (unhide HNk).set 4 _ (by omega) rfl
        case measure => simp [intOf]; omega
      have q3 : (d.op == 3) = false := by simpa using e3
      by_cases e4 : d.op = 2
      case pos =>
        have q4 : (d.op == 2) = true := by simpa using e4
        cases hv : d.void
        case true =>
          rw [hv] at p12
          have HG1 := hide (show one (takenB d) = 0 by simp [one, takenB, offB, e2])
          have HG2 := hide (show lostG d = 0 by simp [lostG, lostB, dropB, judB, e3, hv])
          go_wp2
          go_roundw
          case rel =>
            refine ⟨k + 1, by omega, by go_num, hide ?_⟩
            have ec : sumI (fun d => one (takenB d)) (l.take (k + 1)) = Y1 := by rw [unhide HS1, unhide HG1, unhide HZ1]
            have ed : sumI lostG (l.take (k + 1)) = Y2 := by rw [unhide HS2, unhide HG2, unhide HZ2]
            rw [ec, ed]
            exact unhide HNk
          case measure => simp [intOf]; omega
        rw [hv] at p12
        cases hkp : d.keep
        case true =>
          rw [hkp] at p11
          have HG1 := hide (show one (takenB d) = 0 by simp [one, takenB, offB, e2])
          have HG2 := hide (show lostG d = 0 by simp [lostG, lostB, dropB, e3, hkp])
          go_wp2
          go_roundw
          case rel =>
            refine ⟨k + 1, by omega, by go_num, hide ?_⟩
            have ec : sumI (fun d => one (takenB d)) (l.take (k + 1)) = Y1 := by rw [unhide HS1, unhide HG1, unhide HZ1]
            have ed : sumI lostG (l.take (k + 1)) = Y2 := by rw [unhide HS2, unhide HG2, unhide HZ2]
            rw [ec, ed]
            exact unhide HNk
          case measure => simp [intOf]; omega
        rw [hkp] at p11
        have HG1 := hide (show one (takenB d) = 0 by simp [one, takenB, offB, e2])
        have HG2 := hide (show lostG d = d.n by simp [lostG, lostB, judB, tookB, e1, e4, hv, hkp])
        go_wp2
        go_roundw
        case rel =>
          refine ⟨k + 1, by omega, by go_num, hide ?_⟩
          have ec : sumI (fun d => one (takenB d)) (l.take (k + 1)) = Y1 := by rw [unhide HS1, unhide HG1, unhide HZ1]
          have ed : sumI lostG (l.take (k + 1)) = addI Y2 d.n := by rw [unhide HS2, unhide HG2]
          rw [ec, ed]
          exact (unhide HNk).set 4 _ (by omega) rfl
        case measure => simp [intOf]; omega
      have q4 : (d.op == 2) = false := by simpa using e4
      have HG1 := hide (show one (takenB d) = 0 by simp [one, takenB, offB, e2])
      have HG2 := hide (show lostG d = 0 by simp [lostG, lostB, dropB, judB, e3, e4])
      go_wp2
      go_roundw
      case rel =>
        refine ⟨k + 1, by omega, by go_num, hide ?_⟩
        have ec : sumI (fun d => one (takenB d)) (l.take (k + 1)) = Y1 := by rw [unhide HS1, unhide HG1, unhide HZ1]
        have ed : sumI lostG (l.take (k + 1)) = Y2 := by rw [unhide HS2, unhide HG2, unhide HZ2]
        rw [ec, ed]
        exact unhide HNk
      case measure => simp [intOf]; omega
    · have hki : ¬ (k : Int) < (l.length : Int) := by omega
      obtain rfl : k = l.length := by omega
      rw [List.take_length] at hns
      generalize hC1 : sumI (fun d => one (takenB d)) l = C1 at *
      generalize hC2 : sumI lostG l = C2 at *
      have HC1 := hide hC1
      have HC2 := hide hC2
      clear hC1 hC2
      go_wp2
      clear p30 hbl
      generalize hTT : x.tasks = m at *
      have HTT := hide hTT
      clear hTT
      go_loopw [6] (fun i wk => ∃ j : Nat, j ≤ m.length ∧ i = .int .i64 j ∧ Hid (NS w wk c0 ⟨C1, (x.out.length : Int), movN (x.queue.length : Int) (m.take j), 0, C2⟩)) (fun i _ => m.length - (intOf i).toNat)
      case atStart => exact ⟨0, Nat.zero_le _, rfl, hns⟩
      case round =>
        obtain ⟨j, hj, rfl, hns⟩ := hrel
        have hbl := (unhide hns).1
        have p29 := (unhide hns).2.1.2 29 _ (unhide HCT)
        by_cases hlt : j < m.length
        · have hji : (j : Int) < (m.length : Int) := by omega
          obtain ⟨b, o, cs, rfl, hbk, hSb, hcs, hin⟩ := (unhide HT).at j hlt
          have hin := hin.turn hbk (Below.turn hbl) (fun e => e)
          have HS1 := hide (movN_step (q := (x.queue.length : Int)) hlt)
          generalize m[j] = t at *
          generalize movN (x.queue.length : Int) (m.take j) = Y at *
          obtain ⟨a1, k1, z1, g1⟩ := taskR_c10 hcs
          have c10 : wr.cell? ⟨b, o + j * 12 + 10, none⟩ = some (.slice a1 t.hand.length k1) := hin 10 _ z1
          have lh := g1.len
          have n2 := (unhide hns).at 2 _ rfl
          have f2 := (unhide hns).free 2 (by omega)
          clear hin hcs z1 g1
          go_upto_region 15 with fail
          go_region
          all_goals go_wp2
          all_goals go_roundw
          case rel =>
            refine ⟨j + 1, by omega, by go_num, hide ?_⟩
            rw [unhide HS1]
            exact ((unhide hns).drew).set 2 _ (by omega) rfl
          case measure => simp [intOf]; omega
        · have hji : ¬ (j : Int) < (m.length : Int) := by omega
          obtain rfl : j = m.length := by omega
          rw [List.take_length] at hns
          generalize hC3 : movN (x.queue.length : Int) m = C3 at *
          have HC3 := hide hC3
          clear hC3
          go_wp2
          clear p29 hbl
          generalize hSS : x.st = r at *
          have HSS := hide hSS
          clear hSS
          go_loopw [7] (fun i wk => ∃ u : Nat, u ≤ r.length ∧ i = .int .i64 u ∧ Hid (NS w wk c0 ⟨C1, (x.out.length : Int), C3, heldN (r.take u), C2⟩)) (fun i _ => r.length - (intOf i).toNat)
          case atStart => exact ⟨0, Nat.zero_le _, rfl, hns⟩
          case round =>
            obtain ⟨u, hu, rfl, hns⟩ := hrel
            have hbl := (unhide hns).1
            have p14 := (unhide hns).2.1.2 14 _ (unhide HCS)
            by_cases hlt : u < r.length
            · have hui : (u : Int) < (r.length : Int) := by omega
              obtain ⟨b, o, cs, rfl, hbk, hSb, hcs, hin⟩ := (unhide HS).at u hlt
              have HSN := hide (show heldN (r.take (u + 1)) = (r[u].l).foldl addL (heldN (r.take u)) from flat_snoc (f := StripeD.l) (g := addL) (s := (0 : Int)) hlt)
              generalize r[u] = X at *
              generalize heldN (r.take u) = Y at *
              obtain ⟨a1, k1, z1, g1⟩ := stripeR_c1 hcs
              have HC1' := hide (hin 1 _ z1)
              have HG := hide g1
              have hl1 := g1.len
              clear z1 g1 hin hcs
              go_wp2
              go_loopw [8] (fun i wk => ∃ v : Nat, v ≤ X.l.length ∧ i = .int .i64 v ∧ Hid (NS w wk c0 ⟨C1, (x.out.length : Int), C3, (X.l.take v).foldl addL Y, C2⟩)) (fun i _ => X.l.length - (intOf i).toNat)
              case atStart => exact ⟨0, Nat.zero_le _, rfl, hns⟩
              case round =>
                obtain ⟨v, hv, rfl, hns2⟩ := hrel
                have hbl2 := (unhide hns2).1
                have q14 := (unhide hns2).2.1.2 14 _ (unhide HCS)
                have c1 := unhide HC1'
                rw [← hbl2.cell (p := ⟨b, o + u * 2 + 1, none⟩) hbk] at c1
                by_cases hlt2 : v < X.l.length
                · have hvi : (v : Int) < (X.l.length : Int) := by omega
                  obtain ⟨c, q, ds, rfl, hck, hSc, hds, hjn⟩ := ((unhide HG).keep trailR_keeps hbl2).at v hlt2
                  have HTS := hide (fold_snoc' (g := addL) (s := Y) hlt2)
                  generalize X.l[v] = t at *
                  generalize (X.l.take v).foldl addL Y = Z at *
                  obtain ⟨a2, k2, z2, g2⟩ := trailR_c3 hds
                  have c3 : wr.cell? ⟨c, q + v * 4 + 3, none⟩ = some (.slice a2 t.spans.length k2) := hjn 3 _ z2
                  have lh := g2.len
                  have n3 := (unhide hns2).at 3 _ rfl
                  have f3 := (unhide hns2).free 3 (by omega)
                  clear hjn hds z2 g2 p14
                  go_upto_region 22 with fail
                  go_region
                  all_goals go_wp2
                  all_goals go_roundw
                  case rel =>
                    refine ⟨v + 1, by omega, by go_num, hide ?_⟩
                    rw [unhide HTS]
                    exact ((unhide hns2).drew).set 3 _ (by omega) rfl
                  case measure => simp [intOf]; omega
                · have hvi : ¬ (v : Int) < (X.l.length : Int) := by omega
                  obtain rfl : v = X.l.length := by omega
                  rw [List.take_length] at hns2
                  go_wp2
                  go_roundw
                  case rel => exact ⟨u + 1, by omega, by go_num, by rw [unhide HSN]; exact hns2⟩
                  case measure => simp [intOf]; omega
            · have hui : ¬ (u : Int) < (r.length : Int) := by omega
              obtain rfl : u = r.length := by omega
              rw [List.take_length] at hns
              have HF := hide (show (⟨C1, (x.out.length : Int), C3, heldN r, C2⟩ : CountD) = countOf x by
                rw [← unhide HC1, ← unhide HC2, ← unhide HC3, ← unhide HSS, ← unhide HTT, ← unhide HDD, mov_all _ lQ]; rfl)
              rw [unhide HF] at hns
              have i1 := (unhide hns).2.2.1.inB
              have w1 := (unhide hns).2.2.2.2
              have hfin := putL_at (b := w.heap.size + 1) (o := 0) (countC (countOf x)) 0 w1 (by omega) (by simp [countC])
              have HFIN := hide hfin
              have HBF := hide (hbl.trans ((putL_turn (w.heap.size + 1) 0 (countC (countOf x)) 0 wr).belowFrom (B := w.heap.size) (by have := hbl.size; omega) (fun k hk => by subst hk; omega)))
              clear hfin
              go_wp2_with (first | (refine wpl_load rfl 42 _ rfl _ 0 rfl (countC (countOf x)) i1 rowCnt ?_) | (refine wpl_store_at rfl 42 _ _ rfl _ 0 (countC (countOf x)) rfl rfl w1 (countC_one _) rowCnt ?_))
              refine bodyPost_ret (v := .agg (countC (countOf x)).toArray) (res_row (t := 2) (cs := countC (countOf x)) rfl rfl (unhide HFIN) rowCnt) rfl ⟨rfl, unhide HBF⟩
end Go.Proofs.Ytciipadkdglhmaa
