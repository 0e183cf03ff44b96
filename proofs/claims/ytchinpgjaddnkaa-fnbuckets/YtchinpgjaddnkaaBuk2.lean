/-
  What draws buckets for a law: contracts of the specification's functions.
-/
import Derived.Test.YtchinpgjaddnkaaBuk1
import Derived.Test.YtchinpgjaddnkaaAbs2
import Derived.Deep.RegionHeld3
namespace Go.Proofs.Ytchinpgjaddnkaa
open Go.ChangeShapes Go.WideShapes Go.ChangeAt Go.RowKit
set_option linter.unusedVariables false
set_option maxRecDepth 100000

theorem res_row2b {P : Program} {fn : Func} {tmps : Array Value} {w : World} {t u : Tmp} {ty : TypeId} {b o : Nat} {cs : List Value} {v : Value} (hr : fn.results = #[.cell t ty, .tmp u]) (ht : tmps.getD t undef = .pointer (some ⟨b, o, none⟩)) (hu : tmps.getD u undef = v) (h : InB w b o cs) (hrow : RowT P ty cs.length) :
    (results fn tmps).run P w = .ok (.tuple #[.agg cs.toArray, v]) w := by
  obtain ⟨d, hu', hd, hi⟩ := hrow
  have hl := run_loadVar_mid (P := P) w b o ty cs d h hu' hd hi
  unfold results
  rw [hr]
  have ht' : tmps[t]?.getD undef = .pointer (some ⟨b, o, none⟩) := by simpa using ht
  have hu2 : tmps[u]?.getD undef = v := by simpa using hu
  simp [ht', hu2, asAddr, hl]
theorem wpo_store_atB {P : Program} {op : Oper} {a : Act} {w : World} {K : Act → World → Prop} {Q : Exit → Act → World → Prop} (ty : TypeId) (x y : Operand) (ho : op.op = .store ty x y)
    (b o : Nat) (cs : List Value) (hx : a.eval x = .pointer (some ⟨b, o, none⟩)) (hy : a.eval y = .agg cs.toArray) (hw : WrAt w b o cs.length) (h1 : One cs) (hi : RowT P ty cs.length)
    (h : K (a.put op.dst undef) (putL b o cs 0 w)) : Oper.wp P op a w K Q := by
  obtain ⟨d, hu, hd, hi⟩ := hi
  refine wp_store_mid ty x y ho b o cs.toArray hx hy (fun j hj => hw.2 j (by simpa using hj)) (by simpa using hi) (all_oneCell_toArray h1) ?_
  have e : ∀ (vs : List Value) (j : Nat) (w : World), w.setCells b (o + j) vs = putL b o vs j w := by
    intro vs
    induction vs with
    | nil => intro j w; rfl
    | cons v r ih => intro j w; exact ih (j + 1) _
  have e0 := e cs 0 w
  rw [Nat.add_zero] at e0
  simpa [e0] using h
set_option maxHeartbeats 1000000 in
theorem DrawSpend_any (p : Option Addr) (len cap : Nat) (w : World) (hl : len ≤ 1048576) (hy : Bytes w p len) :
    Calls Try.prog 15 #[.slice p len cap] w fun e w' => (∃ r u t a x : Int, e = .returned (.tuple #[.agg #[.int .i64 r, .int .i64 u, .int .i64 t, .int .i64 a], .int .i64 x])) ∧ Below w.heap.size w w' := by
  have bz := bnew w (.cells #[.int .i64 0, .int .i64 0, .int .i64 0, .int .i64 0] 29)
  have R0 := WrAt.new w #[.int .i64 0, .int .i64 0, .int .i64 0, .int .i64 0] 29 4 rfl
  have hyz := hy.keep bz
  have hz0 : (w.alloc (.cells #[.int .i64 0, .int .i64 0, .int .i64 0, .int .i64 0] 29)).heap.size = w.heap.size + 1 := by simp
  go_enter Try.func15, Try.ntmps15
  go_upto_region 1 with fail
  generalize World.alloc w _ = w0 at *
  go_wp2_with fail
  refine (l1New_any p len cap w0 hl hyz).mono ?_
  rintro e w1 ⟨b, rfl, hb, hc1, hw1⟩
  have Z1 := bthen bz hw1
  have R1 := R0.keep hw1
  have hlt1 := hc1.lt
  have hs1 := hw1.size
  clear hyz bz R0 hw1
  go_wp2_with fail
  refine (l7Any_any b w1 hc1).mono ?_
  rintro e w2 ⟨⟨r, u, t, a, rfl⟩, hc2, ht2⟩
  have Z2 := Z1.trans (ht2.below (by omega) (by omega))
  have R2 := R1.turn ht2.turn (by omega)
  have hlt2 := hc2.lt
  have hs2 := ht2.size
  clear hc1 ht2 Z1 R1
  go_wp2_with fail
  refine (l1Int_any b w2.heap.size [0, 1, 2, 3, -1, 1000] 6 _ (hc2.keep (bnew _ _)) (by omega) (by simp) (by simp) (by simp) ?_).mono ?_
  · exact cells_ints w2 3 [0, 1, 2, 3, -1, 1000]
  rintro e w3 ⟨⟨x, rfl, hx⟩, hc3, ht3⟩
  have Z3 := Z2.trans (((Below.refl w.heap.size w2).alloc (by omega) _).trans (ht3.below (by omega) (by simp; omega)))
  have R3 := (R2.keep (bnew _ _)).turn ht3.turn (by omega)
  clear hc2 hc3 ht3 hx Z2 R2
  have tt := putL_turn w.heap.size 0 [.int .i64 r, .int .i64 u, .int .i64 t, .int .i64 a] 0 w3
  have i3 := putL_at (b := w.heap.size) (o := 0) [.int .i64 r, .int .i64 u, .int .i64 t, .int .i64 a] 0 R3 (by omega) (by simp)
  have HF := hide (And.intro (Z3.trans (tt.belowFrom Z3.size (fun q e => by omega))) i3)
  clear tt i3 Z3
  go_wp2_with (first | (refine wpl_store_at rfl 29 _ _ rfl _ 0 [.int .i64 r, .int .i64 u, .int .i64 t, .int .i64 a] rfl rfl R3 (by intro v hv; simp only [List.mem_cons, List.not_mem_nil, or_false] at hv; rcases hv with rfl | rfl | rfl | rfl <;> rfl) rowIBucket ?_))
  exact bodyPost_ret (v := .tuple #[.agg #[.int .i64 r, .int .i64 u, .int .i64 t, .int .i64 a], .int .i64 x]) (res_row2b (t := 2) (u := 3) (cs := [.int .i64 r, .int .i64 u, .int .i64 t, .int .i64 a]) rfl rfl rfl (unhide HF).2 rowIBucket) rfl ⟨⟨r, u, t, a, x, rfl⟩, (unhide HF).1⟩
set_option maxHeartbeats 1000000 in
theorem DrawBucketOk_any (p : Option Addr) (len cap : Nat) (w : World) (hl : len ≤ 1048576) (hy : Bytes w p len) :
    Calls Try.prog 18 #[.slice p len cap] w fun e w' => (∃ r u t a : Int, e = .returned (.agg #[.int .i64 r, .int .i64 u, .int .i64 t, .int .i64 a])) ∧ Below w.heap.size w w' := by
  have bz := bnew w (.cells #[.int .i64 0, .int .i64 0, .int .i64 0, .int .i64 0] 29)
  have R0 := WrAt.new w #[.int .i64 0, .int .i64 0, .int .i64 0, .int .i64 0] 29 4 rfl
  have hyz := hy.keep bz
  have hz0 : (w.alloc (.cells #[.int .i64 0, .int .i64 0, .int .i64 0, .int .i64 0] 29)).heap.size = w.heap.size + 1 := by simp
  go_enter Try.func18, Try.ntmps18
  go_upto_region 1 with fail
  generalize World.alloc w _ = w0 at *
  go_wp2_with fail
  refine (l1New_any p len cap w0 hl hyz).mono ?_
  rintro e w1 ⟨b, rfl, hb, hc1, hw1⟩
  have Z1 := bthen bz hw1
  have R1 := R0.keep hw1
  have hlt1 := hc1.lt
  have hs1 := hw1.size
  clear hyz bz R0 hw1
  go_wp2_with fail
  refine (l7Any_any b w1 hc1).mono ?_
  rintro e w2 ⟨⟨r, u, t, a, rfl⟩, hc2, ht2⟩
  have Z2 := Z1.trans (ht2.below (by omega) (by omega))
  have R2 := R1.turn ht2.turn (by omega)
  have hlt2 := hc2.lt
  have hs2 := ht2.size
  clear hc1 ht2 Z1 R1
  have tt := putL_turn w.heap.size 0 [.int .i64 r, .int .i64 u, .int .i64 t, .int .i64 a] 0 w2
  have i3 := putL_at (b := w.heap.size) (o := 0) [.int .i64 r, .int .i64 u, .int .i64 t, .int .i64 a] 0 R2 (by omega) (by simp)
  have HF := hide (And.intro (Z2.trans (tt.belowFrom Z2.size (fun q e => by omega))) i3)
  clear tt i3 Z2
  clear hc2
  go_wp2_with (first | (refine wpl_store_at rfl 29 _ _ rfl _ 0 [.int .i64 r, .int .i64 u, .int .i64 t, .int .i64 a] rfl rfl R2 (by intro v hv; simp only [List.mem_cons, List.not_mem_nil, or_false] at hv; rcases hv with rfl | rfl | rfl | rfl <;> rfl) rowIBucket ?_))
  exact bodyPost_ret (v := .agg #[.int .i64 r, .int .i64 u, .int .i64 t, .int .i64 a]) (res_row (t := 2) (cs := [.int .i64 r, .int .i64 u, .int .i64 t, .int .i64 a]) rfl rfl (unhide HF).2 rowIBucket) rfl ⟨⟨r, u, t, a, rfl⟩, (unhide HF).1⟩
set_option maxHeartbeats 1000000 in
theorem DrawBucketNew_any (p : Option Addr) (len cap : Nat) (w : World) (hl : len ≤ 1048576) (hy : Bytes w p len) :
    Calls Try.prog 20 #[.slice p len cap] w fun e w' => (∃ x y : Int, e = .returned (.tuple #[.int .i64 x, .int .i64 y])) ∧ Below w.heap.size w w' := by
  go_enter Try.func20, Try.ntmps20
  go_wp2_with fail
  refine (l1New_any p len cap w hl hy).mono ?_
  rintro e w1 ⟨b, rfl, hb, hc1, hw1⟩
  have hs1 := hw1.size
  go_wp2_with fail
  refine (l1Raw_any b w1 hc1).mono ?_
  rintro e w2 ⟨⟨x, rfl, hx⟩, hc2, ht2⟩
  have hlt2 := hc2.lt
  have hs2 := ht2.size
  clear hc1
  go_wp2_with fail
  refine (l1Int_any b w2.heap.size [0, 3, 999, 1000, -1] 5 _ (hc2.keep (bnew _ _)) (by omega) (by simp) (by simp) (by simp) ?_).mono ?_
  · exact cells_ints w2 3 [0, 3, 999, 1000, -1]
  rintro e w3 ⟨⟨y, rfl, hy3⟩, hc3, ht3⟩
  have Z3 := (hw1.trans (ht2.below hb hs1)).trans (((Below.refl w.heap.size w2).alloc (by omega) (.cells #[.int .i64 0, .int .i64 3, .int .i64 999, .int .i64 1000, .int .i64 (-1)] 3)).trans (ht3.below hb (by simp; omega)))
  clear hc2 hc3 ht2 ht3 hy3 hw1
  go_wp2
  go_ret2
  exact ⟨⟨_, _, rfl⟩, Z3⟩
set_option maxHeartbeats 1000000 in
theorem DrawMostIn_any (p : Option Addr) (len cap : Nat) (w : World) (hl : len ≤ 1048576) (hy : Bytes w p len) :
    Calls Try.prog 19 #[.slice p len cap] w fun e w' => (∃ r u t a x : Int, e = .returned (.tuple #[.agg #[.int .i64 r, .int .i64 u, .int .i64 t, .int .i64 a], .int .i64 x])) ∧ Below w.heap.size w w' := by
  have bz := bnew w (.cells #[.int .i64 0, .int .i64 0, .int .i64 0, .int .i64 0] 29)
  have R0 := WrAt.new w #[.int .i64 0, .int .i64 0, .int .i64 0, .int .i64 0] 29 4 rfl
  have hyz := hy.keep bz
  have hz0 : (w.alloc (.cells #[.int .i64 0, .int .i64 0, .int .i64 0, .int .i64 0] 29)).heap.size = w.heap.size + 1 := by simp
  go_enter Try.func19, Try.ntmps19
  go_upto_region 1 with fail
  generalize World.alloc w _ = w0 at *
  go_wp2_with fail
  refine (l1New_any p len cap w0 hl hyz).mono ?_
  rintro e w1 ⟨b, rfl, hb, hc1, hw1⟩
  have Z1 := bthen bz hw1
  have R1 := R0.keep hw1
  have hlt1 := hc1.lt
  have hs1 := hw1.size
  clear hyz bz R0 hw1
  go_wp2_with fail
  refine (l7Any_any b w1 hc1).mono ?_
  rintro e w2 ⟨⟨r, u, t, a, rfl⟩, hc2, ht2⟩
  have Z2 := Z1.trans (ht2.below (by omega) (by omega))
  have R2 := R1.turn ht2.turn (by omega)
  have hlt2 := hc2.lt
  have hs2 := ht2.size
  clear hc1 ht2 Z1 R1
  have P3 := Held.new w2 [.int .i64 r, .int .i64 u, .int .i64 t, .int .i64 a] 29
  have R3 := R2.keep (bnew w2 (.cells #[.int .i64 r, .int .i64 u, .int .i64 t, .int .i64 a] 29))
  have hc3 := hc2.keep (bnew w2 (.cells #[.int .i64 r, .int .i64 u, .int .i64 t, .int .i64 a] 29))
  have Z3 := bthen Z2 (bnew w2 (.cells #[.int .i64 r, .int .i64 u, .int .i64 t, .int .i64 a] 29))
  have hsb : b < w2.heap.size := hlt2
  have hsw : w.heap.size < w2.heap.size := by omega
  clear hc2 R2 Z2
  go_upto_region 3 with (first | (refine wpl_store_new rfl _ _ _ rfl _ [.int .i64 r, .int .i64 u, .int .i64 t, .int .i64 a] rfl rfl ?_ (by intro v hv; simp only [List.mem_cons, List.not_mem_nil, or_false] at hv; rcases hv with rfl | rfl | rfl | rfl <;> rfl) rowIBucket ?_; rfl))
  generalize w2.heap.size = s at *
  generalize World.alloc w2 _ = w3 at *
  have bd : Below w3.heap.size w3 w3.drew := Below.drew (Below.refl _ _)
  have S0 : (fun w' => Below w.heap.size w w' ∧ Held w' s [.int .i64 r, .int .i64 u, .int .i64 t, .int .i64 a] ∧ WrAt w' w.heap.size 0 4) w3.drew := ⟨bthen Z3 bd, P3.keep bd, R3.keep bd⟩
  have hcS := hc3.keep bd
  clear bd hc3 Z3 P3 R3
  refine wp_region_held_drew (S := fun w' => Below w.heap.size w w' ∧ Held w' s [.int .i64 r, .int .i64 u, .int .i64 t, .int .i64 a] ∧ WrAt w' w.heap.size 0 4) (by kernel_rfl) S0 (fun hHeld => ?_)
  refine wpAnyH_take (i := 0) (oi := ?oo1) (v := .agg #[.int .i64 r, .int .i64 u, .int .i64 t, .int .i64 a]) ?hi1 (by kernel_rfl) (by kernel_rfl) (by kernel_rfl) ?hQ1 ?hy1 (by assumption) ?rest1
  case hi1 => (simp only [List.getElem?_toArray, List.getElem?_cons_zero]; rfl)
  case hQ1 => exact fun _ _ _ h => h
  case hy1 => exact yld_load (by rfl) 29 _ rfl s 0 rfl [.int .i64 r, .int .i64 u, .int .i64 t, .int .i64 a] (fun w' hS => hS.2.1.inB) rowIBucket
  try simp only [Act.put, List.setIfInBounds_toArray, List.set_cons_zero, List.set_cons_succ]
  refine wpAnyH_take (i := 1) (oi := ?oo2) (v := ?vv2) ?hi2 (by kernel_rfl) (by kernel_rfl) (by kernel_rfl) ?hQ2 ?hy2 (by assumption) ?rest2
  case hi2 => (simp only [List.getElem?_toArray, List.getElem?_cons_zero, List.getElem?_cons_succ]; rfl)
  case hQ2 => exact fun _ _ _ h => h
  case hy2 => exact Or.inl ⟨by rfl, by intro wS hSw; (try dsimp only at hSw); go_simp; try first | (with_reducible rfl) | (simp only [*]; done) | omega⟩
  try simp only [Act.put, List.setIfInBounds_toArray, List.set_cons_zero, List.set_cons_succ]
  refine wpAnyH_ready (rs := [2]) (by kernel_rfl) (by simp) ?_
  refine (AllReadyH.cons (o := ?bo3n2) ?bh3n2 (fun K hK => ?br3n2) AllReadyH.nil)
  case bh3n2 => (simp only [List.getElem?_toArray, List.getElem?_cons_zero, List.getElem?_cons_succ]; rfl)
  case br3n2 =>
    go_simp
    refine (l1Raw_any b w3.drew hcS).mono ?_
    rintro e w9 ⟨⟨x, rfl, hx⟩, hc9, ht9⟩
    have S9 : (fun w' => Below w.heap.size w w' ∧ Held w' s [.int .i64 r, .int .i64 u, .int .i64 t, .int .i64 a] ∧ WrAt w' w.heap.size 0 4) w9 := ⟨S0.1.trans (ht9.below (by omega) S0.1.size), S0.2.1.turn ht9.turn (by omega), S0.2.2.turn ht9.turn (by omega)⟩
    have tt := putL_turn w.heap.size 0 [.int .i64 r, .int .i64 u, .int .i64 t, .int .i64 a] 0 w9
    have i3 := putL_at (b := w.heap.size) (o := 0) [.int .i64 r, .int .i64 u, .int .i64 t, .int .i64 a] 0 S9.2.2 (by omega) (by simp)
    have S10 : (fun w' => Below w.heap.size w w' ∧ Held w' s [.int .i64 r, .int .i64 u, .int .i64 t, .int .i64 a] ∧ WrAt w' w.heap.size 0 4) (putL w.heap.size 0 [.int .i64 r, .int .i64 u, .int .i64 t, .int .i64 a] 0 w9) := ⟨S9.1.trans (tt.belowFrom S9.1.size (fun q e => by omega)), S9.2.1.turn tt (by omega), putL_wr _ _ S9.2.2⟩
    have HI := hide i3
    clear ht9 tt i3
    go_wp2_with fail
    refine hK.out _ _ (S9) (fun hHeld => ?_)
    clear hK
    refine wpAnyH_ready (rs := [3]) (by kernel_rfl) (by simp) ?_
    refine (AllReadyH.cons (o := ?bo4n3) ?bh4n3 (fun K hK => ?br4n3) AllReadyH.nil)
    case bh4n3 => (simp only [List.getElem?_toArray, List.getElem?_cons_zero, List.getElem?_cons_succ]; rfl)
    case br4n3 =>
      refine wpo_store_atB 29 _ _ rfl w.heap.size 0 [.int .i64 r, .int .i64 u, .int .i64 t, .int .i64 a] rfl rfl S9.2.2 (by intro v hv; simp only [List.mem_cons, List.not_mem_nil, or_false] at hv; rcases hv with rfl | rfl | rfl | rfl <;> rfl) rowIBucket ?_
      refine hK.out _ _ (S10) (fun hHeld => ?_)
      clear hK
      refine wpAnyH_take (i := 4) (oi := ?oo5) (v := ?vv5) ?hi5 (by kernel_rfl) (by kernel_rfl) (by kernel_rfl) ?hQ5 ?hy5 (by assumption) ?rest5
      case hi5 => (simp only [List.getElem?_toArray, List.getElem?_cons_zero, List.getElem?_cons_succ]; rfl)
      case hQ5 => exact fun _ _ _ h => h
      case hy5 => exact Or.inl ⟨by rfl, by intro wS hSw; (try dsimp only at hSw); go_simp; try first | (with_reducible rfl) | (simp only [*]; done) | omega⟩
      try simp only [Act.put, List.setIfInBounds_toArray, List.set_cons_zero, List.set_cons_succ]
      refine wpAnyH_done (by kernel_rfl) ?_ _
      have HF := hide (And.intro hHeld.1 HI)
      clear hHeld S0 S9 S10 hc9 HI hcS
      go_wp2
      exact bodyPost_ret (v := .tuple #[.agg #[.int .i64 r, .int .i64 u, .int .i64 t, .int .i64 a], .int .i64 (x)]) (res_row2b (t := 2) (u := 3) (cs := [.int .i64 r, .int .i64 u, .int .i64 t, .int .i64 a]) rfl rfl rfl (unhide (unhide HF).2) rowIBucket) rfl ⟨⟨r, u, t, a, _, rfl⟩, (unhide HF).1⟩
set_option maxHeartbeats 1000000 in
theorem DrawRefill_any (p : Option Addr) (len cap : Nat) (w : World) (hl : len ≤ 1048576) (hy : Bytes w p len) :
    Calls Try.prog 13 #[.slice p len cap] w fun e w' => (∃ r u t a x : Int, e = .returned (.tuple #[.agg #[.int .i64 r, .int .i64 u, .int .i64 t, .int .i64 a], .int .i64 x])) ∧ Below w.heap.size w w' := by
  have bz := bnew w (.cells #[.int .i64 0, .int .i64 0, .int .i64 0, .int .i64 0] 29)
  have R0 := WrAt.new w #[.int .i64 0, .int .i64 0, .int .i64 0, .int .i64 0] 29 4 rfl
  have hyz := hy.keep bz
  have hz0 : (w.alloc (.cells #[.int .i64 0, .int .i64 0, .int .i64 0, .int .i64 0] 29)).heap.size = w.heap.size + 1 := by simp
  go_enter Try.func13, Try.ntmps13
  go_upto_region 1 with fail
  generalize World.alloc w _ = w0 at *
  go_wp2_with fail
  refine (l1New_any p len cap w0 hl hyz).mono ?_
  rintro e w1 ⟨b, rfl, hb, hc1, hw1⟩
  have Z1 := bthen bz hw1
  have R1 := R0.keep hw1
  have hlt1 := hc1.lt
  have hs1 := hw1.size
  clear hyz bz R0 hw1
  go_wp2_with fail
  refine (l7Any_any b w1 hc1).mono ?_
  rintro e w2 ⟨⟨r, u, t, a, rfl⟩, hc2, ht2⟩
  have Z2 := Z1.trans (ht2.below (by omega) (by omega))
  have R2 := R1.turn ht2.turn (by omega)
  have hlt2 := hc2.lt
  have hs2 := ht2.size
  clear hc1 ht2 Z1 R1
  have P3 := Held.new w2 [.int .i64 r, .int .i64 u, .int .i64 t, .int .i64 a] 29
  have R3 := R2.keep (bnew w2 (.cells #[.int .i64 r, .int .i64 u, .int .i64 t, .int .i64 a] 29))
  have hc3 := hc2.keep (bnew w2 (.cells #[.int .i64 r, .int .i64 u, .int .i64 t, .int .i64 a] 29))
  have Z3 := bthen Z2 (bnew w2 (.cells #[.int .i64 r, .int .i64 u, .int .i64 t, .int .i64 a] 29))
  have hsb : b < w2.heap.size := hlt2
  have hsw : w.heap.size < w2.heap.size := by omega
  clear hc2 R2 Z2
  go_upto_region 3 with (first | (refine wpl_store_new rfl _ _ _ rfl _ [.int .i64 r, .int .i64 u, .int .i64 t, .int .i64 a] rfl rfl ?_ (by intro v hv; simp only [List.mem_cons, List.not_mem_nil, or_false] at hv; rcases hv with rfl | rfl | rfl | rfl <;> rfl) rowIBucket ?_; rfl))
  generalize w2.heap.size = s at *
  generalize World.alloc w2 _ = w3 at *
  have hlt3 := hc3.lt
  have hs3 := P3.1
  go_wp2_with fail
  refine (l1Once_any b 2 (by omega) w3 hc3).mono ?_
  rintro e w4 ⟨⟨y, rfl⟩, hc4, ht4⟩
  have Z4 := Z3.trans (ht4.below (by omega) (by omega))
  have P4 := P3.turn ht4.turn (by omega)
  have R4 := R3.turn ht4.turn (by omega)
  clear hc3 ht4 Z3 P3 R3
  cases y with
  | true =>
    go_upto_region 4 with fail
    have bd : Below w4.heap.size w4 w4.drew := Below.drew (Below.refl _ _)
    have S0 : (fun w' => Below w.heap.size w w' ∧ Held w' s [.int .i64 r, .int .i64 u, .int .i64 t, .int .i64 a] ∧ WrAt w' w.heap.size 0 4) w4.drew := ⟨bthen Z4 bd, P4.keep bd, R4.keep bd⟩
    have hcS := hc4.keep bd
    clear bd hc4 Z4 P4 R4
    refine wp_region_held_drew (S := fun w' => Below w.heap.size w w' ∧ Held w' s [.int .i64 r, .int .i64 u, .int .i64 t, .int .i64 a] ∧ WrAt w' w.heap.size 0 4) (by kernel_rfl) S0 (fun hHeld => ?_)
    refine wpAnyH_take (i := 0) (oi := ?oo6) (v := .agg #[.int .i64 r, .int .i64 u, .int .i64 t, .int .i64 a]) ?hi6 (by kernel_rfl) (by kernel_rfl) (by kernel_rfl) ?hQ6 ?hy6 (by assumption) ?rest6
    case hi6 => (simp only [List.getElem?_toArray, List.getElem?_cons_zero]; rfl)
    case hQ6 => exact fun _ _ _ h => h
    case hy6 => exact yld_load (by rfl) 29 _ rfl s 0 rfl [.int .i64 r, .int .i64 u, .int .i64 t, .int .i64 a] (fun w' hS => hS.2.1.inB) rowIBucket
    try simp only [Act.put, List.setIfInBounds_toArray, List.set_cons_zero, List.set_cons_succ]
    refine wpAnyH_take (i := 1) (oi := ?oo7) (v := ?vv7) ?hi7 (by kernel_rfl) (by kernel_rfl) (by kernel_rfl) ?hQ7 ?hy7 (by assumption) ?rest7
    case hi7 => (simp only [List.getElem?_toArray, List.getElem?_cons_zero, List.getElem?_cons_succ]; rfl)
    case hQ7 => exact fun _ _ _ h => h
    case hy7 => exact Or.inl ⟨by rfl, by intro wS hSw; (try dsimp only at hSw); go_simp; try first | (with_reducible rfl) | (simp only [*]; done) | omega⟩
    try simp only [Act.put, List.setIfInBounds_toArray, List.set_cons_zero, List.set_cons_succ]
    refine wpAnyH_ready (rs := [2]) (by kernel_rfl) (by simp) ?_
    refine (AllReadyH.cons (o := ?bo8n2) ?bh8n2 (fun K hK => ?br8n2) AllReadyH.nil)
    case bh8n2 => (simp only [List.getElem?_toArray, List.getElem?_cons_zero, List.getElem?_cons_succ]; rfl)
    case br8n2 =>
      go_simp
      refine (l1Raw_any b w4.drew hcS).mono ?_
      rintro e w9 ⟨⟨x, rfl, hx⟩, hc9, ht9⟩
      have S9 : (fun w' => Below w.heap.size w w' ∧ Held w' s [.int .i64 r, .int .i64 u, .int .i64 t, .int .i64 a] ∧ WrAt w' w.heap.size 0 4) w9 := ⟨S0.1.trans (ht9.below (by omega) S0.1.size), S0.2.1.turn ht9.turn (by omega), S0.2.2.turn ht9.turn (by omega)⟩
      have tt := putL_turn w.heap.size 0 [.int .i64 r, .int .i64 u, .int .i64 t, .int .i64 a] 0 w9
      have i3 := putL_at (b := w.heap.size) (o := 0) [.int .i64 r, .int .i64 u, .int .i64 t, .int .i64 a] 0 S9.2.2 (by omega) (by simp)
      have S10 : (fun w' => Below w.heap.size w w' ∧ Held w' s [.int .i64 r, .int .i64 u, .int .i64 t, .int .i64 a] ∧ WrAt w' w.heap.size 0 4) (putL w.heap.size 0 [.int .i64 r, .int .i64 u, .int .i64 t, .int .i64 a] 0 w9) := ⟨S9.1.trans (tt.belowFrom S9.1.size (fun q e => by omega)), S9.2.1.turn tt (by omega), putL_wr _ _ S9.2.2⟩
      have HI := hide i3
      clear ht9 tt i3
      go_wp2_with fail
      refine hK.out _ _ (S9) (fun hHeld => ?_)
      clear hK
      refine wpAnyH_ready (rs := [3]) (by kernel_rfl) (by simp) ?_
      refine (AllReadyH.cons (o := ?bo9n3) ?bh9n3 (fun K hK => ?br9n3) AllReadyH.nil)
      case bh9n3 => (simp only [List.getElem?_toArray, List.getElem?_cons_zero, List.getElem?_cons_succ]; rfl)
      case br9n3 =>
        refine wpo_store_atB 29 _ _ rfl w.heap.size 0 [.int .i64 r, .int .i64 u, .int .i64 t, .int .i64 a] rfl rfl S9.2.2 (by intro v hv; simp only [List.mem_cons, List.not_mem_nil, or_false] at hv; rcases hv with rfl | rfl | rfl | rfl <;> rfl) rowIBucket ?_
        refine hK.out _ _ (S10) (fun hHeld => ?_)
        clear hK
        refine wpAnyH_take (i := 4) (oi := ?oo10) (v := ?vv10) ?hi10 (by kernel_rfl) (by kernel_rfl) (by kernel_rfl) ?hQ10 ?hy10 (by assumption) ?rest10
        case hi10 => (simp only [List.getElem?_toArray, List.getElem?_cons_zero, List.getElem?_cons_succ]; rfl)
        case hQ10 => exact fun _ _ _ h => h
        case hy10 => exact Or.inl ⟨by rfl, by intro wS hSw; (try dsimp only at hSw); go_simp; try first | (with_reducible rfl) | (simp only [*]; done) | omega⟩
        try simp only [Act.put, List.setIfInBounds_toArray, List.set_cons_zero, List.set_cons_succ]
        refine wpAnyH_done (by kernel_rfl) ?_ _
        have HF := hide (And.intro hHeld.1 HI)
        clear hHeld S0 S9 S10 hc9 HI hcS
        go_wp2
        exact bodyPost_ret (v := .tuple #[.agg #[.int .i64 r, .int .i64 u, .int .i64 t, .int .i64 a], .int .i64 (x)]) (res_row2b (t := 2) (u := 3) (cs := [.int .i64 r, .int .i64 u, .int .i64 t, .int .i64 a]) rfl rfl rfl (unhide (unhide HF).2) rowIBucket) rfl ⟨⟨r, u, t, a, _, rfl⟩, (unhide HF).1⟩

  | false =>
    go_upto_region 5 with fail
    have bd : Below w4.heap.size w4 w4.drew := Below.drew (Below.refl _ _)
    have S0 : (fun w' => Below w.heap.size w w' ∧ Held w' s [.int .i64 r, .int .i64 u, .int .i64 t, .int .i64 a] ∧ WrAt w' w.heap.size 0 4) w4.drew := ⟨bthen Z4 bd, P4.keep bd, R4.keep bd⟩
    have hcS := hc4.keep bd
    clear bd hc4 Z4 P4 R4
    refine wp_region_held_drew (S := fun w' => Below w.heap.size w w' ∧ Held w' s [.int .i64 r, .int .i64 u, .int .i64 t, .int .i64 a] ∧ WrAt w' w.heap.size 0 4) (by kernel_rfl) S0 (fun hHeld => ?_)
    refine wpAnyH_take (i := 0) (oi := ?oo11) (v := .agg #[.int .i64 r, .int .i64 u, .int .i64 t, .int .i64 a]) ?hi11 (by kernel_rfl) (by kernel_rfl) (by kernel_rfl) ?hQ11 ?hy11 (by assumption) ?rest11
    case hi11 => (simp only [List.getElem?_toArray, List.getElem?_cons_zero]; rfl)
    case hQ11 => exact fun _ _ _ h => h
    case hy11 => exact yld_load (by rfl) 29 _ rfl s 0 rfl [.int .i64 r, .int .i64 u, .int .i64 t, .int .i64 a] (fun w' hS => hS.2.1.inB) rowIBucket
    try simp only [Act.put, List.setIfInBounds_toArray, List.set_cons_zero, List.set_cons_succ]
    refine wpAnyH_take (i := 1) (oi := ?oo12) (v := ?vv12) ?hi12 (by kernel_rfl) (by kernel_rfl) (by kernel_rfl) ?hQ12 ?hy12 (by assumption) ?rest12
    case hi12 => (simp only [List.getElem?_toArray, List.getElem?_cons_zero, List.getElem?_cons_succ]; rfl)
    case hQ12 => exact fun _ _ _ h => h
    case hy12 => exact Or.inl ⟨by rfl, by intro wS hSw; (try dsimp only at hSw); go_simp; try first | (with_reducible rfl) | (simp only [*]; done) | omega⟩
    try simp only [Act.put, List.setIfInBounds_toArray, List.set_cons_zero, List.set_cons_succ]
    refine wpAnyH_take (i := 2) (oi := ?oo13) (v := .int .i64 a) ?hi13 (by kernel_rfl) (by kernel_rfl) (by kernel_rfl) ?hQ13 ?hy13 (by assumption) ?rest13
    case hi13 => (simp only [List.getElem?_toArray, List.getElem?_cons_zero, List.getElem?_cons_succ]; rfl)
    case hQ13 => exact fun _ _ _ h => h
    case hy13 => exact yld_cell (by rfl) 3 _ rfl s 3 rfl (.int .i64 a) (fun w' hS => hS.2.1.2 3 _ rfl) plainInt
    try simp only [Act.put, List.setIfInBounds_toArray, List.set_cons_zero, List.set_cons_succ]
    refine wpAnyH_take (i := 3) (oi := ?oo14) (v := ?vv14) ?hi14 (by kernel_rfl) (by kernel_rfl) (by kernel_rfl) ?hQ14 ?hy14 (by assumption) ?rest14
    case hi14 => (simp only [List.getElem?_toArray, List.getElem?_cons_zero, List.getElem?_cons_succ]; rfl)
    case hQ14 => exact fun _ _ _ h => h
    case hy14 => exact Or.inl ⟨by rfl, by intro wS hSw; (try dsimp only at hSw); go_simp; try first | (with_reducible rfl) | (simp only [*]; done) | omega⟩
    try simp only [Act.put, List.setIfInBounds_toArray, List.set_cons_zero, List.set_cons_succ]
    refine wpAnyH_take (i := 4) (oi := ?oo15) (v := ?vv15) ?hi15 (by kernel_rfl) (by kernel_rfl) (by kernel_rfl) ?hQ15 ?hy15 (by assumption) ?rest15
    case hi15 => (simp only [List.getElem?_toArray, List.getElem?_cons_zero, List.getElem?_cons_succ]; rfl)
    case hQ15 => exact fun _ _ _ h => h
    case hy15 => exact Or.inl ⟨by rfl, by intro wS hSw; (try dsimp only at hSw); go_simp; try first | (with_reducible rfl) | (simp only [*]; done) | omega⟩
    try simp only [Act.put, List.setIfInBounds_toArray, List.set_cons_zero, List.set_cons_succ]
    refine wpAnyH_ready (rs := [5]) (by kernel_rfl) (by simp) ?_
    refine (AllReadyH.cons (o := ?bo16n5) ?bh16n5 (fun K hK => ?br16n5) AllReadyH.nil)
    case bh16n5 => (simp only [List.getElem?_toArray, List.getElem?_cons_zero, List.getElem?_cons_succ]; rfl)
    case br16n5 =>
      go_simp
      refine (l1Below_any b 6 (by omega) w4.drew hcS).mono ?_
      rintro e w9 ⟨⟨x, rfl, hx⟩, hc9, ht9⟩
      have S9 : (fun w' => Below w.heap.size w w' ∧ Held w' s [.int .i64 r, .int .i64 u, .int .i64 t, .int .i64 a] ∧ WrAt w' w.heap.size 0 4) w9 := ⟨S0.1.trans (ht9.below (by omega) S0.1.size), S0.2.1.turn ht9.turn (by omega), S0.2.2.turn ht9.turn (by omega)⟩
      have tt := putL_turn w.heap.size 0 [.int .i64 r, .int .i64 u, .int .i64 t, .int .i64 a] 0 w9
      have i3 := putL_at (b := w.heap.size) (o := 0) [.int .i64 r, .int .i64 u, .int .i64 t, .int .i64 a] 0 S9.2.2 (by omega) (by simp)
      have S10 : (fun w' => Below w.heap.size w w' ∧ Held w' s [.int .i64 r, .int .i64 u, .int .i64 t, .int .i64 a] ∧ WrAt w' w.heap.size 0 4) (putL w.heap.size 0 [.int .i64 r, .int .i64 u, .int .i64 t, .int .i64 a] 0 w9) := ⟨S9.1.trans (tt.belowFrom S9.1.size (fun q e => by omega)), S9.2.1.turn tt (by omega), putL_wr _ _ S9.2.2⟩
      have HI := hide i3
      clear ht9 tt i3
      go_wp2_with fail
      refine hK.out _ _ (S9) (fun hHeld => ?_)
      clear hK
      refine wpAnyH_take (i := 6) (oi := ?oo17) (v := ?vv17) ?hi17 (by kernel_rfl) (by kernel_rfl) (by kernel_rfl) ?hQ17 ?hy17 (by assumption) ?rest17
      case hi17 => (simp only [List.getElem?_toArray, List.getElem?_cons_zero, List.getElem?_cons_succ]; rfl)
      case hQ17 => exact fun _ _ _ h => h
      case hy17 => exact Or.inl ⟨by rfl, by intro wS hSw; (try dsimp only at hSw); go_simp; try first | (with_reducible rfl) | (simp only [*]; done) | omega⟩
      try simp only [Act.put, List.setIfInBounds_toArray, List.set_cons_zero, List.set_cons_succ]
      refine wpAnyH_take (i := 7) (oi := ?oo18) (v := ?vv18) ?hi18 (by kernel_rfl) (by kernel_rfl) (by kernel_rfl) ?hQ18 ?hy18 (by assumption) ?rest18
      case hi18 => (simp only [List.getElem?_toArray, List.getElem?_cons_zero, List.getElem?_cons_succ]; rfl)
      case hQ18 => exact fun _ _ _ h => h
      case hy18 => exact Or.inl ⟨by rfl, by intro wS hSw; (try dsimp only at hSw); go_simp; try first | (with_reducible rfl) | (simp only [*]; done) | omega⟩
      try simp only [Act.put, List.setIfInBounds_toArray, List.set_cons_zero, List.set_cons_succ]
      refine wpAnyH_ready (rs := [8]) (by kernel_rfl) (by simp) ?_
      refine (AllReadyH.cons (o := ?bo19n8) ?bh19n8 (fun K hK => ?br19n8) AllReadyH.nil)
      case bh19n8 => (simp only [List.getElem?_toArray, List.getElem?_cons_zero, List.getElem?_cons_succ]; rfl)
      case br19n8 =>
        refine wpo_store_atB 29 _ _ rfl w.heap.size 0 [.int .i64 r, .int .i64 u, .int .i64 t, .int .i64 a] rfl rfl S9.2.2 (by intro v hv; simp only [List.mem_cons, List.not_mem_nil, or_false] at hv; rcases hv with rfl | rfl | rfl | rfl <;> rfl) rowIBucket ?_
        refine hK.out _ _ (S10) (fun hHeld => ?_)
        clear hK
        refine wpAnyH_take (i := 9) (oi := ?oo20) (v := ?vv20) ?hi20 (by kernel_rfl) (by kernel_rfl) (by kernel_rfl) ?hQ20 ?hy20 (by assumption) ?rest20
        case hi20 => (simp only [List.getElem?_toArray, List.getElem?_cons_zero, List.getElem?_cons_succ]; rfl)
        case hQ20 => exact fun _ _ _ h => h
        case hy20 => exact Or.inl ⟨by rfl, by intro wS hSw; (try dsimp only at hSw); go_simp; try first | (with_reducible rfl) | (simp only [*]; done) | omega⟩
        try simp only [Act.put, List.setIfInBounds_toArray, List.set_cons_zero, List.set_cons_succ]
        refine wpAnyH_done (by kernel_rfl) ?_ _
        have HF := hide (And.intro hHeld.1 HI)
        clear hHeld S0 S9 S10 hc9 HI hcS
        go_wp2
        exact bodyPost_ret (v := .tuple #[.agg #[.int .i64 r, .int .i64 u, .int .i64 t, .int .i64 a], .int .i64 (_)]) (res_row2b (t := 2) (u := 3) (cs := [.int .i64 r, .int .i64 u, .int .i64 t, .int .i64 a]) rfl rfl rfl (unhide (unhide HF).2) rowIBucket) rfl ⟨⟨r, u, t, a, _, rfl⟩, (unhide HF).1⟩
end Go.Proofs.Ytchinpgjaddnkaa
