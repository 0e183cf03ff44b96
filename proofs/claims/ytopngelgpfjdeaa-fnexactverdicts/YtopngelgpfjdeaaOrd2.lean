/-
  What the program's Order is made of: what is told of a place, how two are compared, the sort of a row of places.
-/
import Derived.Test.YtopngelgpfjdeaaOrd1
import Derived.Shelf.Abstract
namespace Go.Proofs.Ytopngelgpfjdeaa
open Go.ChangeShapes Go.WideShapes Go.ChangeAt Go.RowKit Go.Sort Go.Shelf Go.Lib
set_option linter.unusedVariables false
set_option maxRecDepth 100000

theorem sw_cell (enc : Nat → Value) (w : World) (g m : Nat) (d : Array Nat) (os : Array Obj) (c : Nat) (h1 : c ≠ g) (h2 : c < w.heap.size) : (sortWorld enc w g 0 m d os).cell? ⟨c, 0, none⟩ = w.cell? ⟨c, 0, none⟩ := by
  refine World.cell?_of_block ?_
  show ((putRow enc (Sort.ahead w m) g 0 d).heap ++ os)[c]? = _
  have hs : (putRow enc (Sort.ahead w m) g 0 d).heap.size = w.heap.size := size_putRow enc (Sort.ahead w m) g 0 d
  rw [Array.getElem?_append_left (by rw [hs]; omega)]
  show (w.heap.modify g _)[c]? = _
  rw [Array.getElem?_modify, if_neg (by omega)]
def cmpI (a b : Int) : Int := if a < b then -1 else if b < a then 1 else 0
theorem cmpI_neg (a b : Int) : (cmpI a b < 0) = (a < b) := by
  unfold cmpI
  apply propext
  split
  · simp [*]
  · split <;> omega
theorem implNaN (a : Int) (w : World) : Calls Try.prog 153 #[.int .i64 a] w fun e w' => e = .returned (.bool false) ∧ w' = w := by
  go_enter Try.func153, Try.ntmps153
  go_wp2
  go_ret
  exact ⟨by simp, rfl⟩
set_option maxHeartbeats 1000000 in
theorem implCmp (a b : Int) (w : World) : Calls Try.prog 132 #[.int .i64 a, .int .i64 b] w fun e w' => e = .returned (.int .i64 (cmpI a b)) ∧ w' = w := by
  have hn := implNaN
  by_cases h1 : a < b
  · have HF := hide (show cmpI a b = -1 by simp [cmpI, h1])
    go_enter Try.func132, Try.ntmps132
    go_wp2_with fail
    refine (hn a _).mono ?_
    rintro e w1 ⟨rfl, hw⟩
    obtain rfl := hw.symm
    go_wp2_with fail
    refine (hn b _).mono ?_
    rintro e w2 ⟨rfl, hw⟩
    obtain rfl := hw.symm
    clear hn
    go_wp2
    go_ret
    exact ⟨by rw [unhide HF]; rfl, rfl⟩
  · by_cases h2 : b < a
    · have HF := hide (show cmpI a b = 1 by simp [cmpI, h1, h2])
      go_enter Try.func132, Try.ntmps132
      go_wp2_with fail
      refine (hn a _).mono ?_
      rintro e w1 ⟨rfl, hw⟩
      obtain rfl := hw.symm
      go_wp2_with fail
      refine (hn b _).mono ?_
      rintro e w2 ⟨rfl, hw⟩
      obtain rfl := hw.symm
      clear hn
      go_wp2
      go_ret
      exact ⟨by rw [unhide HF]; rfl, rfl⟩
    · have HF := hide (show cmpI a b = 0 by simp [cmpI, h1, h2])
      go_enter Try.func132, Try.ntmps132
      go_wp2_with fail
      refine (hn a _).mono ?_
      rintro e w1 ⟨rfl, hw⟩
      obtain rfl := hw.symm
      go_wp2_with fail
      refine (hn b _).mono ?_
      rintro e w2 ⟨rfl, hw⟩
      obtain rfl := hw.symm
      clear hn
      go_wp2
      go_ret
      exact ⟨by rw [unhide HF]; rfl, rfl⟩
set_option maxHeartbeats 1000000 in
theorem implLinAt (l : List DeedD) (S0 : Nat → Prop) (v0 : Value) (w W : World) (h0 : LAt 20 deedR w S0 v0 l) (hb : Below w.heap.size w W) (bl i : Nat) (hc : W.cell? ⟨bl, 0, none⟩ = some v0) (hi : i < l.length) :
    Calls Try.prog 85 #[.int .i64 i, .pointer (some ⟨bl, 0, none⟩)] W fun e w' => e = .returned (.int .i64 (linA l i)) ∧ w' = W := by
  obtain ⟨a, cap, rfl⟩ := h0.form
  obtain ⟨b, o, cs, rfl, hbk, hSb, hcs, hin⟩ := h0.at i hi
  have p18 := lin_cell h0 hb hi
  have hiz : (i : Int) < (l.length : Int) := by omega
  generalize linA l i = Z at *
  clear hin hcs h0 hSb
  go_enter Try.func85, Try.ntmps85
  go_wp2
  go_ret
  exact ⟨rfl, rfl⟩
set_option maxHeartbeats 2000000 in
theorem implCmpAt (l : List DeedD) (S0 : Nat → Prop) (v0 : Value) (w W : World) (h0 : LAt 20 deedR w S0 v0 l) (hb : Below w.heap.size w W) (hwW : w.heap.size ≤ W.heap.size) (bl bf x y : Nat) (hc : W.cell? ⟨bl, 0, none⟩ = some v0) (hbl : bl < W.heap.size)
    (hf : W.cell? ⟨bf, 0, none⟩ = some (.func (.func 85) #[] #[.pointer (some ⟨bl, 0, none⟩)])) (hbf : bf < W.heap.size) (hx : x < l.length) (hy : y < l.length) :
    Calls Try.prog 131 #[.int .i64 x, .int .i64 y, .pointer (some ⟨bf, 0, none⟩)] W fun e w' => e = .returned (.int .i64 (cmpI (linA l x) (linA l y))) ∧ ∃ q os', w' = grow (W.drewN q) os' := by
  have c1 : ∀ i, i < l.length → ∀ n os, Calls Try.prog 85 #[.int .i64 i, .pointer (some ⟨bl, 0, none⟩)] (grow (W.drewN n) os) fun e w' => e = .returned (.int .i64 (linA l i)) ∧ ∃ q os', w' = grow ((grow (W.drewN n) os).drewN q) os' := fun i hi n os =>
    (implLinAt l S0 v0 w _ h0 (below_grown2 hb hwW n os) bl i (cell_grown (a := ⟨bl, 0, none⟩) hbl hc n os) hi).mono fun _ _ ⟨he, hw⟩ => ⟨he, 0, #[], by rw [hw, grow_empty]; rfl⟩
  have cx := c1 x hx
  have cy := c1 y hy
  have cc : ∀ n os, Calls Try.prog 132 #[.int .i64 (linA l x), .int .i64 (linA l y)] (grow (W.drewN n) os) fun e w' => e = .returned (.int .i64 (cmpI (linA l x) (linA l y))) ∧ ∃ q os', w' = grow ((grow (W.drewN n) os).drewN q) os' := fun n os =>
    (implCmp _ _ _).mono fun _ _ ⟨he, hw⟩ => ⟨he, 0, #[], by rw [hw, grow_empty]; rfl⟩
  have e1 : ∀ args w, (callFunc 85 args).run Try.prog w = .ok (.enter 85 args) w := enters_of Try.func85 (by kernel_rfl) rfl
  have e2 : ∀ args w, (callFunc 132 args).run Try.prog w = .ok (.enter 132 args) w := enters_of Try.func132 (by kernel_rfl) rfl
  have f1 := cell_grown (a := ⟨bf, 0, none⟩) hbf hf
  have mixed : Try.prog.follows .mixedOrders = true := by kernel_rfl
  generalize linA l x = X at *
  generalize linA l y = Y at *
  generalize cmpI X Y = R at *
  clear h0 hb c1 hc hf hx hy
  go_enter Try.func131, Try.ntmps131
  go_wp2_with fail
  go_quiet_grown (first | (go_at_fn 85; refine Calls.grown_of (cx _ _)) | (go_at_fn 85; refine Calls.grown_of (cy _ _)) | (go_at_fn 132; refine Calls.grown_of (cc _ _)))
  clear cx cy cc f1
  go_wp2
  go_ret
  exact ⟨rfl, nq, osq, rfl⟩
set_option maxHeartbeats 2000000 in
theorem stIns0 (p : Option Addr) (cap g : Nat) (cb : Array Value) (w : World) : Calls Try.prog 170 #[.slice p 0 cap, .int .i64 0, .int .i64 0, .func (.func g) #[] cb] w fun e w' => e = .returned (.tuple #[]) ∧ w' = w := by
  go_enter Try.func170, Try.ntmps170
  go_wp2
  refine wp_loop_rounds 1 ?_
  rw [rounds_succ]
  go_wp2
  go_end0
  exact ⟨rfl, rfl⟩
set_option maxHeartbeats 2000000 in
theorem stStable0 (p : Option Addr) (cap g : Nat) (cb : Array Value) (w : World) : Calls Try.prog 152 #[.slice p 0 cap, .int .i64 0, .func (.func g) #[] cb] w fun e w' => e = .returned (.tuple #[]) ∧ w' = w := by
  go_enter Try.func152, Try.ntmps152
  go_wp2
  refine wp_loop_rounds 1 ?_
  rw [rounds_succ]
  go_wp2_with fail
  refine (stIns0 p cap g cb _).mono ?_
  rintro e w1 ⟨rfl, hw⟩
  obtain rfl := hw.symm
  go_wp2
  refine wp_loop_rounds 1 ?_
  rw [rounds_succ]
  go_wp2
  go_end0
  exact ⟨rfl, rfl⟩
theorem stSort0 (p : Option Addr) (cap g : Nat) (cb : Array Value) (w : World) : Calls Try.prog 130 #[.slice p 0 cap, .func (.func g) #[] cb] w fun e w' => e = .returned (.tuple #[]) ∧ w' = w := by
  go_enter Try.func130, Try.ntmps130
  go_wp2_with fail
  refine (stStable0 p cap g cb _).mono ?_
  rintro e w1 ⟨rfl, hw⟩
  obtain rfl := hw.symm
  go_wp2
  go_end0
  exact ⟨rfl, rfl⟩
theorem hmf2 : ∀ (fn : Fn) (first cap : Array Value) (w : World), (Instr.makeFunc fn first cap).run Try.prog w = .ok (.func fn first cap) w := fun _ _ _ _ => rfl
theorem boxed2 (w : World) (v : Value) (t : TypeId) : (w.alloc (.cells #[v] t)).cell? ⟨w.heap.size, 0, none⟩ = some v := by simp [go_sem]
set_option maxHeartbeats 2000000 in
theorem implSortBy (l : List DeedD) (S0 : Nat → Prop) (v0 : Value) (w w1 : World) (h0 : LAt 20 deedR w S0 v0 l) (hb : Below w.heap.size w w1) (bl g cap base : Nat) (hbase : w.heap.size ≤ base) (hc : w1.cell? ⟨bl, 0, none⟩ = some v0) (hbl : bl < w1.heap.size) (hgb : g ≠ bl)
    (hr : w1.ownsRow base 3 1 (.slice (some ⟨g, 0, none⟩) (places l).length cap) (places l).length (cellsI2 (zOf (places l)))) (hll : l.length ≤ 1048576) :
    Calls Try.prog 84 #[.slice (some ⟨g, 0, none⟩) (places l).length cap, .func (.func 85) #[] #[.pointer (some ⟨bl, 0, none⟩)]] w1 fun e w' => e = .returned (.tuple #[]) ∧ w'.ownsRow base 3 1 (.slice (some ⟨g, 0, none⟩) (places l).length cap) (places l).length (cellsI2 (zOf (ordL l))) ∧ Below w.heap.size w w' := by
  have hpl : (places l).length ≤ l.length := placesK_len l l.length
  have hgl := hr.lt g rfl
  have hbx := boxed2 w1 (.func (.func 85) #[] #[.pointer (some ⟨bl, 0, none⟩)]) 134
  have hbn := bnew w1 (.cells #[.func (.func 85) #[] #[.pointer (some ⟨bl, 0, none⟩)]] 134)
  have hsz : (w1.alloc (.cells #[.func (.func 85) #[] #[.pointer (some ⟨bl, 0, none⟩)]] 134)).heap.size = w1.heap.size + 1 := by simp
  have hc2 := hbn.cell (p := ⟨bl, 0, none⟩) hbl
  rw [hc] at hc2
  have hr2 := owns_below hr hbn
  have hb2 := bthen hb hbn
  generalize hw2 : w1.alloc (.cells #[.func (.func 85) #[] #[.pointer (some ⟨bl, 0, none⟩)]] 134) = w2 at *
  have hsort : Calls Try.prog 130 #[.slice (some ⟨g, 0, none⟩) (places l).length cap, .func (.func 131) #[] #[.pointer (some ⟨w1.heap.size, 0, none⟩)]] w2 fun e w' => e = .returned (.tuple #[]) ∧ w'.ownsRow base 3 1 (.slice (some ⟨g, 0, none⟩) (places l).length cap) (places l).length (cellsI2 (zOf (ordL l))) ∧ Below w.heap.size w w' := by
    by_cases hn : (places l).length = 0
    · have hz := stSort0 (some ⟨g, 0, none⟩) cap 131 #[.pointer (some ⟨w1.heap.size, 0, none⟩)] w2
      have ho : ordL l = [] := by
        have := (ordL_ord l).perm.length_eq
        show _ = _
        exact List.eq_nil_of_length_eq_zero (this.trans hn)
      have hp : places l = [] := List.eq_nil_of_length_eq_zero hn
      rw [hn]
      refine hz.mono ?_
      rintro e w' ⟨rfl, hw⟩
      obtain rfl := hw.symm
      rw [ho]
      rw [hp] at hr2
      exact ⟨rfl, hr2, hb2⟩
    · have hne : places l ≠ [] := fun h => hn (by rw [h]; rfl)
      have R := row_start hr2
      have hlt : ∀ j, atP (places l) j < l.length := fun j => placesK_lt (atP_mem hne j)
      have hs := stSort (fun j => linA l (atP (places l) j)) (encP (places l)) (fun x y => cmpI (linA l (atP (places l) x)) (linA l (atP (places l) y))) (fun x y => cmpI_neg _ _) 131 #[.pointer (some ⟨w1.heap.size, 0, none⟩)] g 0 cap (Array.range (places l).length) w2
        (enters_of Try.func131 (by kernel_rfl) rfl) (fun m os dk hdk x y => by
          have hbW : Below w.heap.size w (sortWorld (encP (places l)) w2 g 0 m dk os) := hb2.trans (SW.belowB (B := w.heap.size) ⟨m, os, rfl⟩ (by omega) R.hblk)
          have hsW : w2.heap.size ≤ (sortWorld (encP (places l)) w2 g 0 m dk os).heap.size := SW.le (w0 := w2) (blk := g) (off := 0) (dk := dk) ⟨m, os, rfl⟩
          have hcw : ∀ (c : Nat) (v : Value), c ≠ g → c < w2.heap.size → w2.cell? ⟨c, 0, none⟩ = some v → (sortWorld (encP (places l)) w2 g 0 m dk os).cell? ⟨c, 0, none⟩ = some v := fun c v h1 h2 h3 => by
            rw [sw_cell _ _ _ _ _ _ _ h1 h2]; exact h3
          exact implCmpAt l S0 v0 w _ h0 hbW (Nat.le_trans hb2.size hsW) bl w1.heap.size _ _ (hcw bl _ (Ne.symm hgb) (by omega) hc2) (by omega) (hcw w1.heap.size _ (by omega) (by omega) hbx) (by omega) (hlt x) (hlt y)) R
        (fun i hi => by rw [getElem!_pos _ i hi]; simp) (by rw [Array.size_range]; omega)
      rw [Array.size_range] at hs
      refine hs.mono ?_
      rintro e w' ⟨rfl, d1, h1, h2, hw⟩
      have hd : d1.size = (places l).length := by rw [h1.size (by rw [Array.size_range]; exact Nat.le_refl _), Array.size_range]
      have hre := row_end hr2 hw hd
      rw [sorted_ord h1 h2] at hre
      exact ⟨rfl, hre, hb2.trans (SW.belowB (B := w.heap.size) hw (by omega) R.hblk)⟩
  have hmf := hmf2
  have HS := hide hsort
  clear hsort hr hr2 hbx hb2 hc2 hbn hsz h0 hb hc
  go_enter Try.func84, Try.ntmps84
  go_upto_region 1 with fail
  generalize hW : World.alloc w1 _ = wz at *
  obtain rfl : wz = w2 := hw2
  clear hW
  go_wp2_with fail
  refine (unhide HS).mono ?_
  rintro e w' ⟨rfl, h1, h2⟩
  go_wp2
  go_end0
  exact ⟨rfl, h1, h2⟩
end Go.Proofs.Ytopngelgpfjdeaa
