/-
  TaskText and CountText of the program and of the specification.
-/
import Derived.Test.YtmlgpgejfnlfmaaDoorNumText
import Derived.Test.YtmlgpgejfnlfmaaDoorWTask
import Derived.Test.YtmlgpgejfnlfmaaDoorWCount
import Derived.Test.YtmlgpgejfnlfmaaDoorAbs2
import Derived.Laws.Concat
namespace Go.Proofs.YtmlgpgejfnlfmaaDoor
open Go.ChangeShapes Go.WideShapes Go.ChangeAt Go.RowKit
set_option linter.unusedVariables false
set_option maxRecDepth 100000

theorem dec_one2 {u : Nat} (h : u < 10) : (Lib.decDigits u).length = 1 := by rw [Lib.decDigits, dif_pos h]; rfl
theorem dec_len2 (k : Nat) : ∀ u, u < 10 ^ (k + 1) → (Lib.decDigits u).length ≤ k + 1 := by
  induction k with
  | zero => intro u h; rw [dec_one2 (by simpa using h)]; exact Nat.le_refl _
  | succ k ih =>
    intro u h
    by_cases h10 : u < 10
    · rw [dec_one2 h10]; omega
    · rw [Lib.decDigits, dif_neg h10]
      have := ih (u / 10) (by rw [Nat.pow_succ] at h; omega)
      simp
      omega
theorem cat_ok {P : Program} (w : World) (a b : ByteArray) (h : a.size + b.size ≤ 9223372036854775807) : (Op.stringOp .add a b).run P w = .ok (.string (a ++ b)) w := run_string_add_sum w a b h
def numX (n : Int) : ByteArray := ⟨(Lib.itoa n).toArray⟩
theorem numX_size (n : Int) (h : InI n) : (numX n).size ≤ 40 := by
  have e : (10 : Nat) ^ (18 + 1) = 10000000000000000000 := by decide
  have hn : n.natAbs < 10000000000000000000 := by have := h.1; have := h.2; omega
  have : (Lib.itoa n).length ≤ 21 := by
    unfold Lib.itoa
    split
    · have := dec_len2 18 n.natAbs (by rw [e]; omega)
      simp; omega
    · have := dec_len2 18 n.toNat (by rw [e]; omega)
      omega
  simp [numX, ByteArray.size]; omega
def taskT (x : TaskD) : ByteArray := if x.op = 0 then ⟨#[105, 100, 108, 101]⟩ else if x.op = 1 then ⟨#[111, 102, 102, 101, 114, 32]⟩ ++ numX x.pc else if x.op = 2 then ⟨#[106, 117, 100, 103, 101, 32]⟩ ++ numX x.pc else ⟨#[]⟩
set_option maxHeartbeats 2000000 in
theorem specTaskText (x : TaskD) (S0 : Nat → Prop) (c0 : List Value) (w : World) (h0 : taskR w S0 c0 x) (b0 : taskBulk x ≤ 1048576) (hi : InTask x) :
    Calls Tryd.prog 9 #[.agg c0.toArray] w fun e w' => e = .returned (.string (taskT x)) ∧ Below w.heap.size w w' := by
  have P0 := Held.new w c0 35
  have B0 := bnew w (.cells c0.toArray 35)
  have HR := hide h0
  have hz := numX_size x.pc hi.2.1
  have hp := hi.2.1
  clear h0 hi
  by_cases e0 : x.op = 0
  case pos =>
    have q : (x.op == 0) = true := by simpa using e0
    have HF := hide (show taskT x = ⟨#[105, 100, 108, 101]⟩ by simp [taskT, e0])
    clear e0
    go_enter Tryd.func9, Tryd.ntmps9
    go_upto_region 1 with fail
    generalize World.alloc w _ = w0 at *
    have p0 := P0.2 0 _ (taskR_c0 (unhide HR))
    go_wp2
    go_ret
    exact ⟨by rw [unhide HF]; rfl, B0⟩
  have q0 : (x.op == 0) = false := by simpa using e0
  by_cases e1 : x.op = 1
  case pos =>
    have q : (x.op == 1) = true := by simpa using e1
    have HF := hide (show taskT x = ⟨#[111, 102, 102, 101, 114, 32]⟩ ++ numX x.pc by simp [taskT, e1])
    clear e0 e1
    go_enter Tryd.func9, Tryd.ntmps9
    go_upto_region 1 with fail
    generalize World.alloc w _ = w0 at *
    have p0 := P0.2 0 _ (taskR_c0 (unhide HR))
    have p1 := P0.2 1 _ (taskR_c1 (unhide HR))
    go_wp2_with fail
    refine (specNumText x.pc hp.1 hp.2 _).mono ?_
    rintro e w1 ⟨rfl, hb1⟩
    change (numX x.pc).size ≤ 40 at hz
    rw [show (⟨(Lib.itoa x.pc).toArray⟩ : ByteArray) = numX x.pc from rfl]
    generalize numX x.pc = T at *
    have hs : (⟨#[111, 102, 102, 101, 114, 32]⟩ : ByteArray).size = 6 := rfl
    go_wp2
    go_ret
    exact ⟨by rw [unhide HF]; rfl, bthen B0 hb1⟩
  have q1 : (x.op == 1) = false := by simpa using e1
  by_cases e2 : x.op = 2
  case pos =>
    have q : (x.op == 2) = true := by simpa using e2
    have HF := hide (show taskT x = ⟨#[106, 117, 100, 103, 101, 32]⟩ ++ numX x.pc by simp [taskT, e2])
    clear e0 e1 e2
    go_enter Tryd.func9, Tryd.ntmps9
    go_upto_region 1 with fail
    generalize World.alloc w _ = w0 at *
    have p0 := P0.2 0 _ (taskR_c0 (unhide HR))
    have p1 := P0.2 1 _ (taskR_c1 (unhide HR))
    go_wp2_with fail
    refine (specNumText x.pc hp.1 hp.2 _).mono ?_
    rintro e w1 ⟨rfl, hb1⟩
    change (numX x.pc).size ≤ 40 at hz
    rw [show (⟨(Lib.itoa x.pc).toArray⟩ : ByteArray) = numX x.pc from rfl]
    generalize numX x.pc = T at *
    have hs : (⟨#[106, 117, 100, 103, 101, 32]⟩ : ByteArray).size = 6 := rfl
    go_wp2
    go_ret
    exact ⟨by rw [unhide HF]; rfl, bthen B0 hb1⟩
  have q2 : (x.op == 2) = false := by simpa using e2
  have HF := hide (show taskT x = ⟨#[]⟩ by simp [taskT, e0, e1, e2])
  clear e0 e1 e2
  go_enter Tryd.func9, Tryd.ntmps9
  go_upto_region 1 with fail
  generalize World.alloc w _ = w0 at *
  have p0 := P0.2 0 _ (taskR_c0 (unhide HR))
  go_wp2
  go_ret
  exact ⟨by rw [unhide HF]; rfl, B0⟩
set_option maxHeartbeats 2000000 in
theorem implTaskText (x : TaskD) (S0 : Nat → Prop) (c0 : List Value) (w : World) (h0 : taskR w S0 c0 x) (b0 : taskBulk x ≤ 1048576) (hi : InTask x) (htab : Lib.TabIs Tryd.prog w "internal/strconv.uint64pow10" .u64 Lib.pow10Tab) :
    Calls Tryd.prog 11 #[.agg c0.toArray] w fun e w' => e = .returned (.string (taskT x)) ∧ Below w.heap.size w w' := by
  have P0 := Held.new w c0 35
  have B0 := bnew w (.cells c0.toArray 35)
  have HR := hide h0
  have hz := numX_size x.pc hi.2.1
  have hp := hi.2.1
  clear h0 hi
  by_cases e0 : x.op = 0
  case pos =>
    have q : (x.op == 0) = true := by simpa using e0
    have HF := hide (show taskT x = ⟨#[105, 100, 108, 101]⟩ by simp [taskT, e0])
    clear e0
    go_enter Tryd.func11, Tryd.ntmps11
    go_upto_region 1 with fail
    generalize World.alloc w _ = w0 at *
    have p0 := P0.2 0 _ (taskR_c0 (unhide HR))
    go_wp2
    go_ret
    exact ⟨by rw [unhide HF]; rfl, B0⟩
  have q0 : (x.op == 0) = false := by simpa using e0
  by_cases e1 : x.op = 1
  case pos =>
    have q : (x.op == 1) = true := by simpa using e1
    have HF := hide (show taskT x = ⟨#[111, 102, 102, 101, 114, 32]⟩ ++ numX x.pc by simp [taskT, e1])
    clear e0 e1
    go_enter Tryd.func11, Tryd.ntmps11
    go_upto_region 1 with fail
    generalize World.alloc w _ = w0 at *
    have p0 := P0.2 0 _ (taskR_c0 (unhide HR))
    have p1 := P0.2 1 _ (taskR_c1 (unhide HR))
    go_wp2_with fail
    refine (implNumText x.pc hp.1 hp.2 _ (htab_keep htab B0)).mono ?_
    rintro e w1 ⟨rfl, hb1⟩
    change (numX x.pc).size ≤ 40 at hz
    rw [show (⟨(Lib.itoa x.pc).toArray⟩ : ByteArray) = numX x.pc from rfl]
    generalize numX x.pc = T at *
    have hs : (⟨#[111, 102, 102, 101, 114, 32]⟩ : ByteArray).size = 6 := rfl
    go_wp2
    go_ret
    exact ⟨by rw [unhide HF]; rfl, bthen B0 hb1⟩
  have q1 : (x.op == 1) = false := by simpa using e1
  by_cases e2 : x.op = 2
  case pos =>
    have q : (x.op == 2) = true := by simpa using e2
    have HF := hide (show taskT x = ⟨#[106, 117, 100, 103, 101, 32]⟩ ++ numX x.pc by simp [taskT, e2])
    clear e0 e1 e2
    go_enter Tryd.func11, Tryd.ntmps11
    go_upto_region 1 with fail
    generalize World.alloc w _ = w0 at *
    have p0 := P0.2 0 _ (taskR_c0 (unhide HR))
    have p1 := P0.2 1 _ (taskR_c1 (unhide HR))
    go_wp2_with fail
    refine (implNumText x.pc hp.1 hp.2 _ (htab_keep htab B0)).mono ?_
    rintro e w1 ⟨rfl, hb1⟩
    change (numX x.pc).size ≤ 40 at hz
    rw [show (⟨(Lib.itoa x.pc).toArray⟩ : ByteArray) = numX x.pc from rfl]
    generalize numX x.pc = T at *
    have hs : (⟨#[106, 117, 100, 103, 101, 32]⟩ : ByteArray).size = 6 := rfl
    go_wp2
    go_ret
    exact ⟨by rw [unhide HF]; rfl, bthen B0 hb1⟩
  have q2 : (x.op == 2) = false := by simpa using e2
  have HF := hide (show taskT x = ⟨#[]⟩ by simp [taskT, e0, e1, e2])
  clear e0 e1 e2
  go_enter Tryd.func11, Tryd.ntmps11
  go_upto_region 1 with fail
  generalize World.alloc w _ = w0 at *
  have p0 := P0.2 0 _ (taskR_c0 (unhide HR))
  go_wp2
  go_ret
  exact ⟨by rw [unhide HF]; rfl, B0⟩
theorem specNumX (n : Int) (h : InI n) (w : World) :
    Calls Tryd.prog 32 #[.int .i64 n] w fun e w' => e = .returned (.string (numX n)) ∧ Below w.heap.size w w' := specNumText n h.1 h.2 w
theorem implNumX (n : Int) (h : InI n) (w : World) (htab : Lib.TabIs Tryd.prog w "internal/strconv.uint64pow10" .u64 Lib.pow10Tab) :
    Calls Tryd.prog 34 #[.int .i64 n] w fun e w' => e = .returned (.string (numX n)) ∧ Below w.heap.size w w' := implNumText n h.1 h.2 w htab
def spB : ByteArray := ⟨#[32]⟩
theorem ba_assoc (x y z : ByteArray) : (x ++ y) ++ z = x ++ (y ++ z) := by apply ByteArray.ext; simp [ByteArray.data_append]
def countT (x : CountD) : ByteArray := numX x.came ++ ⟨#[32]⟩ ++ numX x.went ++ ⟨#[32]⟩ ++ numX x.moving ++ ⟨#[32]⟩ ++ numX x.held ++ ⟨#[32]⟩ ++ numX x.dropped
def joinT (a : ByteArray) (l : List Int) : ByteArray := l.foldl (fun s n => s ++ (⟨#[32]⟩ ++ numX n)) a
theorem joinT_size (l : List Int) : ∀ a : ByteArray, (∀ n ∈ l, InI n) → (joinT a l).size ≤ a.size + 41 * l.length := by
  induction l with
  | nil => intro a _; simp [joinT]
  | cons n r ih =>
    intro a h
    have h1 := ih (a ++ (⟨#[32]⟩ ++ numX n)) (fun m hm => h m (List.mem_cons_of_mem _ hm))
    have h2 := numX_size n (h n (List.mem_cons_self ..))
    have h3 : (⟨#[32]⟩ : ByteArray).size = 1 := rfl
    simp only [joinT, List.foldl, List.length_cons] at h1 ⊢
    rw [ByteArray.size_append, ByteArray.size_append, h3] at h1
    omega
theorem joinT_all (x : CountD) : joinT (numX x.came) [x.went, x.moving, x.held, x.dropped] = countT x := by
  simp only [joinT, List.foldl, countT, ba_assoc]
set_option maxHeartbeats 4000000 in
theorem specCountText (x : CountD) (S0 : Nat → Prop) (c0 : List Value) (w : World) (h0 : countR w S0 c0 x) (b0 : countBulk x ≤ 1048576) (hi : InCount x) :
    Calls Tryd.prog 13 #[.agg c0.toArray] w fun e w' => e = .returned (.string (countT x)) ∧ Below w.heap.size w w' := by
  have P0 := Held.new w c0 42
  have B0 := bnew w (.cells c0.toArray 42)
  have HR := hide h0
  obtain ⟨i0, i1, i2, i3, i4⟩ := hi
  have z0 := numX_size _ i0
  have z1 := numX_size _ i1
  have z2 := numX_size _ i2
  have z3 := numX_size _ i3
  have z4 := numX_size _ i4
  have zs : (⟨#[32]⟩ : ByteArray).size = 1 := rfl
  clear h0
  go_enter Tryd.func13, Tryd.ntmps13
  go_upto_region 1 with fail
  generalize World.alloc w _ = w0 at *
  refine wp_region_held_drew (S := fun w' => Below w0.heap.size w0 w') (by kernel_rfl) (Below.drew (Below.refl _ _)) (fun hHeld => ?_)
  refine wpAnyH_take (i := 0) (oi := ?oo1) (v := ?vv1) ?hi1 (by kernel_rfl) (by kernel_rfl) (by kernel_rfl) ?hQ1 ?hy1 (by assumption) ?rest1
  case hi1 => (simp only [List.getElem?_toArray, List.getElem?_cons_zero]; rfl)
  case hQ1 => exact fun _ _ _ h => h
  case hy1 => exact Or.inl ⟨by rfl, by intro wS hSw; (try dsimp only at hSw); go_simp; try first | (with_reducible rfl) | (simp only [*]; done) | omega⟩
  try simp only [Act.put, List.setIfInBounds_toArray, List.set_cons_zero, List.set_cons_succ]
  refine wpAnyH_take (i := 1) (oi := ?oo2) (v := .int .i64 x.came) ?hi2 (by kernel_rfl) (by kernel_rfl) (by kernel_rfl) ?hQ2 ?hy2 (by assumption) ?rest2
  case hi2 => (simp only [List.getElem?_toArray, List.getElem?_cons_zero, List.getElem?_cons_succ]; rfl)
  case hQ2 => exact fun _ _ _ h => h
  case hy2 => exact yld_cell (by rfl) _ _ rfl _ _ rfl _ (fun w' hS => (P0.keep hS).2 0 _ (countR_c0 (unhide HR))) plainInt
  try simp only [Act.put, List.setIfInBounds_toArray, List.set_cons_zero, List.set_cons_succ]
  refine wpAnyH_take (i := 4) (oi := ?oo3) (v := ?vv3) ?hi3 (by kernel_rfl) (by kernel_rfl) (by kernel_rfl) ?hQ3 ?hy3 (by assumption) ?rest3
  case hi3 => (simp only [List.getElem?_toArray, List.getElem?_cons_zero, List.getElem?_cons_succ]; rfl)
  case hQ3 => exact fun _ _ _ h => h
  case hy3 => exact Or.inl ⟨by rfl, by intro wS hSw; (try dsimp only at hSw); go_simp; try first | (with_reducible rfl) | (simp only [*]; done) | omega⟩
  try simp only [Act.put, List.setIfInBounds_toArray, List.set_cons_zero, List.set_cons_succ]
  refine wpAnyH_take (i := 5) (oi := ?oo4) (v := .int .i64 x.went) ?hi4 (by kernel_rfl) (by kernel_rfl) (by kernel_rfl) ?hQ4 ?hy4 (by assumption) ?rest4
  case hi4 => (simp only [List.getElem?_toArray, List.getElem?_cons_zero, List.getElem?_cons_succ]; rfl)
  case hQ4 => exact fun _ _ _ h => h
  case hy4 => exact yld_cell (by rfl) _ _ rfl _ _ rfl _ (fun w' hS => (P0.keep hS).2 1 _ (countR_c1 (unhide HR))) plainInt
  try simp only [Act.put, List.setIfInBounds_toArray, List.set_cons_zero, List.set_cons_succ]
  refine wpAnyH_take (i := 9) (oi := ?oo5) (v := ?vv5) ?hi5 (by kernel_rfl) (by kernel_rfl) (by kernel_rfl) ?hQ5 ?hy5 (by assumption) ?rest5
  case hi5 => (simp only [List.getElem?_toArray, List.getElem?_cons_zero, List.getElem?_cons_succ]; rfl)
  case hQ5 => exact fun _ _ _ h => h
  case hy5 => exact Or.inl ⟨by rfl, by intro wS hSw; (try dsimp only at hSw); go_simp; try first | (with_reducible rfl) | (simp only [*]; done) | omega⟩
  try simp only [Act.put, List.setIfInBounds_toArray, List.set_cons_zero, List.set_cons_succ]
  refine wpAnyH_take (i := 10) (oi := ?oo6) (v := .int .i64 x.moving) ?hi6 (by kernel_rfl) (by kernel_rfl) (by kernel_rfl) ?hQ6 ?hy6 (by assumption) ?rest6
  case hi6 => (simp only [List.getElem?_toArray, List.getElem?_cons_zero, List.getElem?_cons_succ]; rfl)
  case hQ6 => exact fun _ _ _ h => h
  case hy6 => exact yld_cell (by rfl) _ _ rfl _ _ rfl _ (fun w' hS => (P0.keep hS).2 2 _ (countR_c2 (unhide HR))) plainInt
  try simp only [Act.put, List.setIfInBounds_toArray, List.set_cons_zero, List.set_cons_succ]
  refine wpAnyH_take (i := 14) (oi := ?oo7) (v := ?vv7) ?hi7 (by kernel_rfl) (by kernel_rfl) (by kernel_rfl) ?hQ7 ?hy7 (by assumption) ?rest7
  case hi7 => (simp only [List.getElem?_toArray, List.getElem?_cons_zero, List.getElem?_cons_succ]; rfl)
  case hQ7 => exact fun _ _ _ h => h
  case hy7 => exact Or.inl ⟨by rfl, by intro wS hSw; (try dsimp only at hSw); go_simp; try first | (with_reducible rfl) | (simp only [*]; done) | omega⟩
  try simp only [Act.put, List.setIfInBounds_toArray, List.set_cons_zero, List.set_cons_succ]
  refine wpAnyH_take (i := 15) (oi := ?oo8) (v := .int .i64 x.held) ?hi8 (by kernel_rfl) (by kernel_rfl) (by kernel_rfl) ?hQ8 ?hy8 (by assumption) ?rest8
  case hi8 => (simp only [List.getElem?_toArray, List.getElem?_cons_zero, List.getElem?_cons_succ]; rfl)
  case hQ8 => exact fun _ _ _ h => h
  case hy8 => exact yld_cell (by rfl) _ _ rfl _ _ rfl _ (fun w' hS => (P0.keep hS).2 3 _ (countR_c3 (unhide HR))) plainInt
  try simp only [Act.put, List.setIfInBounds_toArray, List.set_cons_zero, List.set_cons_succ]
  refine wpAnyH_take (i := 19) (oi := ?oo9) (v := ?vv9) ?hi9 (by kernel_rfl) (by kernel_rfl) (by kernel_rfl) ?hQ9 ?hy9 (by assumption) ?rest9
  case hi9 => (simp only [List.getElem?_toArray, List.getElem?_cons_zero, List.getElem?_cons_succ]; rfl)
  case hQ9 => exact fun _ _ _ h => h
  case hy9 => exact Or.inl ⟨by rfl, by intro wS hSw; (try dsimp only at hSw); go_simp; try first | (with_reducible rfl) | (simp only [*]; done) | omega⟩
  try simp only [Act.put, List.setIfInBounds_toArray, List.set_cons_zero, List.set_cons_succ]
  refine wpAnyH_take (i := 20) (oi := ?oo10) (v := .int .i64 x.dropped) ?hi10 (by kernel_rfl) (by kernel_rfl) (by kernel_rfl) ?hQ10 ?hy10 (by assumption) ?rest10
  case hi10 => (simp only [List.getElem?_toArray, List.getElem?_cons_zero, List.getElem?_cons_succ]; rfl)
  case hQ10 => exact fun _ _ _ h => h
  case hy10 => exact yld_cell (by rfl) _ _ rfl _ _ rfl _ (fun w' hS => (P0.keep hS).2 4 _ (countR_c4 (unhide HR))) plainInt
  try simp only [Act.put, List.setIfInBounds_toArray, List.set_cons_zero, List.set_cons_succ]
  refine wpAnyH_ready (rs := [2]) (by kernel_rfl) (by simp) ?_
  refine (AllReadyH.cons (o := ?bo11n2) ?bh11n2 (fun K hK => ?br11n2) AllReadyH.nil)
  case bh11n2 => (simp only [List.getElem?_toArray, List.getElem?_cons_zero, List.getElem?_cons_succ]; rfl)
  case br11n2 =>
    go_simp
    refine (specNumX x.came i0 _).mono ?_
    rintro e w5 ⟨rfl, hb5⟩
    have hH5 := bthen hHeld hb5
    clear hHeld hb5
    go_wp2_with fail
    refine hK.out _ _ (hH5) (fun hHeld => ?_)
    clear hK
    refine wpAnyH_take (i := 3) (oi := ?oo12) (v := .string (numX x.came ++ (⟨#[32]⟩ : ByteArray))) ?hi12 (by kernel_rfl) (by kernel_rfl) (by kernel_rfl) ?hQ12 ?hy12 (by assumption) ?rest12
    case hi12 => (simp only [List.getElem?_toArray, List.getElem?_cons_zero, List.getElem?_cons_succ]; rfl)
    case hQ12 => exact fun _ _ _ h => h
    case hy12 => exact Or.inl ⟨by rfl, by intro wS hSw; (try dsimp only at hSw); go_simp; (try simp only [ByteArray.size_append, zs]); first | omega | (rw [if_neg (by omega)]; done) | (rw [if_neg (by omega)]; rfl) | (simp; omega)⟩
    try simp only [Act.put, List.setIfInBounds_toArray, List.set_cons_zero, List.set_cons_succ]
    refine wpAnyH_ready (rs := [6]) (by kernel_rfl) (by simp) ?_
    refine (AllReadyH.cons (o := ?bo13n6) ?bh13n6 (fun K hK => ?br13n6) AllReadyH.nil)
    case bh13n6 => (simp only [List.getElem?_toArray, List.getElem?_cons_zero, List.getElem?_cons_succ]; rfl)
    case br13n6 =>
      go_simp
      refine (specNumX x.went i1 _).mono ?_
      rintro e w6 ⟨rfl, hb6⟩
      have hH6 := bthen hHeld hb6
      clear hHeld hb6
      go_wp2_with fail
      refine hK.out _ _ (hH6) (fun hHeld => ?_)
      clear hK
      refine wpAnyH_take (i := 7) (oi := ?oo14) (v := .string (numX x.came ++ (⟨#[32]⟩ : ByteArray) ++ numX x.went)) ?hi14 (by kernel_rfl) (by kernel_rfl) (by kernel_rfl) ?hQ14 ?hy14 (by assumption) ?rest14
      case hi14 => (simp only [List.getElem?_toArray, List.getElem?_cons_zero, List.getElem?_cons_succ]; rfl)
      case hQ14 => exact fun _ _ _ h => h
      case hy14 => exact Or.inl ⟨by rfl, by intro wS hSw; (try dsimp only at hSw); go_simp; (try simp only [ByteArray.size_append, zs]); first | omega | (rw [if_neg (by omega)]; done) | (rw [if_neg (by omega)]; rfl) | (simp; omega)⟩
      try simp only [Act.put, List.setIfInBounds_toArray, List.set_cons_zero, List.set_cons_succ]
      refine wpAnyH_take (i := 8) (oi := ?oo15) (v := .string (numX x.came ++ (⟨#[32]⟩ : ByteArray) ++ numX x.went ++ (⟨#[32]⟩ : ByteArray))) ?hi15 (by kernel_rfl) (by kernel_rfl) (by kernel_rfl) ?hQ15 ?hy15 (by assumption) ?rest15
      case hi15 => (simp only [List.getElem?_toArray, List.getElem?_cons_zero, List.getElem?_cons_succ]; rfl)
      case hQ15 => exact fun _ _ _ h => h
      case hy15 => exact Or.inl ⟨by rfl, by intro wS hSw; (try dsimp only at hSw); go_simp; (try simp only [ByteArray.size_append, zs]); first | omega | (rw [if_neg (by omega)]; done) | (rw [if_neg (by omega)]; rfl) | (simp; omega)⟩
      try simp only [Act.put, List.setIfInBounds_toArray, List.set_cons_zero, List.set_cons_succ]
      refine wpAnyH_ready (rs := [11]) (by kernel_rfl) (by simp) ?_
      refine (AllReadyH.cons (o := ?bo16n11) ?bh16n11 (fun K hK => ?br16n11) AllReadyH.nil)
      case bh16n11 => (simp only [List.getElem?_toArray, List.getElem?_cons_zero, List.getElem?_cons_succ]; rfl)
      case br16n11 =>
        go_simp
        refine (specNumX x.moving i2 _).mono ?_
        rintro e w7 ⟨rfl, hb7⟩
        have hH7 := bthen hHeld hb7
        clear hHeld hb7
        go_wp2_with fail
        refine hK.out _ _ (hH7) (fun hHeld => ?_)
        clear hK
        refine wpAnyH_take (i := 12) (oi := ?oo17) (v := .string (numX x.came ++ (⟨#[32]⟩ : ByteArray) ++ numX x.went ++ (⟨#[32]⟩ : ByteArray) ++ numX x.moving)) ?hi17 (by kernel_rfl) (by kernel_rfl) (by kernel_rfl) ?hQ17 ?hy17 (by assumption) ?rest17
        case hi17 => (simp only [List.getElem?_toArray, List.getElem?_cons_zero, List.getElem?_cons_succ]; rfl)
        case hQ17 => exact fun _ _ _ h => h
        case hy17 => exact Or.inl ⟨by rfl, by intro wS hSw; (try dsimp only at hSw); go_simp; (try simp only [ByteArray.size_append, zs]); first | omega | (rw [if_neg (by omega)]; done) | (rw [if_neg (by omega)]; rfl) | (simp; omega)⟩
        try simp only [Act.put, List.setIfInBounds_toArray, List.set_cons_zero, List.set_cons_succ]
        refine wpAnyH_take (i := 13) (oi := ?oo18) (v := .string (numX x.came ++ (⟨#[32]⟩ : ByteArray) ++ numX x.went ++ (⟨#[32]⟩ : ByteArray) ++ numX x.moving ++ (⟨#[32]⟩ : ByteArray))) ?hi18 (by kernel_rfl) (by kernel_rfl) (by kernel_rfl) ?hQ18 ?hy18 (by assumption) ?rest18
        case hi18 => (simp only [List.getElem?_toArray, List.getElem?_cons_zero, List.getElem?_cons_succ]; rfl)
        case hQ18 => exact fun _ _ _ h => h
        case hy18 => exact Or.inl ⟨by rfl, by intro wS hSw; (try dsimp only at hSw); go_simp; (try simp only [ByteArray.size_append, zs]); first | omega | (rw [if_neg (by omega)]; done) | (rw [if_neg (by omega)]; rfl) | (simp; omega)⟩
        try simp only [Act.put, List.setIfInBounds_toArray, List.set_cons_zero, List.set_cons_succ]
        refine wpAnyH_ready (rs := [16]) (by kernel_rfl) (by simp) ?_
        refine (AllReadyH.cons (o := ?bo19n16) ?bh19n16 (fun K hK => ?br19n16) AllReadyH.nil)
        case bh19n16 => (simp only [List.getElem?_toArray, List.getElem?_cons_zero, List.getElem?_cons_succ]; rfl)
        case br19n16 =>
          go_simp
          refine (specNumX x.held i3 _).mono ?_
          rintro e w8 ⟨rfl, hb8⟩
          have hH8 := bthen hHeld hb8
          clear hHeld hb8
          go_wp2_with fail
          refine hK.out _ _ (hH8) (fun hHeld => ?_)
          clear hK
          refine wpAnyH_take (i := 17) (oi := ?oo20) (v := .string (numX x.came ++ (⟨#[32]⟩ : ByteArray) ++ numX x.went ++ (⟨#[32]⟩ : ByteArray) ++ numX x.moving ++ (⟨#[32]⟩ : ByteArray) ++ numX x.held)) ?hi20 (by kernel_rfl) (by kernel_rfl) (by kernel_rfl) ?hQ20 ?hy20 (by assumption) ?rest20
          case hi20 => (simp only [List.getElem?_toArray, List.getElem?_cons_zero, List.getElem?_cons_succ]; rfl)
          case hQ20 => exact fun _ _ _ h => h
          case hy20 => exact Or.inl ⟨by rfl, by intro wS hSw; (try dsimp only at hSw); go_simp; (try simp only [ByteArray.size_append, zs]); first | omega | (rw [if_neg (by omega)]; done) | (rw [if_neg (by omega)]; rfl) | (simp; omega)⟩
          try simp only [Act.put, List.setIfInBounds_toArray, List.set_cons_zero, List.set_cons_succ]
          refine wpAnyH_take (i := 18) (oi := ?oo21) (v := .string (numX x.came ++ (⟨#[32]⟩ : ByteArray) ++ numX x.went ++ (⟨#[32]⟩ : ByteArray) ++ numX x.moving ++ (⟨#[32]⟩ : ByteArray) ++ numX x.held ++ (⟨#[32]⟩ : ByteArray))) ?hi21 (by kernel_rfl) (by kernel_rfl) (by kernel_rfl) ?hQ21 ?hy21 (by assumption) ?rest21
          case hi21 => (simp only [List.getElem?_toArray, List.getElem?_cons_zero, List.getElem?_cons_succ]; rfl)
          case hQ21 => exact fun _ _ _ h => h
          case hy21 => exact Or.inl ⟨by rfl, by intro wS hSw; (try dsimp only at hSw); go_simp; (try simp only [ByteArray.size_append, zs]); first | omega | (rw [if_neg (by omega)]; done) | (rw [if_neg (by omega)]; rfl) | (simp; omega)⟩
          try simp only [Act.put, List.setIfInBounds_toArray, List.set_cons_zero, List.set_cons_succ]
          refine wpAnyH_ready (rs := [21]) (by kernel_rfl) (by simp) ?_
          refine (AllReadyH.cons (o := ?bo22n21) ?bh22n21 (fun K hK => ?br22n21) AllReadyH.nil)
          case bh22n21 => (simp only [List.getElem?_toArray, List.getElem?_cons_zero, List.getElem?_cons_succ]; rfl)
          case br22n21 =>
            go_simp
            refine (specNumX x.dropped i4 _).mono ?_
            rintro e w9 ⟨rfl, hb9⟩
            have hH9 := bthen hHeld hb9
            clear hHeld hb9
            go_wp2_with fail
            refine hK.out _ _ (hH9) (fun hHeld => ?_)
            clear hK
            refine wpAnyH_take (i := 22) (oi := ?oo23) (v := .string (numX x.came ++ (⟨#[32]⟩ : ByteArray) ++ numX x.went ++ (⟨#[32]⟩ : ByteArray) ++ numX x.moving ++ (⟨#[32]⟩ : ByteArray) ++ numX x.held ++ (⟨#[32]⟩ : ByteArray) ++ numX x.dropped)) ?hi23 (by kernel_rfl) (by kernel_rfl) (by kernel_rfl) ?hQ23 ?hy23 (by assumption) ?rest23
            case hi23 => (simp only [List.getElem?_toArray, List.getElem?_cons_zero, List.getElem?_cons_succ]; rfl)
            case hQ23 => exact fun _ _ _ h => h
            case hy23 => exact Or.inl ⟨by rfl, by intro wS hSw; (try dsimp only at hSw); go_simp; (try simp only [ByteArray.size_append, zs]); first | omega | (rw [if_neg (by omega)]; done) | (rw [if_neg (by omega)]; rfl) | (simp; omega)⟩
            try simp only [Act.put, List.setIfInBounds_toArray, List.set_cons_zero, List.set_cons_succ]
            refine wpAnyH_take (i := 23) (oi := ?oo24) (v := ?vv24) ?hi24 (by kernel_rfl) (by kernel_rfl) (by kernel_rfl) ?hQ24 ?hy24 (by assumption) ?rest24
            case hi24 => (simp only [List.getElem?_toArray, List.getElem?_cons_zero, List.getElem?_cons_succ]; rfl)
            case hQ24 => exact fun _ _ _ h => h
            case hy24 => exact Or.inl ⟨by rfl, by intro wS hSw; (try dsimp only at hSw); go_simp; try first | (with_reducible rfl) | (simp only [*]; done) | omega⟩
            try simp only [Act.put, List.setIfInBounds_toArray, List.set_cons_zero, List.set_cons_succ]
            refine wpAnyH_done (by kernel_rfl) ?_ _
            go_wp2
            go_ret
            exact ⟨rfl, bthen B0 hHeld⟩
set_option maxHeartbeats 4000000 in
theorem implCountText (x : CountD) (S0 : Nat → Prop) (c0 : List Value) (w : World) (h0 : countR w S0 c0 x) (b0 : countBulk x ≤ 1048576) (hi : InCount x) (htab : Lib.TabIs Tryd.prog w "internal/strconv.uint64pow10" .u64 Lib.pow10Tab) :
    Calls Tryd.prog 15 #[.agg c0.toArray] w fun e w' => e = .returned (.string (countT x)) ∧ Below w.heap.size w w' := by
  have P0 := Held.new w c0 42
  have B0 := bnew w (.cells c0.toArray 42)
  have HR := hide h0
  obtain ⟨i0, i1, i2, i3, i4⟩ := hi
  clear h0
  go_enter Tryd.func15, Tryd.ntmps15
  go_upto_region 1 with fail
  generalize World.alloc w _ = w0 at *
  have p0 := P0.2 0 _ (countR_c0 (unhide HR))
  go_wp2_with fail
  refine (implNumX x.came i0 _ (htab_keep htab B0)).mono ?_
  rintro e w1 ⟨rfl, hb1⟩
  have P1 := P0.keep hb1
  have B1 := bthen B0 hb1
  have p1 := P1.2 1 _ (countR_c1 (unhide HR))
  have p2 := P1.2 2 _ (countR_c2 (unhide HR))
  have p3 := P1.2 3 _ (countR_c3 (unhide HR))
  have p4 := P1.2 4 _ (countR_c4 (unhide HR))
  have hall : ∀ n ∈ [x.went, x.moving, x.held, x.dropped], InI n := by
    intro n hn
    simp only [List.mem_cons, List.not_mem_nil, or_false] at hn
    rcases hn with rfl | rfl | rfl | rfl <;> assumption
  have HJ := hide (joinT_all x)
  have HD0 := Held.new w1 [.int .i64 x.went, .int .i64 x.moving, .int .i64 x.held, .int .i64 x.dropped] 3
  have B2 := bthen B1 (bnew w1 (.cells #[.int .i64 x.went, .int .i64 x.moving, .int .i64 x.held, .int .i64 x.dropped] 3))
  have hsz0 := numX_size _ i0
  clear P0 P1 p0 B0 B1 hb1
  go_upto_region 3 with fail
  generalize hWw : World.alloc w1 _ = w2 at *
  have HB : Hid (w1.heap.size < w2.heap.size) := hide (by rw [← hWw]; simp)
  clear hWw
  have HD : Hid (Held w2 w1.heap.size ([x.went, x.moving, x.held, x.dropped].map (fun n => Value.int .i64 n))) := hide HD0
  clear HD0
  have HL : Hid (([x.went, x.moving, x.held, x.dropped] : List Int).length = 4) := hide rfl
  generalize hzs : [x.went, x.moving, x.held, x.dropped] = zs at *
  have HZS := hide hzs
  clear hzs p1 p2 p3 p4 i0 i1 i2 i3 i4
  have HA := hide hall
  clear hall
  go_loopw [3, 19] (fun s i wk => ∃ k : Nat, k ≤ 4 ∧ i = .int .i64 k ∧ s = .string (joinT (numX x.came) (zs.take k)) ∧ Below w2.heap.size w2 wk) (fun _ i _ => 4 - (intOf i).toNat)
  case atStart => exact ⟨0, Nat.zero_le _, rfl, rfl, Below.refl _ _⟩
  case round =>
    obtain ⟨k, hk, rfl, rfl, hbl⟩ := hrel
    by_cases hlt : k < 4
    · have hki : (k : Int) < 4 := by omega
      have hkl : k < zs.length := by rw [unhide HL]; exact hlt
      have c1 := ((unhide HD).keep hbl).2 k (.int .i64 zs[k]) (by simp [hkl])
      have hin := unhide HA zs[k] (List.getElem_mem hkl)
      have hsz := joinT_size (zs.take k) (numX x.came) (fun n hn => unhide HA n (List.mem_of_mem_take hn))
      have hzk := numX_size _ hin
      have HS := hide (show joinT (numX x.came) (zs.take (k + 1)) = joinT (numX x.came) (zs.take k) ++ (⟨#[32]⟩ ++ numX zs[k]) by
        unfold joinT; rw [List.take_succ_eq_append_getElem hkl, List.foldl_append]; rfl)
      rw [List.length_take] at hsz
      have hsz : (joinT (numX x.came) (zs.take k)).size ≤ 400 := by omega
      generalize zs[k] = n at *
      generalize joinT (numX x.came) (zs.take k) = T at *
      go_wp2_with fail
      refine (implNumX n hin _ (htab_keep htab (bthen B2 hbl))).mono ?_
      rintro e w3 ⟨rfl, hb3⟩
      generalize numX n = M at *
      have zq : (⟨#[32]⟩ : ByteArray).size = 1 := rfl
      have zr : (⟨#[32]⟩ ++ M : ByteArray).size = 1 + M.size := by rw [ByteArray.size_append, zq]
      go_wp2
      go_roundw
      case rel => exact ⟨k + 1, by omega, by go_num, by rw [unhide HS], bthen hbl hb3⟩
      case measure => simp [intOf]; omega
    · have hki : ¬ (k : Int) < 4 := by omega
      obtain rfl : k = 4 := by omega
      have HF := hide (show joinT (numX x.came) (zs.take 4) = countT x by rw [List.take_of_length_le (by rw [unhide HL]; omega)]; exact unhide HJ)
      go_wp2
      go_ret
      exact ⟨by rw [← unhide HF]; rfl, bthen B2 hbl⟩
end Go.Proofs.YtmlgpgejfnlfmaaDoor
