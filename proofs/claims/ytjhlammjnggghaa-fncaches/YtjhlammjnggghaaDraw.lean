/-
  Contracts of the specification's drawing functions (a cursor over the drawn bytes), over this seat's translation: each returns without a panic, what it hands back lies within the bounds that its callers lean on, the cursor stays a cursor, and of what was there only the cursor's own block turns.
-/
import Derived.Test.YtjhlammjnggghaaNum
import Derived.BigQuiet
import Derived.Deep.QuietTactic
namespace Go.Proofs.Ytjhlammjnggghaa
open Go.ChangeShapes Go.WideShapes Go.ChangeAt Go.RowKit
set_option linter.unusedVariables false
set_option maxRecDepth 100000
variable {B : Nat}

/-- Of what was there nothing has turned but block b; new blocks may lie behind. -/
structure Turns (b : Nat) (w w' : World) : Prop where
  os : w'.os = w.os
  tape : w'.tape = w.tape
  output : w'.output = w.output
  size : w.heap.size ≤ w'.heap.size
  block : ∀ k, k < w.heap.size → k ≠ b → w'.heap[k]? = w.heap[k]?
theorem Turns.refl (b : Nat) (w : World) : Turns b w w := ⟨rfl, rfl, rfl, Nat.le_refl _, fun _ _ _ => rfl⟩
theorem Turns.trans {b : Nat} {x y z : World} (h : Turns b x y) (k : Turns b y z) : Turns b x z :=
  ⟨k.os.trans h.os, k.tape.trans h.tape, k.output.trans h.output, Nat.le_trans h.size k.size, fun i hi hb => (k.block i (Nat.lt_of_lt_of_le hi h.size) hb).trans (h.block i hi hb)⟩
theorem Turns.drewN {b : Nat} {x y : World} (h : Turns b x y) (n : Nat) : Turns b x (y.drewN n) := h.trans ⟨rfl, rfl, rfl, Nat.le_refl _, fun _ _ _ => rfl⟩
theorem Turns.setCell {b : Nat} {x y : World} (h : Turns b x y) (o : Nat) (u : Value) : Turns b x (y.setCell ⟨b, o, none⟩ u) :=
  h.trans ⟨rfl, rfl, rfl, by simp [World.setCell], fun k _ hb => Below.heap_setCell _ _ _ _ hb⟩
theorem Turns.alloc {b : Nat} {x y : World} (h : Turns b x y) (o : Obj) : Turns b x (y.alloc o) :=
  h.trans ⟨rfl, rfl, rfl, by simp, fun k hk _ => Below.heap_alloc _ _ _ hk⟩
theorem Turns.cell {b : Nat} {w w' : World} (h : Turns b w w') {p : Addr} (hp : p.block < w.heap.size) (hb : p.block ≠ b) : w'.cell? p = w.cell? p := World.cell?_of_block (w := w) (h.block p.block hp hb)
theorem Turns.frozen {b : Nat} {w w' : World} (h : Turns b w w') {p : Addr} (hp : p.block < w.heap.size) (hb : p.block ≠ b) : w'.frozen? p = w.frozen? p := World.frozen?_of_block (w := w) (h.block p.block hp hb)
theorem Turns.below {b B : Nat} {w w' : World} (h : Turns b w w') (h1 : B ≤ b) (h2 : B ≤ w.heap.size) : Below B w w' :=
  ⟨h.os, h.tape, h.output, h.size, fun k hk => h.block k (by omega) (by omega)⟩
theorem Turns.of_below {b : Nat} {w w' : World} (h : Below w.heap.size w w') : Turns b w w' := ⟨h.os, h.tape, h.output, h.size, fun k hk _ => h.block k hk⟩

/-- The drawn bytes can be read, and they lie in no block that the cursor has. -/
def Code (B : Nat) (w : World) (b : Nat) (a : Option Addr) (len : Nat) : Prop :=
  len = 0 ∨ ∃ cb co, a = some ⟨cb, co, none⟩ ∧ cb ≠ b ∧ cb < B ∧ len ≤ 9223372036854775807 ∧ ∀ k, k < len → ∃ n, 0 ≤ n ∧ n ≤ 255 ∧ w.cell? ⟨cb, co + k, none⟩ = some (.int .u8 n)
/-- Block b holds a cursor. -/
structure Cur (B : Nat) (w : World) (b : Nat) : Prop where
  low : b < B
  high : B ≤ w.heap.size
  code : ∃ a len cap, w.cell? ⟨b, 0, none⟩ = some (.slice a len cap) ∧ Code B w b a len
  at1 : ∃ i, 0 ≤ i ∧ w.cell? ⟨b, 1, none⟩ = some (.int .i64 i)
  at2 : ∃ h, w.cell? ⟨b, 2, none⟩ = some (.int .i64 h)
  f1 : w.frozen? ⟨b, 1, none⟩ = false
  f2 : w.frozen? ⟨b, 2, none⟩ = false
theorem Code.keep {w w' : World} {b c : Nat} {a : Option Addr} {len : Nat} (h : Code B w b a len) (hB : B ≤ w.heap.size) (ht : Turns b w w') : Code B w' b a len := by
  rcases h with h | ⟨cb, co, h1, h2, h3, h4, h5⟩
  · exact .inl h
  · refine .inr ⟨cb, co, h1, h2, h3, h4, fun k hk => ?_⟩
    obtain ⟨n, hn, hn', hc⟩ := h5 k hk
    exact ⟨n, hn, hn', by rw [ht.cell (p := ⟨cb, co + k, none⟩) (Nat.lt_of_lt_of_le h3 hB) h2]; exact hc⟩
theorem Code.keepB {w w' : World} {b : Nat} {a : Option Addr} {len : Nat} (h : Code B w b a len) (hb : Below B w w') : Code B w' b a len := by
  rcases h with h | ⟨cb, co, h1, h2, h3, h4, h5⟩
  · exact .inl h
  · refine .inr ⟨cb, co, h1, h2, h3, h4, fun k hk => ?_⟩
    obtain ⟨n, hn, hn', hc⟩ := h5 k hk
    exact ⟨n, hn, hn', by rw [hb.cell (p := ⟨cb, co + k, none⟩) h3]; exact hc⟩

theorem and_mask (y : Int) (m : Nat) (hm : m < 2147483648) : 0 ≤ bits .and .i64 y (m : Int) ∧ bits .and .i64 y (m : Int) ≤ m := by
  have h2 : (BitVec.ofInt 64 (m : Int)).toNat = m := by
    rw [BitVec.ofInt_natCast, BitVec.toNat_ofNat]; exact Nat.mod_eq_of_lt (by omega)
  have h3 : (BitVec.ofInt 64 y &&& BitVec.ofInt 64 (m : Int)).toNat ≤ m := by
    rw [BitVec.toNat_and, h2]; exact Nat.and_le_right
  have e : bits .and .i64 y (m : Int) = IntKind.i64.wrap ((BitVec.ofInt 64 y &&& BitVec.ofInt 64 (m : Int)).toNat : Int) := rfl
  rw [e, IntKind.wrap_i64]
  generalize (BitVec.ofInt 64 y &&& BitVec.ofInt 64 (m : Int)).toNat = z at h3
  omega

theorem Cur.mk' {w w' : World} {b : Nat} (hc : Cur B w b) (ht : Turns b w w') (c0 : w'.cell? ⟨b, 0, none⟩ = w.cell? ⟨b, 0, none⟩) {i h : Int} (hi : 0 ≤ i) (c1 : w'.cell? ⟨b, 1, none⟩ = some (.int .i64 i)) (c2 : w'.cell? ⟨b, 2, none⟩ = some (.int .i64 h))
    (f1 : w'.frozen? ⟨b, 1, none⟩ = false) (f2 : w'.frozen? ⟨b, 2, none⟩ = false) : Cur B w' b := by
  obtain ⟨hlow, hhigh, ⟨a, len, cap, e0, hcode⟩, _, _, _, _⟩ := hc
  exact ⟨hlow, Nat.le_trans hhigh ht.size, ⟨a, len, cap, c0.trans e0, hcode.keep (c := 0) hhigh ht⟩, ⟨i, hi, c1⟩, ⟨h, c2⟩, f1, f2⟩
theorem Cur.lt {w : World} {b : Nat} (h : Cur B w b) : b < w.heap.size := Nat.lt_of_lt_of_le h.low h.high
/-- A cursor stays one where nothing of what lies below B turns. -/
theorem Cur.keepB {w w' : World} {b : Nat} (hc : Cur B w b) (hb : Below B w w') : Cur B w' b := by
  obtain ⟨hlow, hhigh, ⟨a, len, cap, e0, hcode⟩, ⟨i, hi, c1⟩, ⟨h, c2⟩, f1, f2⟩ := hc
  exact ⟨hlow, Nat.le_trans hhigh hb.size, ⟨a, len, cap, (hb.cell (p := ⟨b, 0, none⟩) hlow).trans e0, hcode.keepB hb⟩, ⟨i, hi, (hb.cell (p := ⟨b, 1, none⟩) hlow).trans c1⟩, ⟨h, (hb.cell (p := ⟨b, 2, none⟩) hlow).trans c2⟩, (hb.frozen (p := ⟨b, 1, none⟩) hlow).trans f1, (hb.frozen (p := ⟨b, 2, none⟩) hlow).trans f2⟩
/-- A cursor stays one where nothing of what was there turns. -/
theorem Cur.keep {w w' : World} {b : Nat} (hc : Cur B w b) (hb : Below w.heap.size w w') : Cur B w' b := hc.keepB (hb.mono hc.high)

theorem cells_ints (w : World) (t : TypeId) (zs : List Int) (k : Nat) (hk : k < zs.length) :
    (w.alloc (.cells (zs.map (fun z => Value.int .i64 z)).toArray t)).cell? ⟨w.heap.size, k, none⟩ = some (.int .i64 (zs.getD k 0)) := by
  simp [go_sem, hk, List.getD_eq_getElem?_getD]
theorem cells_strs (w : World) (t : TypeId) (zs : List ByteArray) (k : Nat) (hk : k < zs.length) :
    (w.alloc (.cells (zs.map (fun z => Value.string z)).toArray t)).cell? ⟨w.heap.size, k, none⟩ = some (.string (zs.getD k ByteArray.empty)) := by
  simp [go_sem, hk, List.getD_eq_getElem?_getD]

def In64 (x : Int) : Prop := -9223372036854775808 ≤ x ∧ x ≤ 9223372036854775807
theorem in64_of {zs : List Int} (h : (zs.all fun x => decide (-9223372036854775808 ≤ x) && decide (x ≤ 9223372036854775807)) = true) {x : Int} (hx : x ∈ zs) : In64 x := by
  have := List.all_eq_true.1 h x hx
  simpa [In64] using this

set_option maxHeartbeats 1000000 in
theorem l1Byte_any (b : Nat) (w : World) (hc : Cur B w b) :
    Calls Try.prog 190 #[.pointer (some ⟨b, 0, none⟩)] w fun e w' => (∃ x : Int, e = .returned (.int .i64 x) ∧ 0 ≤ x ∧ x ≤ 255) ∧ Cur B w' b ∧ Turns b w w' := by
  have HC := hide hc
  have hlt := hc.lt
  obtain ⟨hlow, hhigh, ⟨a, len, cap, c0, hcode⟩, ⟨i, hi, c1⟩, ⟨h, c2⟩, f1, f2⟩ := hc
  obtain ⟨k, rfl⟩ := Int.eq_ofNat_of_zero_le hi
  clear hi
  have Hcode := hide hcode
  clear hcode
  go_enter Try.func190, Try.ntmps190
  go_wp2
  go_quiet (fail)
  go_wp2
  generalize wrap64 (wrap64 (h * 6364136223846793005) + 1442695040888963407) = h1
  have b1 := and_mask (bits .xor .i64 (h1 / 8589934592) (h1 / 140737488355328)) 255 (by omega)
  simp only [Int.cast_ofNat_Int] at b1
  generalize bits BinOp.and IntKind.i64 (bits BinOp.xor IntKind.i64 (h1 / 8589934592) (h1 / 140737488355328)) 255 = x1 at *
  obtain ⟨b1, b2⟩ := b1
  by_cases hk : k < len
  · rcases unhide Hcode with h0 | ⟨cb, co, rfl, hne, hcb, hlen, hcell⟩
    · omega
    obtain ⟨n, hn0, hn1, hcn⟩ := hcell k hk
    clear hcell
    have hk' : (k : Int) < (len : Int) := by omega
    have b3 := and_mask (x1 + n) 255 (by omega)
    simp only [Int.cast_ofNat_Int] at b3
    go_quiet (fail)
    go_wp2
    go_quiet (fail)
    go_wp2
    go_ret
    refine ⟨⟨_, rfl, b3.1, b3.2⟩, Cur.mk' (unhide HC) (i := (k : Int) + 1) (h := h1) ?_ ?_ (by omega) ?_ ?_ ?_ ?_, ?_⟩
    · repeat (first | exact Turns.refl _ _ | refine Turns.drewN ?_ _ | refine Turns.setCell ?_ _ _ | refine Turns.alloc ?_ _)
    · simp [go_sem, c0]
    · simp [go_sem, c1]
    · simp [go_sem, c2]
    · simp [go_sem, f1]
    · simp [go_sem, f2]
    · repeat (first | exact Turns.refl _ _ | refine Turns.drewN ?_ _ | refine Turns.setCell ?_ _ _ | refine Turns.alloc ?_ _)
  · have hk' : ¬ (k : Int) < (len : Int) := by omega
    go_quiet (fail)
    go_wp2
    go_ret
    refine ⟨⟨_, rfl, b1, b2⟩, Cur.mk' (unhide HC) (i := (k : Int)) (h := h1) ?_ ?_ (by omega) ?_ ?_ ?_ ?_, ?_⟩
    · repeat (first | exact Turns.refl _ _ | refine Turns.drewN ?_ _ | refine Turns.setCell ?_ _ _ | refine Turns.alloc ?_ _)
    · simp [go_sem, c0]
    · simp [go_sem, c1]
    · simp [go_sem, c2]
    · simp [go_sem, f1]
    · simp [go_sem, f2]
    · repeat (first | exact Turns.refl _ _ | refine Turns.drewN ?_ _ | refine Turns.setCell ?_ _ _ | refine Turns.alloc ?_ _)

theorem tmod_lt {x n : Int} (hx : 0 ≤ x) (hn : 0 < n) : 0 ≤ x % n ∧ x % n < n := ⟨Int.emod_nonneg _ (by omega), Int.emod_lt_of_pos _ hn⟩
set_option maxHeartbeats 1000000 in
theorem l1Below_any (b : Nat) (n : Int) (hn : 0 < n) (w : World) (hc : Cur B w b) :
    Calls Try.prog 123 #[.pointer (some ⟨b, 0, none⟩), .int .i64 n] w fun e w' => (∃ x : Int, e = .returned (.int .i64 x) ∧ 0 ≤ x ∧ x < n) ∧ Cur B w' b ∧ Turns b w w' := by
  have hn' : ¬ n ≤ 0 := by omega
  by_cases hs : n ≤ 256
  · go_enter Try.func123, Try.ntmps123
    go_wp2_with fail
    refine (l1Byte_any b w hc).mono ?_
    rintro e w1 ⟨⟨x, rfl, hx0, hx1⟩, hc1, ht1⟩
    have hm := tmod_lt hx0 hn
    go_wp2
    go_ret
    exact ⟨⟨_, rfl, hm.1, hm.2⟩, hc1, ht1⟩
  · go_enter Try.func123, Try.ntmps123
    go_wp2_with fail
    refine (l1Byte_any b w hc).mono ?_
    rintro e w1 ⟨⟨x, rfl, hx0, hx1⟩, hc1, ht1⟩
    clear hc
    go_wp2_with fail
    refine (l1Byte_any b w1 hc1).mono ?_
    rintro e w2 ⟨⟨y, rfl, hy0, hy1⟩, hc2, ht2⟩
    clear hc1
    go_wp2_with fail
    refine (l1Byte_any b w2 hc2).mono ?_
    rintro e w3 ⟨⟨z, rfl, hz0, hz1⟩, hc3, ht3⟩
    clear hc2
    have hm := tmod_lt (x := x * 65536 + y * 256 + z) (by omega) hn
    go_wp2
    go_ret
    exact ⟨⟨_, rfl, hm.1, hm.2⟩, hc3, (ht1.trans ht2).trans ht3⟩

theorem l1Once_any (b : Nat) (n : Int) (hn : 0 < n) (w : World) (hc : Cur B w b) :
    Calls Try.prog 124 #[.pointer (some ⟨b, 0, none⟩), .int .i64 n] w fun e w' => (∃ x : Bool, e = .returned (.bool x)) ∧ Cur B w' b ∧ Turns b w w' := by
  go_enter Try.func124, Try.ntmps124
  go_wp2_with fail
  refine (l1Below_any b n hn w hc).mono ?_
  rintro e w1 ⟨⟨x, rfl, hx0, hx1⟩, hc1, ht1⟩
  go_wp2
  go_ret
  exact ⟨⟨_, rfl⟩, hc1, ht1⟩

/-- A row of ints that can be read: no list of the cursor's. -/
theorem l1Int_any (b lb : Nat) (zs : List Int) (cap : Nat) (w : World) (hc : Cur B w b) (hne : lb ≠ b) (hlb : lb < w.heap.size) (hz : 0 < zs.length) (hm : zs.length ≤ 9223372036854775807)
    (hcell : ∀ k, k < zs.length → w.cell? ⟨lb, k, none⟩ = some (.int .i64 (zs.getD k 0))) :
    Calls Try.prog 189 #[.pointer (some ⟨b, 0, none⟩), .slice (some ⟨lb, 0, none⟩) zs.length cap] w fun e w' => (∃ x : Int, e = .returned (.int .i64 x) ∧ x ∈ zs) ∧ Cur B w' b ∧ Turns b w w' := by
  go_enter Try.func189, Try.ntmps189
  go_wp2_with fail
  refine (l1Below_any b zs.length (by omega) w hc).mono ?_
  rintro e w1 ⟨⟨x, rfl, hx0, hx1⟩, hc1, ht1⟩
  obtain ⟨k, rfl⟩ := Int.eq_ofNat_of_zero_le hx0
  have hk : k < zs.length := by omega
  have c1 : w1.cell? ⟨lb, k, none⟩ = some (.int .i64 (zs.getD k 0)) := by rw [ht1.cell (p := ⟨lb, k, none⟩) hlb hne]; exact hcell k hk
  have hmem : zs.getD k 0 ∈ zs := by
    rw [List.getD_eq_getElem?_getD, List.getElem?_eq_getElem hk]; exact List.getElem_mem hk
  generalize zs.getD k 0 = v at *
  clear hcell
  go_wp2
  go_ret
  exact ⟨⟨_, rfl, hmem⟩, hc1, ht1⟩

theorem l1Odd_any (b : Nat) (w : World) (hc : Cur B w b) :
    Calls Try.prog 251 #[.pointer (some ⟨b, 0, none⟩)] w fun e w' => (∃ x : Int, e = .returned (.int .i64 x) ∧ In64 x) ∧ Cur B w' b ∧ Turns b w w' := by
  have hlt := hc.lt
  go_enter Try.func251, Try.ntmps251
  go_wp2_with fail
  refine (l1Int_any b w.heap.size [-1, 0, 1, 2, 255, 256, 65535, 2147483647, 2147483648, 4294967295, 4294967296, -2147483648, 9223372036854775807, -9223372036854775808] 14 _ (hc.keep (bnew _ _)) (by omega) (by simp) (by simp) (by simp) ?_).mono ?_
  · exact cells_ints w 3 [-1, 0, 1, 2, 255, 256, 65535, 2147483647, 2147483648, 4294967295, 4294967296, -2147483648, 9223372036854775807, -9223372036854775808]
  rintro e w1 ⟨⟨x, rfl, hx⟩, hc1, ht1⟩
  have HX := hide (in64_of (by decide) hx)
  clear hx
  go_wp2
  go_ret
  exact ⟨⟨_, rfl, unhide HX⟩, hc1, ((Turns.refl _ _).alloc _).trans ht1⟩

theorem l1Raw_any (b : Nat) (w : World) (hc : Cur B w b) :
    Calls Try.prog 230 #[.pointer (some ⟨b, 0, none⟩)] w fun e w' => (∃ x : Int, e = .returned (.int .i64 x) ∧ In64 x) ∧ Cur B w' b ∧ Turns b w w' := by
  go_enter Try.func230, Try.ntmps230
  go_wp2_with fail
  refine (l1Once_any b 2 (by omega) w hc).mono ?_
  rintro e w1 ⟨⟨x, rfl⟩, hc1, ht1⟩
  clear hc
  have hlt := hc1.lt
  cases x with
  | true =>
    go_wp2_with fail
    refine (l1Odd_any b w1 hc1).mono ?_
    rintro e w2 ⟨⟨y, rfl, hy⟩, hc2, ht2⟩
    clear hc1
    go_wp2
    go_ret
    exact ⟨⟨_, rfl, hy⟩, hc2, ht1.trans ht2⟩
  | false =>
    go_wp2_with fail
    refine (l1Int_any b w1.heap.size [-2147483648, -3, -1, 0, 1, 3, 7, 65536, 2147483647, 2147483648] 10 _ (hc1.keep (bnew _ _)) (by omega) (by simp) (by simp) (by simp) ?_).mono ?_
    · exact cells_ints w1 3 [-2147483648, -3, -1, 0, 1, 3, 7, 65536, 2147483647, 2147483648]
    rintro e w2 ⟨⟨y, rfl, hy⟩, hc2, ht2⟩
    clear hc1
    have HX := hide (in64_of (by decide) hy)
    clear hy
    go_wp2
    go_ret
    exact ⟨⟨_, rfl, unhide HX⟩, hc2, ht1.trans (((Turns.refl _ _).alloc _).trans ht2)⟩

/-- What is known of a []byte that came in: it is empty, or its bytes can be read. -/
def Bytes (w : World) (a : Option Addr) (len : Nat) : Prop :=
  len = 0 ∨ ∃ cb co, a = some ⟨cb, co, none⟩ ∧ cb < w.heap.size ∧ len ≤ 9223372036854775807 ∧ ∀ k, k < len → ∃ n, 0 ≤ n ∧ n ≤ 255 ∧ w.cell? ⟨cb, co + k, none⟩ = some (.int .u8 n)
theorem Bytes.keep {w w' : World} {a : Option Addr} {len : Nat} (h : Bytes w a len) (hb : Below w.heap.size w w') : Bytes w' a len := by
  rcases h with h | ⟨cb, co, h1, h3, h4, h5⟩
  · exact .inl h
  · refine .inr ⟨cb, co, h1, Nat.lt_of_lt_of_le h3 hb.size, h4, fun k hk => ?_⟩
    obtain ⟨n, hn, hn', hc⟩ := h5 k hk
    exact ⟨n, hn, hn', by rw [hb.cell (p := ⟨cb, co + k, none⟩) h3]; exact hc⟩
theorem Bytes.code {w w' : World} {a : Option Addr} {len : Nat} (h : Bytes w a len) (hb : Below w.heap.size w w') {b : Nat} (hbb : w.heap.size ≤ b) : Code (b + 1) w' b a len := by
  rcases h with h | ⟨cb, co, h1, h3, h4, h5⟩
  · exact .inl h
  · refine .inr ⟨cb, co, h1, by omega, by omega, h4, fun k hk => ?_⟩
    obtain ⟨n, hn, hn', hc⟩ := h5 k hk
    exact ⟨n, hn, hn', by rw [hb.cell (p := ⟨cb, co + k, none⟩) h3]; exact hc⟩
theorem cur_new {w : World} {a : Option Addr} {len : Nat} (h : Bytes w a len) (cap : Nat) (x : Int) (t : TypeId) :
    Cur (w.heap.size + 1) (w.alloc (.cells #[.slice a len cap, .int .i64 0, .int .i64 x] t)) w.heap.size :=
  ⟨by simp, by simp, ⟨a, len, cap, by simp [go_sem], h.code (bnew _ _) (Nat.le_refl _)⟩, ⟨0, by omega, by simp [go_sem]⟩, ⟨x, by simp [go_sem]⟩, by simp [go_sem], by simp [go_sem]⟩
theorem bytes_of_row {w : World} {a : Option Addr} {len cap : Nat} {zs : List Int}
    (h : (a = none ∧ len = 0 ∧ cap = 0 ∧ zs = []) ∨ ∃ x, a = some x ∧ len ≤ cap ∧ cap ≤ maxLen ∧ zs.length = cap ∧ (∀ i, i < zs.length → w.cell? (x.add i) = some (.int .u8 (zs.getD i 0))) ∧ ∀ n ∈ zs, (Lit.int .u8 n).wf = true) : Bytes w a len := by
  rcases h with ⟨_, h0, _⟩ | ⟨x, rfl, hl, hm, hz, hcell, hwz⟩
  · exact .inl h0
  · by_cases h0 : len = 0
    · exact .inl h0
    obtain ⟨b, off, spot⟩ := x
    have hc := hcell 0 (by omega)
    have hspot : spot = none := by simpa [Addr.add] using World.cell?_spot hc
    subst hspot
    unfold maxLen at hm
    refine .inr ⟨b, off, rfl, block_lt_of_cell (a := ⟨b, off + 0, none⟩) (by simpa [Addr.add] using hc), by omega, fun k hk => ?_⟩
    have hk2 : k < zs.length := by omega
    have hmem : zs.getD k 0 ∈ zs := by
      rw [List.getD_eq_getElem?_getD, List.getElem?_eq_getElem hk2]; exact List.getElem_mem hk2
    have hw : 0 ≤ zs.getD k 0 ∧ zs.getD k 0 ≤ 255 := by simpa [Lit.wf, IntKind.min, IntKind.max, IntKind.signed, IntKind.bits] using hwz _ hmem
    have e : (⟨b, off, none⟩ : Addr).add k = ⟨b, off + k, none⟩ := by unfold Addr.add; split <;> simp_all
    exact ⟨_, hw.1, hw.2, by rw [← e]; exact hcell k hk2⟩
set_option maxHeartbeats 1000000 in
theorem l1New_any (a : Option Addr) (len cap : Nat) (w : World) (hl : len ≤ 1048576) (hy : Bytes w a len) :
    Calls Try.prog 121 #[.slice a len cap] w fun e w' => ∃ b, e = .returned (.pointer (some ⟨b, 0, none⟩)) ∧ w.heap.size ≤ b ∧ Cur (b + 1) w' b ∧ Below w.heap.size w w' := by
  go_enter Try.func121, Try.ntmps121
  go_wp2
  go_loop [3, 4] (fun h i => ∃ (k : Nat) (x : Int), k ≤ len ∧ i = .int .i64 k ∧ h = .int .i64 x) (fun _ i => len - (intOf i).toNat)
  case atStart => exact ⟨0, _, Nat.zero_le _, rfl, rfl⟩
  case round =>
    obtain ⟨k, x, hk, rfl, rfl⟩ := hrel
    by_cases hlt : k < len
    · have hlt' : (k : Int) < (len : Int) := by omega
      by_cases h4 : k < 4000
      · have h4' : (k : Int) < 4000 := by omega
        rcases hy with h0 | ⟨cb, co, rfl, hcb, hlen, hcell⟩
        · omega
        obtain ⟨n, hn0, hn1, hcn⟩ := hcell k hlt
        clear hcell
        go_wp2
        go_round
        case rel => exact ⟨k + 1, _, by omega, by go_num, rfl⟩
        case measure => simp [intOf]; omega
      · have h4' : decide ((k : Int) < 4000) = false := decide_eq_false (by omega)
        go_wp2
        go_ret
        exact ⟨_, rfl, Nat.le_refl _, cur_new hy _ _ _, bnew _ _⟩
    · have hlt' : decide ((k : Int) < (len : Int)) = false := decide_eq_false (by omega)
      go_wp2
      go_ret
      exact ⟨_, rfl, Nat.le_refl _, cur_new hy _ _ _, bnew _ _⟩

theorem at_any (a : Option Addr) (len cap : Nat) (k : Nat) (hk : k ≤ 1000) (w : World) (hl : len ≤ 1048576) (hy : Bytes w a len) :
    Calls Try.prog 71 #[.slice a len cap, .int .i64 k] w fun e w' => (∃ x : Int, e = .returned (.int .i64 x) ∧ 0 ≤ x ∧ x ≤ 255) ∧ w = w' := by
  by_cases hlt : k < len
  · have hlt' : (k : Int) < (len : Int) := by omega
    rcases hy with h0 | ⟨cb, co, rfl, hcb, hlen, hcell⟩
    · omega
    obtain ⟨n, hn0, hn1, hcn⟩ := hcell k hlt
    clear hcell
    go_enter Try.func71, Try.ntmps71
    go_wp2
    go_ret
    exact ⟨⟨_, rfl, hn0, hn1⟩, rfl⟩
  · have hlt' : ¬ (k : Int) < (len : Int) := by omega
    have hm := tmod_lt (x := (k : Int) * 31 + (len : Int) * 7) (n := 256) (by omega) (by omega)
    go_enter Try.func71, Try.ntmps71
    go_wp2
    go_ret
    exact ⟨⟨_, rfl, hm.1, by omega⟩, rfl⟩

theorem big_any (a : Option Addr) (len cap : Nat) (w : World) :
    Calls Try.prog 33 #[.slice a len cap] w fun e w' => e = .returned (.bool (decide ((1048576 : Int) < (len : Int)))) ∧ w = w' := by
  go_enter Try.func33, Try.ntmps33
  go_wp2
  go_ret
  exact ⟨rfl, rfl⟩

end Go.Proofs.Ytjhlammjnggghaa
