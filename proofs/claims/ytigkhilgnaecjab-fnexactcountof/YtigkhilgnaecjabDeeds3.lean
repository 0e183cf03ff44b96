/-
  Sums over deeds of the specification.
-/
import Derived.Test.YtigkhilgnaecjabDeeds1
import Derived.Test.YtigkhilgnaecjabSum1
namespace Go.Proofs.Ytigkhilgnaecjab
open Go.ChangeShapes Go.WideShapes Go.ChangeAt Go.RowKit
set_option linter.unusedVariables false
set_option maxRecDepth 100000

def one (b : Bool) : Int := if b then 1 else 0
def gTookIn (f t : Int) (x : DeedD) : Int := if whenB f t x then x.took else 0
def gKeptIn (f t : Int) (x : DeedD) : Int := if whenB f t x && x.keep then x.n else 0
theorem sum_step {α : Type} (g : α → Int) {l : List α} {k : Nat} (h : k < l.length) : sumI g (l.take (k + 1)) = addI (sumI g (l.take k)) (g l[k]) := fold_snoc' h
theorem wrap_wrap (x : Int) : wrap64 (wrap64 x + 0) = wrap64 x := by unfold wrap64; omega
theorem sum_zero {α : Type} (g : α → Int) (l : List α) : addI (sumI g l) 0 = sumI g l := by
  have h : ∀ (l : List α) (s : Int), addI s 0 = s → addI (l.foldl (fun s x => addI s (g x)) s) 0 = l.foldl (fun s x => addI s (g x)) s := by
    intro l
    induction l with
    | nil => intro s h; exact h
    | cons a r ih => intro s _; exact ih _ (wrap_wrap _)
  exact h l 0 (by unfold addI wrap64; rfl)
set_option maxHeartbeats 2000000 in
theorem specTookIn (l : List DeedD) (f t : Int) (S0 : Nat → Prop) (v0 : Value) (w : World) (h0 : LAt 20 deedR w S0 v0 l) (b0 : bulkL deedBulk l ≤ 1048576) :
    Calls Try.prog 73 #[v0, .int .i64 f, .int .i64 t] w fun e w' => e = .returned (.int .i64 (sumI (gTookIn f t) l)) ∧ Below w.heap.size w w' := by
  obtain ⟨a, cap, rfl⟩ := h0.form
  have hlen := bulkL_len deedBulk l
  have HA := hide h0
  clear h0
  go_enter Try.func73, Try.ntmps73
  go_wp2
  go_loopw [7, 8] (fun n i wk => ∃ k : Nat, k ≤ l.length ∧ i = .int .i64 k ∧ n = .int .i64 (sumI (gTookIn f t) (l.take k)) ∧ Below w.heap.size w wk) (fun _ i _ => l.length - (intOf i).toNat)
  case atStart => exact ⟨0, Nat.zero_le _, rfl, rfl, Below.refl _ _⟩
  case round =>
    obtain ⟨k, hk, rfl, rfl, hbl⟩ := hrel
    by_cases hlt : k < l.length
    · have hki : (k : Int) < (l.length : Int) := by omega
      obtain ⟨b, o, cs, rfl, hbk, hSb, hcs, hin⟩ := (unhide HA).at k hlt
      have hcs := deedR_keeps _ _ S0 None1 cs _ (Below.turn hbl) none_off hcs
      have hin := hin.turn hbk (Below.turn hbl) (fun e => e)
      have hXb : deedBulk l[k] ≤ 1048576 := by have := bulkL_mem deedBulk (List.getElem_mem hlt); omega
      have HS := hide (sum_step (gTookIn f t) hlt)
      have HZ := hide (sum_zero (gTookIn f t) (l.take k))
      generalize l[k] = x at *
      generalize sumI (gTookIn f t) (l.take k) = Y at *
      have hrw : RowT Try.prog 94 cs.length := by rw [deedR_len hcs]; exact rowIDeed
      have hbs := hbl.size
      have hbk2 := Nat.lt_of_lt_of_le hbk hbs
      go_wp2_with (first | (refine wpl_load rfl 94 _ rfl _ _ rfl cs hin hrw ?_))
      have hq := specWhen x f t S0 cs _ hcs hXb
      cases hp : whenB f t x
      · rw [hp] at hq
        refine hq.mono ?_
        rintro e w1 ⟨rfl, hb1⟩
        clear hq
        have hbl := bthen hbl hb1
        have HG := hide (show gTookIn f t x = 0 by simp [gTookIn, hp])
        go_wp2
        go_roundw
        case rel => exact ⟨k + 1, by omega, by go_num, by rw [unhide HS, unhide HG, unhide HZ], hbl⟩
        case measure => simp [intOf]; omega
      · rw [hp] at hq
        refine hq.mono ?_
        rintro e w1 ⟨rfl, hb1⟩
        clear hq
        have hin := hin.turn hbk2 (Below.turn hb1) (fun e => e)
        have hbl := bthen hbl hb1
        have p13 : World.cell? _ ⟨b, o + k * 20 + 13, none⟩ = some (.int .i64 x.took) := hin 13 _ (deedR_c13 hcs)
        clear hin
        have HG := hide (show gTookIn f t x = x.took by simp [gTookIn, hp])
        go_wp2
        go_roundw
        case rel => exact ⟨k + 1, by omega, by go_num, by rw [unhide HS, unhide HG]; rfl, hbl⟩
        case measure => simp [intOf]; omega
    · have hki : ¬ (k : Int) < (l.length : Int) := by omega
      obtain rfl : k = l.length := by omega
      have HT := hide (show l.take l.length = l from List.take_length)
      go_wp2
      go_ret
      exact ⟨by rw [← unhide HT]; simp, hbl⟩
end Go.Proofs.Ytigkhilgnaecjab
