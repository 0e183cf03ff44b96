/-
  slices.symMergeCmpFunc at ints: two runs, one behind the other, become one.
-/
import Derived.Test.YtopngelgpfjdeaaStab1
import Derived.Sort.Walk0
import Derived.Laws.Shifts
import Derived.Deep.CutRange
namespace Go.Proofs.Ytopngelgpfjdeaa
open Go.Shelf Go.RowKit Go.Lib Go.Sort
set_option linter.unusedVariables false
set_option maxRecDepth 100000

set_option maxHeartbeats 64000000 in
set_option maxRecDepth 1000000 in
theorem stSymMerge (key : Nat → Int) (enc : Nat → Value) (cf : Nat → Nat → Int) (hcf : Aside (∀ x y, (cf x y < 0) = (key x < key y))) (g : Nat) (cb : Array Value) (blk off cap : Nat) (d0 : Array Nat) (w0 : World)
    (eg : ∀ args w, (callFunc g args).run Try.prog w = .ok (.enter g args) w) (hcmp : CmpLays1 Try.prog g cb enc cf blk off d0.size w0) (R : Row1 enc w0 blk off d0) :
    ∀ (N a m b : Nat) (d : Array Nat) (w : World), b - a < N → d0.size = d.size → SW enc w0 blk off d w → a < m → m < b → b ≤ d.size → d.size < 1152921504606846976 → Asc key a m d → Asc key m b d → Low a m b d →
    Calls Try.prog 171 #[.slice (some ⟨blk, off, none⟩) d.size cap, .int .i64 a, .int .i64 m, .int .i64 b, .func (.func g) #[] cb] w fun e w' => e = .returned (.tuple #[]) ∧ ∃ d', PermAll a b d d' ∧ Asc key a b d' ∧ SW enc w0 blk off d' w' := by
  have hcl0 := R.hO.cells
  simp only [Value.cells] at hcl0
  have hst := R.hO.store Try.prog
  have mixed : Try.prog.follows .mixedOrders = true := by kernel_rfl
  have HC : Aside _ := hcmp
  clear hcmp
  intro N
  induction N with
  | zero => intro _ _ _ _ _ h; exact absurd h (Nat.not_lt_zero _)
  | succ N ih =>
  intro a m b d w hN hs S ham hmb hb hsz hA1 hA2 hLo
  have S0 : Aside (SW enc w0 blk off d w) := S
  have A1 : Aside _ := hA1
  have A2 : Aside _ := hA2
  have LO : Aside _ := hLo
  have IH : Aside _ := ih
  clear S hA1 hA2 hLo ih
  go_enter Try.func171, Try.ntmps171
  by_cases hma : m = a + 1
  · have zma : (m : Int) - (a : Int) = 1 := by omega
    have MA : Aside _ := hma
    clear hma
    obtain ⟨lo0, hlo0'⟩ : ∃ q, q = m := ⟨_, rfl⟩
    obtain ⟨hi0, hhi0'⟩ : ∃ q, q = b := ⟨_, rfl⟩
    have hlo0 : Aside _ := hlo0'
    have hhi0 : Aside _ := hhi0'
    have k1 : lo0 ≤ m := by omega
    have k2 : m ≤ lo0 := by omega
    have k3 : hi0 ≤ b := by omega
    have k4 : b ≤ hi0 := by omega
    clear hlo0' hhi0'
    go_wp2
    go_loopg [10, 11] (hi0 - lo0) (fun g1 v1 v2 wr => ∃ (i j : Nat), v1 = .int .i64 i ∧ v2 = .int .i64 j ∧ lo0 ≤ i ∧ i ≤ j ∧ j ≤ hi0 ∧ j - i ≤ g1 ∧ Aside (SW enc w0 blk off d wr) ∧ Aside ((i = lo0 ∨ key d[i - 1]! < key d[a]!) ∧ (j = hi0 ∨ ¬ key d[j]! < key d[a]!)))
    case atStart => exact ⟨lo0, hi0, by rw [hlo0.out], by rw [hhi0.out], Nat.le_refl _, by omega, Nat.le_refl _, Nat.le_refl _, S0, ⟨Or.inl rfl, Or.inl rfl⟩⟩
    case round =>
      clear S0
      obtain ⟨i, j, rfl, rfl, hli, hij, hjh, hg1, S1, HO⟩ := hrel
      by_cases hlt : i < j
      · have hltz : (i : Int) < (j : Int) := by omega
        obtain ⟨h, hh⟩ : ∃ q, q = (i + j) / 2 := ⟨_, rfl⟩
        have hh1 : i ≤ h := by omega
        have hh2 : h < j := by omega
        have zh : ((i : Int) + (j : Int)) / 2 = (h : Int) := by omega
        clear hh
        by_cases hv : key d[h]! < key d[a]!
        · have HV : Aside (key d[h]! < key d[a]!) := hv
          clear hv
          obtain ⟨iNA1, hiNA1⟩ : ∃ q, q = h := ⟨_, rfl⟩
          obtain ⟨jNA1, hjNA1⟩ : ∃ q, q = a := ⟨_, rfl⟩
          have eaA1 : ((h : Int)).toNat = iNA1 := by omega
          have paA1 : (0 : Int) ≤ (h : Int) := by omega
          have baA1 : (h : Int) < (d.size : Int) := by omega
          have raA1 : IntKind.i64.wrap ((h : Int)) = (h : Int) := by rw [IntKind.wrap_i64]; omega
          have ecA1 : ((a : Int)).toNat = jNA1 := by omega
          have pcA1 : (0 : Int) ≤ (a : Int) := by omega
          have bcA1 : (a : Int) < (d.size : Int) := by omega
          have rcA1 : IntKind.i64.wrap ((a : Int)) = (a : Int) := by rw [IntKind.wrap_i64]; omega
          obtain ⟨xA1, hxA1⟩ : ∃ x, x = d[h]! := ⟨_, rfl⟩
          obtain ⟨yA1, hyA1⟩ : ∃ x, x = d[a]! := ⟨_, rfl⟩
          have lA1a := S1.out.cl R (by omega) (h) (by omega)
          have lA1b := S1.out.cl R (by omega) (a) (by omega)
          rw [← hxA1, ← hiNA1] at lA1a
          rw [← hyA1, ← hjNA1] at lA1b
          have hcA1 := S1.out.cmp HC.out (by omega) xA1 yA1
          have hvA1 : cf xA1 yA1 < 0 := by rw [hcf.out, hxA1, hyA1]; exact HV.out
          have hdA1 : decide (cf xA1 yA1 < 0) = true := decide_eq_true hvA1
          clear hxA1 hyA1 hiNA1 hjNA1
          go_wp2_with fail
          go_quiet_grown (first | (go_at_fn g; refine Calls.grown_of (hcA1 _ _)))
          have S2 : Aside (SW enc w0 blk off d (grow (wr.drewN nq) osq)) := S1.out.grown nq osq
          clear lA1a lA1b hcA1
          generalize grow (wr.drewN nq) osq = w2 at S2 ⊢
          clear nq osq
          clear eaA1 ecA1 paA1 pcA1 baA1 bcA1 raA1 rcA1
          go_wp2
          go_roundg (j - (h + 1))
          case measure => omega
          case rel => exact ⟨h + 1, j, by go_num, rfl, by omega, by omega, by omega, Nat.le_refl _, S2, ⟨Or.inr (by rw [show h + 1 - 1 = h by omega]; exact HV.out), HO.out.2⟩⟩
        · have HV : Aside (¬ key d[h]! < key d[a]!) := hv
          clear hv
          obtain ⟨iNA2, hiNA2⟩ : ∃ q, q = h := ⟨_, rfl⟩
          obtain ⟨jNA2, hjNA2⟩ : ∃ q, q = a := ⟨_, rfl⟩
          have eaA2 : ((h : Int)).toNat = iNA2 := by omega
          have paA2 : (0 : Int) ≤ (h : Int) := by omega
          have baA2 : (h : Int) < (d.size : Int) := by omega
          have raA2 : IntKind.i64.wrap ((h : Int)) = (h : Int) := by rw [IntKind.wrap_i64]; omega
          have ecA2 : ((a : Int)).toNat = jNA2 := by omega
          have pcA2 : (0 : Int) ≤ (a : Int) := by omega
          have bcA2 : (a : Int) < (d.size : Int) := by omega
          have rcA2 : IntKind.i64.wrap ((a : Int)) = (a : Int) := by rw [IntKind.wrap_i64]; omega
          obtain ⟨xA2, hxA2⟩ : ∃ x, x = d[h]! := ⟨_, rfl⟩
          obtain ⟨yA2, hyA2⟩ : ∃ x, x = d[a]! := ⟨_, rfl⟩
          have lA2a := S1.out.cl R (by omega) (h) (by omega)
          have lA2b := S1.out.cl R (by omega) (a) (by omega)
          rw [← hxA2, ← hiNA2] at lA2a
          rw [← hyA2, ← hjNA2] at lA2b
          have hcA2 := S1.out.cmp HC.out (by omega) xA2 yA2
          have hvA2 : ¬ cf xA2 yA2 < 0 := by rw [hcf.out, hxA2, hyA2]; exact HV.out
          have hdA2 : decide (cf xA2 yA2 < 0) = false := decide_eq_false hvA2
          clear hxA2 hyA2 hiNA2 hjNA2
          go_wp2_with fail
          go_quiet_grown (first | (go_at_fn g; refine Calls.grown_of (hcA2 _ _)))
          have S2 : Aside (SW enc w0 blk off d (grow (wr.drewN nq) osq)) := S1.out.grown nq osq
          clear lA2a lA2b hcA2
          generalize grow (wr.drewN nq) osq = w2 at S2 ⊢
          clear nq osq
          clear eaA2 ecA2 paA2 pcA2 baA2 bcA2 raA2 rcA2
          go_wp2
          go_roundg (h - i)
          case measure => omega
          case rel => exact ⟨i, h, rfl, rfl, by omega, by omega, by omega, Nat.le_refl _, S2, ⟨HO.out.1, Or.inr HV.out⟩⟩
      · have hltz : ¬ (i : Int) < (j : Int) := by omega
        have hjF : j = i := by omega
        have HJ : Aside _ := hjF
        clear hjF
        go_wp2
        obtain ⟨q, hq⟩ : ∃ q, q = i - 1 := ⟨_, rfl⟩
        have zq : (i : Int) - 1 = (q : Int) := by omega
        go_loopg [13] (q - a) (fun g2 v3 wrX => ∃ (k : Nat) (dk : Array Nat), v3 = .int .i64 k ∧ a ≤ k ∧ k ≤ q ∧ q - k ≤ g2 ∧ dk.size = d.size ∧ Aside (SW enc w0 blk off dk wrX) ∧ Aside (Rot a (a + 1) (k + 1) d dk) ∧ Aside (PermAll a b d dk))
        case atStart => exact ⟨a, d, rfl, Nat.le_refl _, by omega, Nat.le_refl _, rfl, S1, Rot.upStart a d, PermAll.refl _ _ _⟩
        case round =>
          clear S1
          obtain ⟨k, dk, rfl, hak, hkq, hg2, hsk, S2, HR, HP⟩ := hrel
          by_cases hk : k < q
          · have hkz : (k : Int) < (i : Int) - 1 := by omega
            have hkz' : (k : Int) < (q : Int) := by omega
            obtain ⟨iNA3, hiNA3⟩ : ∃ q, q = k := ⟨_, rfl⟩
            obtain ⟨jNA3, hjNA3⟩ : ∃ q, q = k + 1 := ⟨_, rfl⟩
            have eaA3 : ((k : Int)).toNat = iNA3 := by omega
            have paA3 : (0 : Int) ≤ (k : Int) := by omega
            have baA3 : (k : Int) < (d.size : Int) := by omega
            have raA3 : IntKind.i64.wrap ((k : Int)) = (k : Int) := by rw [IntKind.wrap_i64]; omega
            have ecA3 : ((k : Int) + 1).toNat = jNA3 := by omega
            have pcA3 : (0 : Int) ≤ (k : Int) + 1 := by omega
            have bcA3 : (k : Int) + 1 < (d.size : Int) := by omega
            have rcA3 : IntKind.i64.wrap ((k : Int) + 1) = (k : Int) + 1 := by rw [IntKind.wrap_i64]; omega
            obtain ⟨xA3, hxA3⟩ : ∃ x, x = dk[k]! := ⟨_, rfl⟩
            obtain ⟨yA3, hyA3⟩ : ∃ x, x = dk[k + 1]! := ⟨_, rfl⟩
            have S3 : Aside (SW enc w0 blk off (swp dk (k) (k + 1)) ((wr.setCell ⟨blk, off + iNA3, none⟩ (enc yA3)).setCell ⟨blk, off + jNA3, none⟩ (enc xA3)).drew) := by rw [hiNA3, hjNA3, hxA3, hyA3]; exact S2.out.swapped R (k) (k + 1) (by omega) (by omega)
            have caA3 := S2.out.c1 R (by omega) (k) (by omega)
            have cbA3 := S2.out.c1 R (by omega) (k + 1) (by omega)
            have faA3 := S2.out.f1 R (by omega) (k) (by omega)
            have fbA3 := S2.out.f1 R (by omega) (k + 1) (by omega)
            obtain ⟨uA3, ccA3⟩ := S2.out.c2 R (by omega) (k) (k + 1) (by omega) (by omega) (enc yA3)
            rw [← hjNA3, ← hiNA3] at ccA3
            rw [← hxA3, ← hiNA3] at caA3
            rw [← hyA3, ← hjNA3] at cbA3
            rw [← hiNA3] at faA3
            rw [← hjNA3] at fbA3
            clear S2 hxA3 hyA3 hiNA3 hjNA3
            go_wp2_with fail
            go_big_region_o
            clear caA3 cbA3 ccA3 faA3 fbA3
            generalize ((wr.setCell ⟨blk, off + iNA3, none⟩ (enc yA3)).setCell ⟨blk, off + jNA3, none⟩ (enc xA3)).drew = w3 at S3 ⊢
            clear eaA3 ecA3 paA3 pcA3 baA3 bcA3 raA3 rcA3
            go_wp2
            go_roundg (q - (k + 1))
            case measure => omega
            case rel => exact ⟨k + 1, swp dk k (k + 1), by go_num, by omega, by omega, Nat.le_refl _, by rw [size_swp]; exact hsk, S3, Rot.up HR.out hak (by omega), HP.out.swap hb k (k + 1) ⟨by omega, by omega⟩ ⟨by omega, by omega⟩⟩
          · have hkz : ¬ (k : Int) < (i : Int) - 1 := by omega
            have hkz' : ¬ (k : Int) < (q : Int) := by omega
            go_wp2
            (try simp only [Exit.inBlock, Exit.then])
            refine bodyPost_ret (results_none rfl _ _ _) rfl ?_
            refine ⟨rfl, dk, HP.out, ?_, S2.out⟩
            have hr := HR.out
            rw [show k + 1 = i by omega, ← MA.out] at hr
            refine firstDone (e := i) MA.out A1.out A2.out LO.out (by omega) (by omega) ?_ ?_ hr hb
            · rcases HO.out.1 with h | h
              · exact Or.inl (by omega)
              · exact Or.inr (by omega)
            · have h2 := HO.out.2
              rw [HJ.out] at h2
              rcases h2 with h | h
              · exact Or.inl (by omega)
              · exact Or.inr (by omega)
  · have zma : ¬ (m : Int) - (a : Int) = 1 := by omega
    have bma : (((m : Int) - (a : Int)) == 1) = false := by simp only [beq_eq_false_iff_ne, ne_eq]; exact zma
    by_cases hbm : b = m + 1
    · have zbm : (b : Int) - (m : Int) = 1 := by omega
      have MB : Aside _ := hbm
      clear hbm
      obtain ⟨lo0, hlo0'⟩ : ∃ q, q = a := ⟨_, rfl⟩
      obtain ⟨hi0, hhi0'⟩ : ∃ q, q = m := ⟨_, rfl⟩
      have hlo0 : Aside _ := hlo0'
      have hhi0 : Aside _ := hhi0'
      have k1 : lo0 ≤ a := by omega
      have k2 : a ≤ lo0 := by omega
      have k3 : hi0 ≤ m := by omega
      have k4 : m ≤ hi0 := by omega
      clear hlo0' hhi0'
      go_wp2
      go_loopg [14, 15] (hi0 - lo0) (fun g1 v1 v2 wr => ∃ (i j : Nat), v1 = .int .i64 i ∧ v2 = .int .i64 j ∧ lo0 ≤ i ∧ i ≤ j ∧ j ≤ hi0 ∧ j - i ≤ g1 ∧ Aside (SW enc w0 blk off d wr) ∧ Aside ((i = lo0 ∨ ¬ key d[m]! < key d[i - 1]!) ∧ (j = hi0 ∨ key d[m]! < key d[j]!)))
      case atStart => exact ⟨lo0, hi0, by rw [hlo0.out], by rw [hhi0.out], Nat.le_refl _, by omega, Nat.le_refl _, Nat.le_refl _, S0, ⟨Or.inl rfl, Or.inl rfl⟩⟩
      case round =>
        clear S0
        obtain ⟨i, j, rfl, rfl, hli, hij, hjh, hg1, S1, HO⟩ := hrel
        by_cases hlt : i < j
        · have hltz : (i : Int) < (j : Int) := by omega
          obtain ⟨h, hh⟩ : ∃ q, q = (i + j) / 2 := ⟨_, rfl⟩
          have hh1 : i ≤ h := by omega
          have hh2 : h < j := by omega
          have zh : ((i : Int) + (j : Int)) / 2 = (h : Int) := by omega
          clear hh
          by_cases hv : key d[m]! < key d[h]!
          · have HV : Aside (key d[m]! < key d[h]!) := hv
            clear hv
            obtain ⟨iNB1, hiNB1⟩ : ∃ q, q = m := ⟨_, rfl⟩
            obtain ⟨jNB1, hjNB1⟩ : ∃ q, q = h := ⟨_, rfl⟩
            have eaB1 : ((m : Int)).toNat = iNB1 := by omega
            have paB1 : (0 : Int) ≤ (m : Int) := by omega
            have baB1 : (m : Int) < (d.size : Int) := by omega
            have raB1 : IntKind.i64.wrap ((m : Int)) = (m : Int) := by rw [IntKind.wrap_i64]; omega
            have ecB1 : ((h : Int)).toNat = jNB1 := by omega
            have pcB1 : (0 : Int) ≤ (h : Int) := by omega
            have bcB1 : (h : Int) < (d.size : Int) := by omega
            have rcB1 : IntKind.i64.wrap ((h : Int)) = (h : Int) := by rw [IntKind.wrap_i64]; omega
            obtain ⟨xB1, hxB1⟩ : ∃ x, x = d[m]! := ⟨_, rfl⟩
            obtain ⟨yB1, hyB1⟩ : ∃ x, x = d[h]! := ⟨_, rfl⟩
            have lB1a := S1.out.cl R (by omega) (m) (by omega)
            have lB1b := S1.out.cl R (by omega) (h) (by omega)
            rw [← hxB1, ← hiNB1] at lB1a
            rw [← hyB1, ← hjNB1] at lB1b
            have hcB1 := S1.out.cmp HC.out (by omega) xB1 yB1
            have hvB1 : cf xB1 yB1 < 0 := by rw [hcf.out, hxB1, hyB1]; exact HV.out
            have hdB1 : decide (cf xB1 yB1 < 0) = true := decide_eq_true hvB1
            clear hxB1 hyB1 hiNB1 hjNB1
            go_wp2_with fail
            go_quiet_grown (first | (go_at_fn g; refine Calls.grown_of (hcB1 _ _)))
            have S2 : Aside (SW enc w0 blk off d (grow (wr.drewN nq) osq)) := S1.out.grown nq osq
            clear lB1a lB1b hcB1
            generalize grow (wr.drewN nq) osq = w2 at S2 ⊢
            clear nq osq
            clear eaB1 ecB1 paB1 pcB1 baB1 bcB1 raB1 rcB1
            go_wp2
            go_roundg (h - i)
            case measure => omega
            case rel => exact ⟨i, h, rfl, rfl, by omega, by omega, by omega, Nat.le_refl _, S2, ⟨HO.out.1, Or.inr HV.out⟩⟩
          · have HV : Aside (¬ key d[m]! < key d[h]!) := hv
            clear hv
            obtain ⟨iNB2, hiNB2⟩ : ∃ q, q = m := ⟨_, rfl⟩
            obtain ⟨jNB2, hjNB2⟩ : ∃ q, q = h := ⟨_, rfl⟩
            have eaB2 : ((m : Int)).toNat = iNB2 := by omega
            have paB2 : (0 : Int) ≤ (m : Int) := by omega
            have baB2 : (m : Int) < (d.size : Int) := by omega
            have raB2 : IntKind.i64.wrap ((m : Int)) = (m : Int) := by rw [IntKind.wrap_i64]; omega
            have ecB2 : ((h : Int)).toNat = jNB2 := by omega
            have pcB2 : (0 : Int) ≤ (h : Int) := by omega
            have bcB2 : (h : Int) < (d.size : Int) := by omega
            have rcB2 : IntKind.i64.wrap ((h : Int)) = (h : Int) := by rw [IntKind.wrap_i64]; omega
            obtain ⟨xB2, hxB2⟩ : ∃ x, x = d[m]! := ⟨_, rfl⟩
            obtain ⟨yB2, hyB2⟩ : ∃ x, x = d[h]! := ⟨_, rfl⟩
            have lB2a := S1.out.cl R (by omega) (m) (by omega)
            have lB2b := S1.out.cl R (by omega) (h) (by omega)
            rw [← hxB2, ← hiNB2] at lB2a
            rw [← hyB2, ← hjNB2] at lB2b
            have hcB2 := S1.out.cmp HC.out (by omega) xB2 yB2
            have hvB2 : ¬ cf xB2 yB2 < 0 := by rw [hcf.out, hxB2, hyB2]; exact HV.out
            have hdB2 : decide (cf xB2 yB2 < 0) = false := decide_eq_false hvB2
            clear hxB2 hyB2 hiNB2 hjNB2
            go_wp2_with fail
            go_quiet_grown (first | (go_at_fn g; refine Calls.grown_of (hcB2 _ _)))
            have S2 : Aside (SW enc w0 blk off d (grow (wr.drewN nq) osq)) := S1.out.grown nq osq
            clear lB2a lB2b hcB2
            generalize grow (wr.drewN nq) osq = w2 at S2 ⊢
            clear nq osq
            clear eaB2 ecB2 paB2 pcB2 baB2 bcB2 raB2 rcB2
            go_wp2
            go_roundg (j - (h + 1))
            case measure => omega
            case rel => exact ⟨h + 1, j, by go_num, rfl, by omega, by omega, by omega, Nat.le_refl _, S2, ⟨Or.inr (by rw [show h + 1 - 1 = h by omega]; exact HV.out), HO.out.2⟩⟩
        · have hltz : ¬ (i : Int) < (j : Int) := by omega
          have hjF : j = i := by omega
          have HJ : Aside _ := hjF
          clear hjF
          go_wp2
          go_loopg [17] (m - i) (fun g2 v3 wrX => ∃ (k : Nat) (dk : Array Nat), v3 = .int .i64 k ∧ i ≤ k ∧ k ≤ m ∧ k - i ≤ g2 ∧ dk.size = d.size ∧ Aside (SW enc w0 blk off dk wrX) ∧ Aside (Rot k m (m + 1) d dk) ∧ Aside (PermAll a b d dk))
          case atStart => exact ⟨m, d, rfl, by omega, Nat.le_refl _, Nat.le_refl _, rfl, S1, Rot.downStart m d, PermAll.refl _ _ _⟩
          case round =>
            clear S1
            obtain ⟨k, dk, rfl, hik, hkm, hg2, hsk, S2, HR, HP⟩ := hrel
            by_cases hk : i < k
            · obtain ⟨kp, rfl⟩ : ∃ q, k = q + 1 := ⟨k - 1, by omega⟩
              have hkz : (i : Int) < ((kp + 1 : Nat) : Int) := by omega
              have hkz' : (i : Int) < (kp : Int) + 1 := by omega
              obtain ⟨iNB3, hiNB3⟩ : ∃ q, q = kp + 1 := ⟨_, rfl⟩
              obtain ⟨jNB3, hjNB3⟩ : ∃ q, q = kp := ⟨_, rfl⟩
              have eaB3 : ((kp : Int) + 1).toNat = iNB3 := by omega
              have paB3 : (0 : Int) ≤ (kp : Int) + 1 := by omega
              have baB3 : (kp : Int) + 1 < (d.size : Int) := by omega
              have raB3 : IntKind.i64.wrap ((kp : Int) + 1) = (kp : Int) + 1 := by rw [IntKind.wrap_i64]; omega
              have ecB3 : ((kp : Int)).toNat = jNB3 := by omega
              have pcB3 : (0 : Int) ≤ (kp : Int) := by omega
              have bcB3 : (kp : Int) < (d.size : Int) := by omega
              have rcB3 : IntKind.i64.wrap ((kp : Int)) = (kp : Int) := by rw [IntKind.wrap_i64]; omega
              obtain ⟨xB3, hxB3⟩ : ∃ x, x = dk[kp + 1]! := ⟨_, rfl⟩
              obtain ⟨yB3, hyB3⟩ : ∃ x, x = dk[kp]! := ⟨_, rfl⟩
              have S3 : Aside (SW enc w0 blk off (swp dk (kp + 1) (kp)) ((wr.setCell ⟨blk, off + iNB3, none⟩ (enc yB3)).setCell ⟨blk, off + jNB3, none⟩ (enc xB3)).drew) := by rw [hiNB3, hjNB3, hxB3, hyB3]; exact S2.out.swapped R (kp + 1) (kp) (by omega) (by omega)
              have caB3 := S2.out.c1 R (by omega) (kp + 1) (by omega)
              have cbB3 := S2.out.c1 R (by omega) (kp) (by omega)
              have faB3 := S2.out.f1 R (by omega) (kp + 1) (by omega)
              have fbB3 := S2.out.f1 R (by omega) (kp) (by omega)
              obtain ⟨uB3, ccB3⟩ := S2.out.c2 R (by omega) (kp + 1) (kp) (by omega) (by omega) (enc yB3)
              rw [← hiNB3, ← hjNB3] at ccB3
              rw [← hxB3, ← hiNB3] at caB3
              rw [← hyB3, ← hjNB3] at cbB3
              rw [← hiNB3] at faB3
              rw [← hjNB3] at fbB3
              clear S2 hxB3 hyB3 hiNB3 hjNB3
              go_wp2_with fail
              go_big_region_o
              clear caB3 cbB3 ccB3 faB3 fbB3
              generalize ((wr.setCell ⟨blk, off + iNB3, none⟩ (enc yB3)).setCell ⟨blk, off + jNB3, none⟩ (enc xB3)).drew = w3 at S3 ⊢
              clear eaB3 ecB3 paB3 pcB3 baB3 bcB3 raB3 rcB3
              go_wp2
              go_roundg (kp - i)
              case measure => omega
              case rel => exact ⟨kp, swp dk (kp + 1) kp, by first | rfl | go_num | (congr 1; omega), by omega, by omega, Nat.le_refl _, by rw [size_swp]; exact hsk, S3, Rot.down HR.out (by omega) (by omega), HP.out.swap hb (kp + 1) kp ⟨by omega, by omega⟩ ⟨by omega, by omega⟩⟩
            · have hkz : ¬ (i : Int) < (k : Int) := by omega
              go_wp2
              (try simp only [Exit.inBlock, Exit.then])
              refine bodyPost_ret (results_none rfl _ _ _) rfl ?_
              refine ⟨rfl, dk, HP.out, ?_, S2.out⟩
              have hr := HR.out
              rw [show k = i by omega, ← MB.out] at hr
              refine lastDone (s := i) MB.out A1.out A2.out LO.out (by omega) (by omega) ?_ ?_ hr hb
              · rcases HO.out.1 with h | h
                · exact Or.inl (by omega)
                · exact Or.inr (by omega)
              · have h2 := HO.out.2
                rw [HJ.out] at h2
                rcases h2 with h | h
                · exact Or.inl (by omega)
                · exact Or.inr (by omega)
    · have zbm : ¬ (b : Int) - (m : Int) = 1 := by omega
      have bbm : (((b : Int) - (m : Int)) == 1) = false := by simp only [beq_eq_false_iff_ne, ne_eq]; exact zbm
      obtain ⟨mid, hmid⟩ : ∃ q, q = (a + b) / 2 := ⟨_, rfl⟩
      have zmid : ((a : Int) + (b : Int)) / 2 = (mid : Int) := by omega
      have hmid1 : a < mid := by omega
      have hmid2 : mid < b := by omega
      have hmid3 : 2 * mid ≤ a + b := by omega
      have hmid4 : a + b ≤ 2 * mid + 1 := by omega
      have MID : Aside _ := hmid
      clear hmid
      obtain ⟨s0, r0, hE⟩ : ∃ s0 r0, Ends a m b mid s0 r0 := by
        by_cases h : mid < m
        · exact ⟨mid + m - b, mid, Or.inl ⟨h, by omega, rfl⟩⟩
        · exact ⟨a, m, Or.inr ⟨by omega, rfl, rfl⟩⟩
      have e1 : a ≤ s0 := by unfold Ends at hE; omega
      have e2 : mid + m ≤ s0 + b := by unfold Ends at hE; omega
      have e3 : r0 ≤ mid := by unfold Ends at hE; omega
      have e4 : r0 ≤ m := by unfold Ends at hE; omega
      have e5 : s0 ≤ r0 := by unfold Ends at hE; omega
      have HE : Aside _ := hE
      clear hE
      go_upto_if 140 with fail
      go_cut [18, 19, 20, 21] from 25 to 219 (fun s18 s19 s20 s21 wc => s18 = .int .i64 mid ∧ s19 = .int .i64 ((mid : Int) + (m : Int)) ∧ s20 = .int .i64 s0 ∧ s21 = .int .i64 r0 ∧ wc = w)
      case first =>
        by_cases h : mid < m
        · have hz : (mid : Int) < (m : Int) := by omega
          have hz' : ((a : Int) + (b : Int)) / 2 < (m : Int) := by omega
          go_wp2_with fail
          go_meet
          case rel =>
            have hE := HE.out
            unfold Ends at hE
            exact ⟨rfl, rfl, by congr 1; omega, by congr 1; omega, rfl⟩
        · have hz : ¬ (mid : Int) < (m : Int) := by omega
          have hz' : ¬ ((a : Int) + (b : Int)) / 2 < (m : Int) := by omega
          go_wp2_with fail
          go_meet
          case rel =>
            have hE := HE.out
            unfold Ends at hE
            exact ⟨rfl, rfl, by congr 1; omega, by congr 1; omega, rfl⟩
      case rest =>
      obtain ⟨rfl, rfl, rfl, rfl, rfl⟩ := hcut
      clear zmid
      go_wp2
      go_loopg [20, 21] (r0 - s0) (fun g1 v1 v2 wr => ∃ (i j : Nat), v1 = .int .i64 i ∧ v2 = .int .i64 j ∧ s0 ≤ i ∧ i ≤ j ∧ j ≤ r0 ∧ j - i ≤ g1 ∧ Aside (SW enc w0 blk off d wr) ∧ Aside ((i = s0 ∨ ¬ key d[mid + m - i]! < key d[i - 1]!) ∧ (j = r0 ∨ key d[mid + m - 1 - j]! < key d[j]!)))
      case atStart => exact ⟨s0, r0, rfl, rfl, Nat.le_refl _, e5, Nat.le_refl _, Nat.le_refl _, S0, ⟨Or.inl rfl, Or.inl rfl⟩⟩
      case round =>
        clear S0
        obtain ⟨i, j, rfl, rfl, hli, hij, hjh, hg1, S1, HO⟩ := hrel
        by_cases hlt : i < j
        · have hltz : (i : Int) < (j : Int) := by omega
          obtain ⟨h, hh⟩ : ∃ q, q = (i + j) / 2 := ⟨_, rfl⟩
          have hh1 : i ≤ h := by omega
          have hh2 : h < j := by omega
          have zh : ((i : Int) + (j : Int)) / 2 = (h : Int) := by omega
          clear hh
          obtain ⟨p, hp⟩ : ∃ q, q = mid + m - 1 - h := ⟨_, rfl⟩
          have zp : (mid : Int) + (m : Int) - 1 - (h : Int) = (p : Int) := by omega
          have hp1 : p < d.size := by omega
          have PC : Aside _ := hp
          clear hp
          by_cases hv : key d[p]! < key d[h]!
          · have HV : Aside (key d[p]! < key d[h]!) := hv
            clear hv
            obtain ⟨iNC1, hiNC1⟩ : ∃ q, q = p := ⟨_, rfl⟩
            obtain ⟨jNC1, hjNC1⟩ : ∃ q, q = h := ⟨_, rfl⟩
            have eaC1 : ((p : Int)).toNat = iNC1 := by omega
            have paC1 : (0 : Int) ≤ (p : Int) := by omega
            have baC1 : (p : Int) < (d.size : Int) := by omega
            have raC1 : IntKind.i64.wrap ((p : Int)) = (p : Int) := by rw [IntKind.wrap_i64]; omega
            have ecC1 : ((h : Int)).toNat = jNC1 := by omega
            have pcC1 : (0 : Int) ≤ (h : Int) := by omega
            have bcC1 : (h : Int) < (d.size : Int) := by omega
            have rcC1 : IntKind.i64.wrap ((h : Int)) = (h : Int) := by rw [IntKind.wrap_i64]; omega
            obtain ⟨xC1, hxC1⟩ : ∃ x, x = d[p]! := ⟨_, rfl⟩
            obtain ⟨yC1, hyC1⟩ : ∃ x, x = d[h]! := ⟨_, rfl⟩
            have lC1a := S1.out.cl R (by omega) (p) (by omega)
            have lC1b := S1.out.cl R (by omega) (h) (by omega)
            rw [← hxC1, ← hiNC1] at lC1a
            rw [← hyC1, ← hjNC1] at lC1b
            have hcC1 := S1.out.cmp HC.out (by omega) xC1 yC1
            have hvC1 : cf xC1 yC1 < 0 := by rw [hcf.out, hxC1, hyC1]; exact HV.out
            have hdC1 : decide (cf xC1 yC1 < 0) = true := decide_eq_true hvC1
            clear hxC1 hyC1 hiNC1 hjNC1
            go_wp2_with fail
            go_quiet_grown (first | (go_at_fn g; refine Calls.grown_of (hcC1 _ _)))
            have S2 : Aside (SW enc w0 blk off d (grow (wr.drewN nq) osq)) := S1.out.grown nq osq
            clear lC1a lC1b hcC1
            generalize grow (wr.drewN nq) osq = w2 at S2 ⊢
            clear nq osq
            clear eaC1 ecC1 paC1 pcC1 baC1 bcC1 raC1 rcC1
            go_wp2
            go_roundg (h - i)
            case measure => omega
            case rel => exact ⟨i, h, rfl, rfl, by omega, by omega, by omega, Nat.le_refl _, S2, ⟨HO.out.1, Or.inr (by rw [← PC.out]; exact HV.out)⟩⟩
          · have HV : Aside (¬ key d[p]! < key d[h]!) := hv
            clear hv
            obtain ⟨iNC2, hiNC2⟩ : ∃ q, q = p := ⟨_, rfl⟩
            obtain ⟨jNC2, hjNC2⟩ : ∃ q, q = h := ⟨_, rfl⟩
            have eaC2 : ((p : Int)).toNat = iNC2 := by omega
            have paC2 : (0 : Int) ≤ (p : Int) := by omega
            have baC2 : (p : Int) < (d.size : Int) := by omega
            have raC2 : IntKind.i64.wrap ((p : Int)) = (p : Int) := by rw [IntKind.wrap_i64]; omega
            have ecC2 : ((h : Int)).toNat = jNC2 := by omega
            have pcC2 : (0 : Int) ≤ (h : Int) := by omega
            have bcC2 : (h : Int) < (d.size : Int) := by omega
            have rcC2 : IntKind.i64.wrap ((h : Int)) = (h : Int) := by rw [IntKind.wrap_i64]; omega
            obtain ⟨xC2, hxC2⟩ : ∃ x, x = d[p]! := ⟨_, rfl⟩
            obtain ⟨yC2, hyC2⟩ : ∃ x, x = d[h]! := ⟨_, rfl⟩
            have lC2a := S1.out.cl R (by omega) (p) (by omega)
            have lC2b := S1.out.cl R (by omega) (h) (by omega)
            rw [← hxC2, ← hiNC2] at lC2a
            rw [← hyC2, ← hjNC2] at lC2b
            have hcC2 := S1.out.cmp HC.out (by omega) xC2 yC2
            have hvC2 : ¬ cf xC2 yC2 < 0 := by rw [hcf.out, hxC2, hyC2]; exact HV.out
            have hdC2 : decide (cf xC2 yC2 < 0) = false := decide_eq_false hvC2
            clear hxC2 hyC2 hiNC2 hjNC2
            go_wp2_with fail
            go_quiet_grown (first | (go_at_fn g; refine Calls.grown_of (hcC2 _ _)))
            have S2 : Aside (SW enc w0 blk off d (grow (wr.drewN nq) osq)) := S1.out.grown nq osq
            clear lC2a lC2b hcC2
            generalize grow (wr.drewN nq) osq = w2 at S2 ⊢
            clear nq osq
            clear eaC2 ecC2 paC2 pcC2 baC2 bcC2 raC2 rcC2
            go_wp2
            go_roundg (j - (h + 1))
            case measure => omega
            case rel => exact ⟨h + 1, j, by go_num, rfl, by omega, by omega, by omega, Nat.le_refl _, S2, ⟨Or.inr (by rw [show h + 1 - 1 = h by omega, show mid + m - (h + 1) = mid + m - 1 - h by omega, ← PC.out]; exact HV.out), HO.out.2⟩⟩
        · have hltz : ¬ (i : Int) < (j : Int) := by omega
          have hjF : j = i := by omega
          have P : Aside (Parted key a m b i (mid + m - i) d) := by
            have h2 := HO.out.2
            rw [hjF] at h2
            exact splitDone A1.out A2.out LO.out ham hmb MID.out HE.out hli (by omega) HO.out.1 h2
          have him : i ≤ m := by omega
          have himid : i ≤ mid := by omega
          obtain ⟨e, he⟩ : ∃ e, e = mid + m - i := ⟨_, rfl⟩
          have P2 : Aside (Parted key a m b i e d) := by rw [he]; exact P
          have ze : (mid : Int) + (m : Int) - (i : Int) = (e : Int) := by omega
          have hme : m ≤ e := by omega
          have heb : e ≤ b := by omega
          have hmide : mid ≤ e := by omega
          have hsum : Aside (i + (e - m) = mid) := by show i + (e - m) = mid; omega
          clear hjF P he HO HE MID
          go_upto_region 39 with fail
          go_cut [185] from 178 to 219 (fun s wx => s = .bool (decide (i < m) && decide (m < e)) ∧ wx = wr)
          case first =>
            by_cases h1r : i < m
            · have z1r : (i : Int) < (m : Int) := by omega
              by_cases h2r : m < e
              · have z2r : (m : Int) < (e : Int) := by omega
                go_wp2_with fail
                go_meet
                exact ⟨by simp [h1r, h2r], rfl⟩
              · have z2r : ¬ (m : Int) < (e : Int) := by omega
                go_wp2_with fail
                go_meet
                exact ⟨by simp [h1r, h2r], rfl⟩
            · have z1r : ¬ (i : Int) < (m : Int) := by omega
              go_wp2_with fail
              go_meet
              exact ⟨by simp [h1r], rfl⟩
          case rest =>
          obtain ⟨rfl, rfl⟩ := hcut
          go_upto_if 185 with fail
          go_cut [185] from 178 to 219 (fun s wx => ∃ d1, Aside (Rot i m e d d1 ∧ PermAll a b d d1 ∧ SW enc w0 blk off d1 wx))
          case first =>
            by_cases hrot : i < m ∧ m < e
            · have hc := stRotate enc g cb blk off cap i m e d0 d w0 _ R hs S1.out hrot.1 hrot.2 (by omega) hsz
              have hdt : (decide (i < m) && decide (m < e)) = true := by simp [hrot.1, hrot.2]
              rw [hdt]
              clear hdt
              have heb' : Aside (e ≤ b) := heb
              go_wp2_with fail
              refine hc.mono ?_
              rintro e1 w1 ⟨rfl, d1, h1, h2, hw1⟩
              go_wp2_with fail
              go_meet
              exact ⟨d1, ⟨h1, h2.wide (by omega) (by omega), hw1⟩⟩
            · have hdt : (decide (i < m) && decide (m < e)) = false := by
                by_cases h1 : i < m <;> by_cases h2 : m < e <;> simp [h1, h2]
                exact hrot ⟨h1, h2⟩
              rw [hdt]
              clear hdt
              go_wp2_with fail
              go_meet
              exact ⟨d, ⟨Rot.none (by omega) him hme, PermAll.refl _ _ _, S1.out⟩⟩
          case rest =>
          obtain ⟨d1, Q1⟩ := hcut
          clear S1
          have hs1 : Aside (d1.size = d.size) := Q1.out.1.1
          have L1 : Aside (Asc key a i d1 ∧ Asc key i mid d1 ∧ Low a i mid d1) := by
            have := P2.out.left Q1.out.1
            rw [hsum.out] at this
            exact this
          have L2 : Aside (Asc key mid e d1 ∧ Asc key e b d1 ∧ Low mid e b d1) := by
            have := P2.out.right Q1.out.1
            rw [hsum.out] at this
            exact this
          have X1 : Aside (∀ x y, a ≤ x → x < mid → mid ≤ y → y < b → Lx key d1[x]! d1[y]!) := by
            have := P2.out.across Q1.out.1
            rw [hsum.out] at this
            exact this
          go_upto_region 41 with fail
          go_cut [199] from 192 to 219 (fun s wx => s = .bool (decide (a < i) && decide (i < mid)) ∧ wx = wc)
          case first =>
            by_cases h1s : a < i
            · have z1s : (a : Int) < (i : Int) := by omega
              by_cases h2s : i < mid
              · have z2s : (i : Int) < (mid : Int) := by omega
                go_wp2_with fail
                go_meet
                exact ⟨by simp [h1s, h2s], rfl⟩
              · have z2s : ¬ (i : Int) < (mid : Int) := by omega
                go_wp2_with fail
                go_meet
                exact ⟨by simp [h1s, h2s], rfl⟩
            · have z1s : ¬ (a : Int) < (i : Int) := by omega
              go_wp2_with fail
              go_meet
              exact ⟨by simp [h1s], rfl⟩
          case rest =>
          obtain ⟨rfl, rfl⟩ := hcut
          go_upto_if 199 with fail
          go_cut [199] from 192 to 219 (fun s wx => ∃ d2, Aside (PermAll a mid d1 d2 ∧ Asc key a mid d2 ∧ SW enc w0 blk off d2 wx))
          case first =>
            by_cases hg : a < i ∧ i < mid
            · have hc := IH.out a i mid d1 _ (by omega) (hs.trans hs1.out.symm) Q1.out.2.2 hg.1 hg.2 (by rw [hs1.out]; omega) (by rw [hs1.out]; exact hsz) L1.out.1 L1.out.2.1 L1.out.2.2
              rw [hs1.out] at hc
              have hdt : (decide (a < i) && decide (i < mid)) = true := by simp [hg.1, hg.2]
              rw [hdt]
              clear hdt
              go_wp2_with fail
              refine hc.mono ?_
              rintro e1 w1 ⟨rfl, d2, h1, h2, hw1⟩
              go_wp2_with fail
              go_meet
              exact ⟨d2, ⟨h1, h2, hw1⟩⟩
            · have hdt : (decide (a < i) && decide (i < mid)) = false := by
                by_cases h1 : a < i <;> by_cases h2 : i < mid <;> simp [h1, h2]
                exact hg ⟨h1, h2⟩
              rw [hdt]
              clear hdt
              go_wp2_with fail
              go_meet
              refine ⟨d1, ⟨PermAll.refl _ _ _, ?_, Q1.out.2.2⟩⟩
              by_cases h1 : a < i
              · have : i = mid := by omega
                rw [← this]; exact L1.out.1
              · have : i = a := by omega
                rw [← this]; exact L1.out.2.1
          case rest =>
          obtain ⟨d2, Q2⟩ := hcut
          have hs2 : Aside (d2.size = d.size) := by show d2.size = d.size; rw [Q2.out.1.size (by rw [hs1.out]; omega)]; exact hs1.out
          have hk2 : Aside (∀ x, mid ≤ x → d2[x]! = d1[x]!) := fun x hx => (Q2.out.1 a mid (Nat.le_refl _) (Nat.le_refl _) (by rw [hs1.out]; omega)).2.1 x (Or.inr hx)
          have M1 : Aside (Asc key mid e d2) := fun x y h1 h2 h3 => by rw [hk2.out x h1, hk2.out y (by omega)]; exact L2.out.1 x y h1 h2 h3
          have M2 : Aside (Asc key e b d2) := fun x y h1 h2 h3 => by rw [hk2.out x (by omega), hk2.out y (by omega)]; exact L2.out.2.1 x y h1 h2 h3
          have M3 : Aside (Low mid e b d2) := fun x y h1 h2 h3 h4 => by rw [hk2.out x (by omega), hk2.out y (by omega)]; exact L2.out.2.2 x y h1 h2 h3 h4
          go_upto_region 43 with fail
          go_cut [213] from 206 to 219 (fun s wx => s = .bool (decide (mid < e) && decide (e < b)) ∧ wx = wc)
          case first =>
            by_cases h1t : mid < e
            · have z1t : (mid : Int) < (e : Int) := by omega
              by_cases h2t : e < b
              · have z2t : (e : Int) < (b : Int) := by omega
                go_wp2_with fail
                go_meet
                exact ⟨by simp [h1t, h2t], rfl⟩
              · have z2t : ¬ (e : Int) < (b : Int) := by omega
                go_wp2_with fail
                go_meet
                exact ⟨by simp [h1t, h2t], rfl⟩
            · have z1t : ¬ (mid : Int) < (e : Int) := by omega
              go_wp2_with fail
              go_meet
              exact ⟨by simp [h1t], rfl⟩
          case rest =>
          obtain ⟨rfl, rfl⟩ := hcut
          have FIN : Aside (∀ d3, PermAll mid b d2 d3 → Asc key mid b d3 → PermAll a b d d3 ∧ Asc key a b d3) := fun d3 p3 h3 => by
            have pa := Q1.out.2.1.trans (Q2.out.1.wide (Nat.le_refl _) (by omega)) hb
            refine ⟨pa.trans (p3.wide (by omega) (Nat.le_refl _)) hb, ?_⟩
            exact Asc.join (c := mid) (d := d1) (by omega) (by omega) (by rw [hs1.out]; omega) X1.out (Q2.out.1 a mid (Nat.le_refl _) (Nat.le_refl _) (by rw [hs1.out]; omega)) (p3 mid b (Nat.le_refl _) (Nat.le_refl _) (by rw [hs2.out]; omega)) Q2.out.2.1 h3
          by_cases hg : mid < e ∧ e < b
          · have hc := IH.out mid e b d2 _ (by omega) (hs.trans hs2.out.symm) Q2.out.2.2 hg.1 hg.2 (by rw [hs2.out]; omega) (by rw [hs2.out]; exact hsz) M1.out M2.out M3.out
            rw [hs2.out] at hc
            have hdt : (decide (mid < e) && decide (e < b)) = true := by simp [hg.1, hg.2]
            rw [hdt]
            clear hdt
            go_wp2_with fail
            refine hc.mono ?_
            rintro e1 w1 ⟨rfl, d3, h1, h2, hw1⟩
            go_wp2
            go_end0
            exact ⟨rfl, d3, (FIN.out d3 h1 h2).1, (FIN.out d3 h1 h2).2, hw1⟩
          · have hdt : (decide (mid < e) && decide (e < b)) = false := by
              by_cases h1 : mid < e <;> by_cases h2 : e < b <;> simp [h1, h2]
              exact hg ⟨h1, h2⟩
            rw [hdt]
            clear hdt
            go_wp2
            go_end0
            have h3 : Asc key mid b d2 := by
              by_cases h1 : mid < e
              · have : e = b := by omega
                rw [← this]; exact M1.out
              · have : e = mid := by omega
                rw [← this]; exact M2.out
            exact ⟨rfl, d2, (FIN.out d2 (PermAll.refl _ _ _) h3).1, (FIN.out d2 (PermAll.refl _ _ _) h3).2, Q2.out.2.2⟩
end Go.Proofs.Ytopngelgpfjdeaa
