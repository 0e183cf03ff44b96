/-
  slices.stableCmpFunc, slices.SortStableFunc at ints, at whatever length.
-/
import Derived.Test.YtopngelgpfjdeaaStab2
import Derived.Test.YtopngelgpfjdeaaLayIns
namespace Go.Proofs.Ytopngelgpfjdeaa
open Go.Shelf Go.RowKit Go.Lib Go.Sort
set_option linter.unusedVariables false
set_option maxRecDepth 100000
variable {key : Nat → Int} {d d' : Array Nat}

def First (key : Nat → Int) (n a : Nat) (d : Array Nat) : Prop := (∃ q, a = q * 20) ∧ (∀ r, r * 20 + 20 ≤ a → Blk key n (r * 20) (r * 20 + 20) d) ∧ ∀ i, a ≤ i → i < n → d[i]! = i
theorem First.start {n : Nat} {d : Array Nat} (h : ∀ i, i < n → d[i]! = i) : First key n 0 d := ⟨⟨0, by omega⟩, fun r hr => by omega, fun i _ hi => h i hi⟩
theorem First.step {n a : Nat} {d d' : Array Nat} (h : First key n a d) (ha : a + 20 ≤ n) (hn : n ≤ d.size) (hp : PermIn a (a + 20) d d') (hA : Asc key a (a + 20) d') : First key n (a + 20) d' := by
  obtain ⟨⟨q, rfl⟩, h2, h3⟩ := h
  refine ⟨⟨q + 1, by omega⟩, fun r hr => ?_, fun i hi1 hi2 => by rw [hp.2.1 i (Or.inr hi1)]; exact h3 i (by omega) hi2⟩
  by_cases hrq : r = q
  · subst hrq
    refine ⟨by rw [show min (r * 20 + 20) n = r * 20 + 20 by omega]; exact hA, ?_⟩
    rw [show min (r * 20 + 20) n = r * 20 + 20 by omega]
    exact permIn_all d d' _ _ (fun x => r * 20 ≤ x ∧ x < r * 20 + 20) (by omega) hp (fun i hi1 hi2 => by rw [h3 i hi1 (by omega)]; exact ⟨hi1, hi2⟩)
  · exact (h2 r (by omega)).same (fun i hi1 hi2 => hp.2.1 i (Or.inl (by omega)))
theorem First.last {n a : Nat} {d d' : Array Nat} (h : First key n a d) (ha : a ≤ n) (hl : n < a + 20) (hn : n ≤ d.size) (hp : PermIn a n d d') (hA : Asc key a n d') : AllRuns key n 20 d' := by
  obtain ⟨⟨q, rfl⟩, h2, h3⟩ := h
  intro r
  by_cases hrq : r = q
  · subst hrq
    refine ⟨by rw [show min (r * 20 + 20) n = n by omega]; exact hA, ?_⟩
    rw [show min (r * 20 + 20) n = n by omega]
    exact permIn_all d d' _ _ (fun x => r * 20 ≤ x ∧ x < r * 20 + 20) (by omega) hp (fun i hi1 hi2 => by rw [h3 i hi1 hi2]; omega)
  · by_cases hlt : r < q
    · exact (h2 r (by omega)).same (fun i hi1 hi2 => hp.2.1 i (Or.inl (by omega)))
    · exact Blk.far (by omega)
def At2 (s a : Nat) : Prop := ∃ q, a = q * (2 * s)
theorem At2.next {s a : Nat} (h : At2 s a) : At2 s (a + 2 * s) := by
  obtain ⟨q, rfl⟩ := h
  exact ⟨q + 1, (Nat.succ_mul q (2 * s)).symm⟩
theorem Runs.merge {n s a hi : Nat} (hs : 0 < s) (hq : At2 s a) (h : Runs key n s a d) (ham : a + s ≤ n) (hhi : hi = min (a + 2 * s) n) : Asc key a (a + s) d ∧ Asc key (a + s) hi d ∧ Low a (a + s) hi d := by
  obtain ⟨q, rfl⟩ := hq
  obtain ⟨p1, p2⟩ := h.pair
  have hl := Blk.low p1 p2 ham
  have h1 := p1.1
  have h2 := p2.1
  rw [← hhi] at h2 hl
  rw [show min (q * (2 * s) + s) n = q * (2 * s) + s by omega] at h1
  exact ⟨h1, h2, hl⟩
theorem Runs.merged {n s a hi : Nat} {d d' : Array Nat} (hs : 0 < s) (hq : At2 s a) (h : Runs key n s a d) (ham : a + s ≤ n) (hhi : hi = min (a + 2 * s) n) (hn : n ≤ d.size) (hp : PermIn a hi d d') (hA : Asc key a hi d') : Runs key n s (a + 2 * s) d' := by
  obtain ⟨q, rfl⟩ := hq
  obtain ⟨p1, p2⟩ := h.pair
  rw [hhi] at hp hA
  have hB := Blk.merged p1 p2 ham (by omega) (by omega) hn hp hA
  have := Runs.next hs h hB (fun i hi => hp.2.1 i (by omega))
  rw [Nat.succ_mul] at this
  exact this
theorem Runs.skip {n s a : Nat} {d : Array Nat} (hs : 0 < s) (hq : At2 s a) (h : Runs key n s a d) (ham : n ≤ a + s) : Runs key n s (a + 2 * s) d := by
  obtain ⟨q, rfl⟩ := hq
  obtain ⟨p1, p2⟩ := h.pair
  have := Runs.next hs h (p1.wide ham (by omega)) (fun i hi => rfl)
  rw [Nat.succ_mul] at this
  exact this
theorem Runs.fin {n s a : Nat} {d : Array Nat} (hs : 0 < s) (hq : At2 s a) (h : Runs key n s a d) (hn : n ≤ a) : AllRuns key n (2 * s) d := by
  obtain ⟨q, rfl⟩ := hq
  exact Runs.done hs h hn

theorem ltOf_key {cf : Nat → Nat → Int} (hcf : Aside (∀ x y, (cf x y < 0) = (key x < key y))) : ltOf cf = ltK key := by
  funext x y
  exact decide_eq_decide.2 (Iff.of_eq (hcf.out x y))
set_option maxHeartbeats 3000000 in
set_option maxRecDepth 1000000 in
theorem stStable (key : Nat → Int) (enc : Nat → Value) (cf : Nat → Nat → Int) (hcf : Aside (∀ x y, (cf x y < 0) = (key x < key y))) (g : Nat) (cb : Array Value) (blk off cap : Nat) (d : Array Nat) (w0 : World)
    (eg : ∀ args w, (callFunc g args).run Try.prog w = .ok (.enter g args) w) (hcmp : CmpLays1 Try.prog g cb enc cf blk off d.size w0) (R : Row1 enc w0 blk off d) (hid : ∀ i, i < d.size → d[i]! = i) (hsz : d.size < 1152921504606846976) :
    Calls Try.prog 152 #[.slice (some ⟨blk, off, none⟩) d.size cap, .int .i64 d.size, .func (.func g) #[] cb] w0 fun e w' => e = .returned (.tuple #[]) ∧ ∃ d', PermAll 0 d.size d d' ∧ Asc key 0 d.size d' ∧ SW enc w0 blk off d' w' := by
  have HC : Aside _ := hcmp
  have HI : Aside _ := hid
  have S0 : Aside (SW enc w0 blk off d w0) := SW.start R.hH
  have HL : Aside _ := ltOf_key hcf
  clear hcmp hid
  obtain ⟨n, hn⟩ : ∃ n, n = d.size := ⟨_, rfl⟩
  have HN : Aside _ := hn
  rw [← hn] at hsz ⊢
  clear hn
  have ins : Aside (∀ (a b : Nat) (dk : Array Nat) (W : World), a ≤ b → b ≤ n → dk.size = n → SW enc w0 blk off dk W → (∀ i, a ≤ i → i < b → dk[i]! = i) →
      Calls Try.prog 170 #[.slice (some ⟨blk, off, none⟩) n cap, .int .i64 a, .int .i64 b, .func (.func g) #[] cb] W fun e w' => e = .returned (.tuple #[]) ∧ ∃ d', PermAll a b dk d' ∧ Asc key a b d' ∧ SW enc w0 blk off d' w') := fun a b dk W h1 h2 h3 h4 h5 => by
    have hc := Any.insertionSortCmpFunc_s Try.layIns enc cf g cb blk off cap a b d dk w0 W eg HC.out R (by rw [← HN.out, h3]) h4 h1 (by omega) (by omega)
    change Calls Try.prog 170 _ _ _ at hc
    rw [h3] at hc
    refine hc.mono ?_
    rintro e w' ⟨rfl, hw⟩
    rw [HL.out] at hw
    have hb := block_sorted key a b dk h1 (by omega) h5
    refine ⟨rfl, _, fun lo hi hl hh hz => permIn_mono _ _ a b lo hi hl hh hz hb.1, hb.2, hw⟩
  have mrg : Aside (∀ (a m b : Nat) (dk : Array Nat) (W : World), a < m → m < b → b ≤ n → dk.size = n → SW enc w0 blk off dk W → Asc key a m dk → Asc key m b dk → Low a m b dk →
      Calls Try.prog 171 #[.slice (some ⟨blk, off, none⟩) n cap, .int .i64 a, .int .i64 m, .int .i64 b, .func (.func g) #[] cb] W fun e w' => e = .returned (.tuple #[]) ∧ ∃ d', PermAll a b dk d' ∧ Asc key a b d' ∧ SW enc w0 blk off d' w') := fun a m b dk W h1 h2 h3 h4 h5 h6 h7 h8 => by
    have hc := stSymMerge key enc cf hcf g cb blk off cap d w0 eg HC.out R (b - a + 1) a m b dk W (by omega) (by rw [← HN.out, h4]) h5 h1 h2 (by omega) (by omega) h6 h7 h8
    rw [h4] at hc
    exact hc
  clear HL HC
  go_enter Try.func152, Try.ntmps152
  go_wp2
  go_loopg [7, 8] n (fun g1 v7 v8 wr => ∃ (a b : Nat) (dk : Array Nat), v7 = .int .i64 a ∧ v8 = .int .i64 b ∧ b ≤ a + 20 ∧ a + 20 ≤ b ∧ a ≤ n ∧ n - a ≤ g1 ∧ Aside (dk.size = n) ∧ Aside (SW enc w0 blk off dk wr) ∧ Aside (PermAll 0 n d dk) ∧ Aside (First key n a dk))
  case atStart => exact ⟨0, 20, d, rfl, rfl, by omega, by omega, by omega, by omega, HN.out.symm, S0, PermAll.refl _ _ _, First.start (fun i hi => HI.out i (by rw [← HN.out]; exact hi))⟩
  case round =>
    clear S0
    obtain ⟨a, b, dk, rfl, rfl, hab, hab', han, hg1, hsk, S1, HP, HF⟩ := hrel
    by_cases hlt : b ≤ n
    · have hltz : (b : Int) ≤ (n : Int) := by omega
      have hc := ins.out a b dk wr (by omega) hlt hsk.out S1.out (fun i h1 h2 => HF.out.2.2 i h1 (by omega))
      go_wp2_with fail
      refine hc.mono ?_
      rintro e w1 ⟨rfl, d1, h1, h2, hw1⟩
      go_wp2
      go_roundg (n - b)
      case measure => omega
      case rel =>
        have hz := hsk.out
        have p1 := h1 a b (Nat.le_refl _) (Nat.le_refl _) (by omega)
        have hab2 : b = a + 20 := by omega
        rw [hab2] at p1 h2
        exact ⟨b, b + 20, d1, rfl, by go_num, by omega, by omega, hlt, Nat.le_refl _, (by show _ = _; rw [h1.size (by omega)]; exact hz), hw1, HP.out.trans (h1.wide (Nat.zero_le _) hlt) (by rw [HN.out]; exact Nat.le_refl _), by rw [hab2]; exact HF.out.step (by omega) (by omega) p1 h2⟩
    · have hltz : ¬ (b : Int) ≤ (n : Int) := by omega
      have hc := ins.out a n dk wr (by omega) (Nat.le_refl _) hsk.out S1.out (fun i h1 h2 => HF.out.2.2 i h1 h2)
      go_wp2_with fail
      refine hc.mono ?_
      rintro e w1 ⟨rfl, d1, h1, h2, hw1⟩
      have hz := hsk.out
      have hs1 : Aside (d1.size = n) := by show _ = _; rw [h1.size (by omega)]; exact hz
      have AR : Aside (AllRuns key n 20 d1) := HF.out.last han (by omega) (by omega) (h1 a n (Nat.le_refl _) (Nat.le_refl _) (by omega)) h2
      have P1 : Aside (PermAll 0 n d d1) := HP.out.trans (h1.wide (Nat.zero_le _) (Nat.le_refl _)) (by rw [HN.out]; exact Nat.le_refl _)
      have W1 : Aside (SW enc w0 blk off d1 w1) := hw1
      clear h1 h2 hw1 S1 HP HF hz hsk
      go_wp2
      go_loopg [6] n (fun g2 v6 wr => ∃ (s : Nat) (dk : Array Nat), v6 = .int .i64 s ∧ 0 < s ∧ s ≤ 2 * n + 20 ∧ n - s ≤ g2 ∧ Aside (dk.size = n) ∧ Aside (SW enc w0 blk off dk wr) ∧ Aside (PermAll 0 n d dk) ∧ Aside (AllRuns key n s dk))
      case atStart => exact ⟨20, d1, rfl, by omega, by omega, by omega, hs1, W1, P1, AR⟩
      case round =>
        clear W1 P1 AR hs1
        obtain ⟨s, dk2, rfl, hs0, hs2, hg2, hsk2, S2, HP2, HR2⟩ := hrel
        by_cases hsn : s < n
        · have hsnz : (s : Int) < (n : Int) := by omega
          go_wp2
          go_loopg [7, 8] n (fun g3 v7 v8 wr => ∃ (a b : Nat) (dk : Array Nat), v7 = .int .i64 a ∧ v8 = .int .i64 b ∧ b ≤ a + 2 * s ∧ a + 2 * s ≤ b ∧ a ≤ n ∧ n - a ≤ g3 ∧ Aside (dk.size = n) ∧ Aside (SW enc w0 blk off dk wr) ∧ Aside (PermAll 0 n d dk) ∧ Aside (At2 s a ∧ Runs key n s a dk))
          case atStart => exact ⟨0, 2 * s, dk2, rfl, by go_num, by omega, by omega, by omega, by omega, hsk2, S2, HP2, ⟨⟨0, by omega⟩, HR2.out.start hs0⟩⟩
          case round =>
            clear S2 HP2 HR2 hsk2
            obtain ⟨a, b, dk, rfl, rfl, hab, hab', han, hg3, hsk, S3, HP3, HR3⟩ := hrel
            by_cases hlt : b ≤ n
            · have hltz : (b : Int) ≤ (n : Int) := by omega
              obtain ⟨m1, m2, m3⟩ := HR3.out.2.merge (hi := b) hs0 HR3.out.1 (by omega) (by omega)
              have hc := mrg.out a (a + s) b dk wr (by omega) (by omega) hlt hsk.out S3.out m1 m2 m3
              rw [show ((a + s : Nat) : Int) = (a : Int) + (s : Int) by omega] at hc
              clear m1 m2 m3
              go_wp2_with fail
              refine hc.mono ?_
              rintro e w1 ⟨rfl, d1, h1, h2, hw1⟩
              go_wp2
              go_roundg (n - b)
              case measure => omega
              case rel =>
                have p1 := h1 a b (Nat.le_refl _) (Nat.le_refl _) (by rw [hsk.out]; exact hlt)
                have hr := HR3.out.2.merged (hi := b) hs0 HR3.out.1 (by omega) (by omega) (by rw [hsk.out]; exact Nat.le_refl _) p1 h2
                refine ⟨b, b + 2 * s, d1, rfl, by first | go_num | (congr 1; omega), by omega, by omega, hlt, Nat.le_refl _, (by show _ = _; rw [h1.size (by rw [hsk.out]; exact hlt)]; exact hsk.out), hw1, HP3.out.trans (h1.wide (Nat.zero_le _) hlt) (by rw [HN.out]; exact Nat.le_refl _), ?_⟩
                rw [show b = a + 2 * s by omega]
                exact ⟨HR3.out.1.next, hr⟩
            · have hltz : ¬ (b : Int) ≤ (n : Int) := by omega
              by_cases hmn : a + s < n
              · have hmz : (a : Int) + (s : Int) < (n : Int) := by omega
                obtain ⟨m1, m2, m3⟩ := HR3.out.2.merge (hi := n) hs0 HR3.out.1 (by omega) (by omega)
                have hc := mrg.out a (a + s) n dk wr (by omega) hmn (Nat.le_refl _) hsk.out S3.out m1 m2 m3
                rw [show ((a + s : Nat) : Int) = (a : Int) + (s : Int) by omega] at hc
                clear m1 m2 m3
                go_wp2_with fail
                refine hc.mono ?_
                rintro e w1 ⟨rfl, d1, h1, h2, hw1⟩
                go_wp2
                go_roundg (n - 2 * s)
                case measure => omega
                case rel =>
                  have p1 := h1 a n (Nat.le_refl _) (Nat.le_refl _) (by rw [hsk.out]; exact Nat.le_refl _)
                  have hr := HR3.out.2.merged (hi := n) hs0 HR3.out.1 (by omega) (by omega) (by rw [hsk.out]; exact Nat.le_refl _) p1 h2
                  exact ⟨2 * s, d1, by first | go_num | (congr 1; omega), by omega, by omega, Nat.le_refl _, (by show _ = _; rw [h1.size (by rw [hsk.out]; exact Nat.le_refl _)]; exact hsk.out), hw1, HP3.out.trans (h1.wide (Nat.zero_le _) (Nat.le_refl _)) (by rw [HN.out]; exact Nat.le_refl _), hr.fin hs0 HR3.out.1.next (by omega)⟩
              · have hmz : ¬ (a : Int) + (s : Int) < (n : Int) := by omega
                go_wp2
                go_roundg (n - 2 * s)
                case measure => omega
                case rel => exact ⟨2 * s, dk, by first | go_num | (congr 1; omega), by omega, by omega, Nat.le_refl _, hsk, S3, HP3, (HR3.out.2.skip hs0 HR3.out.1 (by omega)).fin hs0 HR3.out.1.next (by omega)⟩
        · have hsnz : ¬ (s : Int) < (n : Int) := by omega
          go_wp2
          go_end0
          exact ⟨rfl, dk2, HP2.out, HR2.out.end (by omega), S2.out⟩
set_option maxHeartbeats 4000000 in
theorem stSort (key : Nat → Int) (enc : Nat → Value) (cf : Nat → Nat → Int) (hcf : Aside (∀ x y, (cf x y < 0) = (key x < key y))) (g : Nat) (cb : Array Value) (blk off cap : Nat) (d : Array Nat) (w0 : World)
    (eg : ∀ args w, (callFunc g args).run Try.prog w = .ok (.enter g args) w) (hcmp : CmpLays1 Try.prog g cb enc cf blk off d.size w0) (R : Row1 enc w0 blk off d) (hid : ∀ i, i < d.size → d[i]! = i) (hsz : d.size < 1152921504606846976) :
    Calls Try.prog 130 #[.slice (some ⟨blk, off, none⟩) d.size cap, .func (.func g) #[] cb] w0 fun e w' => e = .returned (.tuple #[]) ∧ ∃ d', PermAll 0 d.size d d' ∧ Asc key 0 d.size d' ∧ SW enc w0 blk off d' w' := by
  have hc := stStable key enc cf hcf g cb blk off cap d w0 eg hcmp R hid hsz
  clear R hid hcmp
  go_enter Try.func130, Try.ntmps130
  go_wp2_with fail
  refine hc.mono ?_
  rintro e w1 ⟨rfl, d1, h1, h2, hw1⟩
  go_wp2
  go_end0
  exact ⟨rfl, d1, h1, h2, hw1⟩
end Go.Proofs.Ytopngelgpfjdeaa
