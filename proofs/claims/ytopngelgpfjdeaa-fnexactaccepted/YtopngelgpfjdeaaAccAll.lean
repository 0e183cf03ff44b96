/-
  Several texts in one: Stab3, Ord0, Ins0, Ord1, Ord2, Ord3, Ord4, Ord5, Fgt, Vds, Acc0, Acc1, Acc2.
-/
import Derived.Test.YtopngelgpfjdeaaStab2
import Derived.Test.YtopngelgpfjdeaaLayIns
import Derived.Test.YtopngelgpfjdeaaTDeed
import Derived.Test.YtopngelgpfjdeaaADeed
import Derived.Test.YtopngelgpfjdeaaSum1
import Derived.Test.YtopngelgpfjdeaaDeeds1
import Derived.Test.YtopngelgpfjdeaaForg0
import Derived.Test.YtopngelgpfjdeaaGrow2
import Derived.Deep.RegionHeld3
import Derived.Deep.CutRange
import Derived.Shelf.SlSortCmp.QuietGrown
import Derived.Shelf.Abstract
import Derived.Test.YtopngelgpfjdeaaMVerdict
import Derived.Test.YtopngelgpfjdeaaItems0
import Derived.Test.YtopngelgpfjdeaaCopy1
import Derived.Test.YtopngelgpfjdeaaCopy3
import Derived.Test.YtopngelgpfjdeaaCSpan
namespace Go.Proofs.Ytopngelgpfjdeaa
open Go.Shelf Go.RowKit Go.Lib Go.Sort
set_option linter.unusedVariables false
set_option maxRecDepth 100000
variable {key : Nat → Int} {d d' : Array Nat}

def First (key : Nat → Int) (n a : Nat) (d : Array Nat) : Prop := (∃ q, a = q * 20) ∧ (∀ r, r * 20 + 20 ≤ a → Blk key n (r * 20) (r * 20 + 20) d) ∧ ∀ i, a ≤ i → i < n → d[i]! = i
theorem First.start {n : Nat} {d : Array Nat} (h : ∀ i, i < n → d[i]! = i) : First key n 0 d := ⟨⟨0, by omega⟩, fun r hr => by omega, fun i _ hi => h i hi⟩
theorem First.step {n a : Nat} {d d' : Array Nat} (h : First key n a d) (ha : a + 20 ≤ n) (hn : n ≤ d.size) (hp : PermIn a (a + 20) d d') (hA : Asc key a (a + 20) d') : First key n (a + 20) d' := by
  obtain ⟨⟨q, rfl⟩, h2, h3⟩ := h
  refine ⟨⟨q + 1, by omega⟩, fun r hr => ?_, fun i hi1 hi2 => by rw [hp.2.1 i (Or.inr hi1)]; exact h3 i (by omega) hi2⟩
  by_cases hrq : r = q
  · subst hrq
    refine ⟨by rw [show min (r * 20 + 20) n = r * 20 + 20 by omega]; exact hA, ?_⟩
    rw [show min (r * 20 + 20) n = r * 20 + 20 by omega]
    exact permIn_all d d' _ _ (fun x => r * 20 ≤ x ∧ x < r * 20 + 20) (by omega) hp (fun i hi1 hi2 => by rw [h3 i hi1 (by omega)]; exact ⟨hi1, hi2⟩)
  · exact (h2 r (by omega)).same (fun i hi1 hi2 => hp.2.1 i (Or.inl (by omega)))
theorem First.last {n a : Nat} {d d' : Array Nat} (h : First key n a d) (ha : a ≤ n) (hl : n < a + 20) (hn : n ≤ d.size) (hp : PermIn a n d d') (hA : Asc key a n d') : AllRuns key n 20 d' := by
  obtain ⟨⟨q, rfl⟩, h2, h3⟩ := h
  intro r
  by_cases hrq : r = q
  · subst hrq
    refine ⟨by rw [show min (r * 20 + 20) n = n by omega]; exact hA, ?_⟩
    rw [show min (r * 20 + 20) n = n by omega]
    exact permIn_all d d' _ _ (fun x => r * 20 ≤ x ∧ x < r * 20 + 20) (by omega) hp (fun i hi1 hi2 => by rw [h3 i hi1 hi2]; omega)
  · by_cases hlt : r < q
    · exact (h2 r (by omega)).same (fun i hi1 hi2 => hp.2.1 i (Or.inl (by omega)))
    · exact Blk.far (by omega)
def At2 (s a : Nat) : Prop := ∃ q, a = q * (2 * s)
theorem At2.next {s a : Nat} (h : At2 s a) : At2 s (a + 2 * s) := by
  obtain ⟨q, rfl⟩ := h
  exact ⟨q + 1, (Nat.succ_mul q (2 * s)).symm⟩
theorem Runs.merge {n s a hi : Nat} (hs : 0 < s) (hq : At2 s a) (h : Runs key n s a d) (ham : a + s ≤ n) (hhi : hi = min (a + 2 * s) n) : Asc key a (a + s) d ∧ Asc key (a + s) hi d ∧ Low a (a + s) hi d := by
  obtain ⟨q, rfl⟩ := hq
  obtain ⟨p1, p2⟩ := h.pair
  have hl := Blk.low p1 p2 ham
  have h1 := p1.1
  have h2 := p2.1
  rw [← hhi] at h2 hl
  rw [show min (q * (2 * s) + s) n = q * (2 * s) + s by omega] at h1
  exact ⟨h1, h2, hl⟩
theorem Runs.merged {n s a hi : Nat} {d d' : Array Nat} (hs : 0 < s) (hq : At2 s a) (h : Runs key n s a d) (ham : a + s ≤ n) (hhi : hi = min (a + 2 * s) n) (hn : n ≤ d.size) (hp : PermIn a hi d d') (hA : Asc key a hi d') : Runs key n s (a + 2 * s) d' := by
  obtain ⟨q, rfl⟩ := hq
  obtain ⟨p1, p2⟩ := h.pair
  rw [hhi] at hp hA
  have hB := Blk.merged p1 p2 ham (by omega) (by omega) hn hp hA
  have := Runs.next hs h hB (fun i hi => hp.2.1 i (by omega))
  rw [Nat.succ_mul] at this
  exact this
theorem Runs.skip {n s a : Nat} {d : Array Nat} (hs : 0 < s) (hq : At2 s a) (h : Runs key n s a d) (ham : n ≤ a + s) : Runs key n s (a + 2 * s) d := by
  obtain ⟨q, rfl⟩ := hq
  obtain ⟨p1, p2⟩ := h.pair
  have := Runs.next hs h (p1.wide ham (by omega)) (fun i hi => rfl)
  rw [Nat.succ_mul] at this
  exact this
theorem Runs.fin {n s a : Nat} {d : Array Nat} (hs : 0 < s) (hq : At2 s a) (h : Runs key n s a d) (hn : n ≤ a) : AllRuns key n (2 * s) d := by
  obtain ⟨q, rfl⟩ := hq
  exact Runs.done hs h hn

theorem ltOf_key {cf : Nat → Nat → Int} (hcf : Aside (∀ x y, (cf x y < 0) = (key x < key y))) : ltOf cf = ltK key := by
  funext x y
  exact decide_eq_decide.2 (Iff.of_eq (hcf.out x y))
set_option maxHeartbeats 3000000 in
set_option maxRecDepth 1000000 in
theorem stStable (key : Nat → Int) (enc : Nat → Value) (cf : Nat → Nat → Int) (hcf : Aside (∀ x y, (cf x y < 0) = (key x < key y))) (g : Nat) (cb : Array Value) (blk off cap : Nat) (d : Array Nat) (w0 : World)
    (eg : ∀ args w, (callFunc g args).run Try.prog w = .ok (.enter g args) w) (hcmp : CmpLays1 Try.prog g cb enc cf blk off d.size w0) (R : Row1 enc w0 blk off d) (hid : ∀ i, i < d.size → d[i]! = i) (hsz : d.size < 1152921504606846976) :
    Calls Try.prog 152 #[.slice (some ⟨blk, off, none⟩) d.size cap, .int .i64 d.size, .func (.func g) #[] cb] w0 fun e w' => e = .returned (.tuple #[]) ∧ ∃ d', PermAll 0 d.size d d' ∧ Asc key 0 d.size d' ∧ SW enc w0 blk off d' w' := by
  have HC : Aside _ := hcmp
  have HI : Aside _ := hid
  have S0 : Aside (SW enc w0 blk off d w0) := SW.start R.hH
  have HL : Aside _ := ltOf_key hcf
  clear hcmp hid
  obtain ⟨n, hn⟩ : ∃ n, n = d.size := ⟨_, rfl⟩
  have HN : Aside _ := hn
  rw [← hn] at hsz ⊢
  clear hn
  have ins : Aside (∀ (a b : Nat) (dk : Array Nat) (W : World), a ≤ b → b ≤ n → dk.size = n → SW enc w0 blk off dk W → (∀ i, a ≤ i → i < b → dk[i]! = i) →
      Calls Try.prog 170 #[.slice (some ⟨blk, off, none⟩) n cap, .int .i64 a, .int .i64 b, .func (.func g) #[] cb] W fun e w' => e = .returned (.tuple #[]) ∧ ∃ d', PermAll a b dk d' ∧ Asc key a b d' ∧ SW enc w0 blk off d' w') := fun a b dk W h1 h2 h3 h4 h5 => by
    have hc := Any.insertionSortCmpFunc_s Try.layIns enc cf g cb blk off cap a b d dk w0 W eg HC.out R (by rw [← HN.out, h3]) h4 h1 (by omega) (by omega)
    change Calls Try.prog 170 _ _ _ at hc
    rw [h3] at hc
    refine hc.mono ?_
    rintro e w' ⟨rfl, hw⟩
    rw [HL.out] at hw
    have hb := block_sorted key a b dk h1 (by omega) h5
    refine ⟨rfl, _, fun lo hi hl hh hz => permIn_mono _ _ a b lo hi hl hh hz hb.1, hb.2, hw⟩
  have mrg : Aside (∀ (a m b : Nat) (dk : Array Nat) (W : World), a < m → m < b → b ≤ n → dk.size = n → SW enc w0 blk off dk W → Asc key a m dk → Asc key m b dk → Low a m b dk →
      Calls Try.prog 171 #[.slice (some ⟨blk, off, none⟩) n cap, .int .i64 a, .int .i64 m, .int .i64 b, .func (.func g) #[] cb] W fun e w' => e = .returned (.tuple #[]) ∧ ∃ d', PermAll a b dk d' ∧ Asc key a b d' ∧ SW enc w0 blk off d' w') := fun a m b dk W h1 h2 h3 h4 h5 h6 h7 h8 => by
    have hc := stSymMerge key enc cf hcf g cb blk off cap d w0 eg HC.out R (b - a + 1) a m b dk W (by omega) (by rw [← HN.out, h4]) h5 h1 h2 (by omega) (by omega) h6 h7 h8
    rw [h4] at hc
    exact hc
  clear HL HC
  go_enter Try.func152, Try.ntmps152
  go_wp2
  go_loopg [7, 8] n (fun g1 v7 v8 wr => ∃ (a b : Nat) (dk : Array Nat), v7 = .int .i64 a ∧ v8 = .int .i64 b ∧ b ≤ a + 20 ∧ a + 20 ≤ b ∧ a ≤ n ∧ n - a ≤ g1 ∧ Aside (dk.size = n) ∧ Aside (SW enc w0 blk off dk wr) ∧ Aside (PermAll 0 n d dk) ∧ Aside (First key n a dk))
  case atStart => exact ⟨0, 20, d, rfl, rfl, by omega, by omega, by omega, by omega, HN.out.symm, S0, PermAll.refl _ _ _, First.start (fun i hi => HI.out i (by rw [← HN.out]; exact hi))⟩
  case round =>
    clear S0
    obtain ⟨a, b, dk, rfl, rfl, hab, hab', han, hg1, hsk, S1, HP, HF⟩ := hrel
    by_cases hlt : b ≤ n
    · have hltz : (b : Int) ≤ (n : Int) := by omega
      have hc := ins.out a b dk wr (by omega) hlt hsk.out S1.out (fun i h1 h2 => HF.out.2.2 i h1 (by omega))
      go_wp2_with fail
      refine hc.mono ?_
      rintro e w1 ⟨rfl, d1, h1, h2, hw1⟩
      go_wp2
      go_roundg (n - b)
      case measure => omega
      case rel =>
        have hz := hsk.out
        have p1 := h1 a b (Nat.le_refl _) (Nat.le_refl _) (by omega)
        have hab2 : b = a + 20 := by omega
        rw [hab2] at p1 h2
        exact ⟨b, b + 20, d1, rfl, by go_num, by omega, by omega, hlt, Nat.le_refl _, (by show _ = _; rw [h1.size (by omega)]; exact hz), hw1, HP.out.trans (h1.wide (Nat.zero_le _) hlt) (by rw [HN.out]; exact Nat.le_refl _), by rw [hab2]; exact HF.out.step (by omega) (by omega) p1 h2⟩
    · have hltz : ¬ (b : Int) ≤ (n : Int) := by omega
      have hc := ins.out a n dk wr (by omega) (Nat.le_refl _) hsk.out S1.out (fun i h1 h2 => HF.out.2.2 i h1 h2)
      go_wp2_with fail
      refine hc.mono ?_
      rintro e w1 ⟨rfl, d1, h1, h2, hw1⟩
      have hz := hsk.out
      have hs1 : Aside (d1.size = n) := by show _ = _; rw [h1.size (by omega)]; exact hz
      have AR : Aside (AllRuns key n 20 d1) := HF.out.last han (by omega) (by omega) (h1 a n (Nat.le_refl _) (Nat.le_refl _) (by omega)) h2
      have P1 : Aside (PermAll 0 n d d1) := HP.out.trans (h1.wide (Nat.zero_le _) (Nat.le_refl _)) (by rw [HN.out]; exact Nat.le_refl _)
      have W1 : Aside (SW enc w0 blk off d1 w1) := hw1
      clear h1 h2 hw1 S1 HP HF hz hsk
      go_wp2
      go_loopg [6] n (fun g2 v6 wr => ∃ (s : Nat) (dk : Array Nat), v6 = .int .i64 s ∧ 0 < s ∧ s ≤ 2 * n + 20 ∧ n - s ≤ g2 ∧ Aside (dk.size = n) ∧ Aside (SW enc w0 blk off dk wr) ∧ Aside (PermAll 0 n d dk) ∧ Aside (AllRuns key n s dk))
      case atStart => exact ⟨20, d1, rfl, by omega, by omega, by omega, hs1, W1, P1, AR⟩
      case round =>
        clear W1 P1 AR hs1
        obtain ⟨s, dk2, rfl, hs0, hs2, hg2, hsk2, S2, HP2, HR2⟩ := hrel
        by_cases hsn : s < n
        · have hsnz : (s : Int) < (n : Int) := by omega
          go_wp2
          go_loopg [7, 8] n (fun g3 v7 v8 wr => ∃ (a b : Nat) (dk : Array Nat), v7 = .int .i64 a ∧ v8 = .int .i64 b ∧ b ≤ a + 2 * s ∧ a + 2 * s ≤ b ∧ a ≤ n ∧ n - a ≤ g3 ∧ Aside (dk.size = n) ∧ Aside (SW enc w0 blk off dk wr) ∧ Aside (PermAll 0 n d dk) ∧ Aside (At2 s a ∧ Runs key n s a dk))
          case atStart => exact ⟨0, 2 * s, dk2, rfl, by go_num, by omega, by omega, by omega, by omega, hsk2, S2, HP2, ⟨⟨0, by omega⟩, HR2.out.start hs0⟩⟩
          case round =>
            clear S2 HP2 HR2 hsk2
            obtain ⟨a, b, dk, rfl, rfl, hab, hab', han, hg3, hsk, S3, HP3, HR3⟩ := hrel
            by_cases hlt : b ≤ n
            · have hltz : (b : Int) ≤ (n : Int) := by omega
              obtain ⟨m1, m2, m3⟩ := HR3.out.2.merge (hi := b) hs0 HR3.out.1 (by omega) (by omega)
              have hc := mrg.out a (a + s) b dk wr (by omega) (by omega) hlt hsk.out S3.out m1 m2 m3
              rw [show ((a + s : Nat) : Int) = (a : Int) + (s : Int) by omega] at hc
              clear m1 m2 m3
              go_wp2_with fail
              refine hc.mono ?_
              rintro e w1 ⟨rfl, d1, h1, h2, hw1⟩
              go_wp2
              go_roundg (n - b)
              case measure => omega
              case rel =>
                have p1 := h1 a b (Nat.le_refl _) (Nat.le_refl _) (by rw [hsk.out]; exact hlt)
                have hr := HR3.out.2.merged (hi := b) hs0 HR3.out.1 (by omega) (by omega) (by rw [hsk.out]; exact Nat.le_refl _) p1 h2
                refine ⟨b, b + 2 * s, d1, rfl, by first | go_num | (congr 1; omega), by omega, by omega, hlt, Nat.le_refl _, (by show _ = _; rw [h1.size (by rw [hsk.out]; exact hlt)]; exact hsk.out), hw1, HP3.out.trans (h1.wide (Nat.zero_le _) hlt) (by rw [HN.out]; exact Nat.le_refl _), ?_⟩
                rw [show b = a + 2 * s by omega]
                exact ⟨HR3.out.1.next, hr⟩
            · have hltz : ¬ (b : Int) ≤ (n : Int) := by omega
              by_cases hmn : a + s < n
              · have hmz : (a : Int) + (s : Int) < (n : Int) := by omega
                obtain ⟨m1, m2, m3⟩ := HR3.out.2.merge (hi := n) hs0 HR3.out.1 (by omega) (by omega)
                have hc := mrg.out a (a + s) n dk wr (by omega) hmn (Nat.le_refl _) hsk.out S3.out m1 m2 m3
                rw [show ((a + s : Nat) : Int) = (a : Int) + (s : Int) by omega] at hc
                clear m1 m2 m3
                go_wp2_with fail
                refine hc.mono ?_
                rintro e w1 ⟨rfl, d1, h1, h2, hw1⟩
                go_wp2
                go_roundg (n - 2 * s)
                case measure => omega
                case rel =>
                  have p1 := h1 a n (Nat.le_refl _) (Nat.le_refl _) (by rw [hsk.out]; exact Nat.le_refl _)
                  have hr := HR3.out.2.merged (hi := n) hs0 HR3.out.1 (by omega) (by omega) (by rw [hsk.out]; exact Nat.le_refl _) p1 h2
                  exact ⟨2 * s, d1, by first | go_num | (congr 1; omega), by omega, by omega, Nat.le_refl _, (by show _ = _; rw [h1.size (by rw [hsk.out]; exact Nat.le_refl _)]; exact hsk.out), hw1, HP3.out.trans (h1.wide (Nat.zero_le _) (Nat.le_refl _)) (by rw [HN.out]; exact Nat.le_refl _), hr.fin hs0 HR3.out.1.next (by omega)⟩
              · have hmz : ¬ (a : Int) + (s : Int) < (n : Int) := by omega
                go_wp2
                go_roundg (n - 2 * s)
                case measure => omega
                case rel => exact ⟨2 * s, dk, by first | go_num | (congr 1; omega), by omega, by omega, Nat.le_refl _, hsk, S3, HP3, (HR3.out.2.skip hs0 HR3.out.1 (by omega)).fin hs0 HR3.out.1.next (by omega)⟩
        · have hsnz : ¬ (s : Int) < (n : Int) := by omega
          go_wp2
          go_end0
          exact ⟨rfl, dk2, HP2.out, HR2.out.end (by omega), S2.out⟩
set_option maxHeartbeats 4000000 in
theorem stSort (key : Nat → Int) (enc : Nat → Value) (cf : Nat → Nat → Int) (hcf : Aside (∀ x y, (cf x y < 0) = (key x < key y))) (g : Nat) (cb : Array Value) (blk off cap : Nat) (d : Array Nat) (w0 : World)
    (eg : ∀ args w, (callFunc g args).run Try.prog w = .ok (.enter g args) w) (hcmp : CmpLays1 Try.prog g cb enc cf blk off d.size w0) (R : Row1 enc w0 blk off d) (hid : ∀ i, i < d.size → d[i]! = i) (hsz : d.size < 1152921504606846976) :
    Calls Try.prog 130 #[.slice (some ⟨blk, off, none⟩) d.size cap, .func (.func g) #[] cb] w0 fun e w' => e = .returned (.tuple #[]) ∧ ∃ d', PermAll 0 d.size d d' ∧ Asc key 0 d.size d' ∧ SW enc w0 blk off d' w' := by
  have hc := stStable key enc cf hcf g cb blk off cap d w0 eg hcmp R hid hsz
  clear R hid hcmp
  go_enter Try.func130, Try.ntmps130
  go_wp2_with fail
  refine hc.mono ?_
  rintro e w1 ⟨rfl, d1, h1, h2, hw1⟩
  go_wp2
  go_end0
  exact ⟨rfl, d1, h1, h2, hw1⟩
end Go.Proofs.Ytopngelgpfjdeaa
namespace Go.Proofs.Ytopngelgpfjdeaa
open Go.Shelf Go.RowKit Go.Lib Go.Sort
set_option linter.unusedVariables false
set_option maxRecDepth 100000

def linA (l : List DeedD) (i : Nat) : Int := (l[i]?.map DeedD.lin).getD 0
def tookA (l : List DeedD) (i : Nat) : Bool := (l[i]?.map tookB).getD false
theorem linA_at (l : List DeedD) {i : Nat} (h : i < l.length) : linA l i = l[i].lin := by simp [linA, h]
theorem tookA_at (l : List DeedD) {i : Nat} (h : i < l.length) : tookA l i = tookB l[i] := by simp [tookA, h]
def placesK (l : List DeedD) (k : Nat) : List Nat := (List.range k).filter (tookA l)
def places (l : List DeedD) : List Nat := placesK l l.length
theorem placesK_yes {l : List DeedD} {k : Nat} (h : tookA l k = true) : placesK l (k + 1) = placesK l k ++ [k] := by unfold placesK; rw [List.range_succ, List.filter_append]; simp [h]
theorem placesK_no {l : List DeedD} {k : Nat} (h : tookA l k = false) : placesK l (k + 1) = placesK l k := by unfold placesK; rw [List.range_succ, List.filter_append]; simp [h]
theorem placesK_lt {l : List DeedD} {k x : Nat} (h : x ∈ placesK l k) : x < k := by unfold placesK at h; rw [List.mem_filter] at h; exact List.mem_range.1 h.1
theorem placesK_len (l : List DeedD) (k : Nat) : (placesK l k).length ≤ k := by
  unfold placesK
  refine Nat.le_trans (List.length_filter_le _ _) ?_
  rw [List.length_range]; exact Nat.le_refl _
theorem places_asc (l : List DeedD) (k : Nat) : (placesK l k).Pairwise (· < ·) := List.Pairwise.filter _ List.pairwise_lt_range
structure OrdK (l : List DeedD) (k : Nat) (o : List Nat) : Prop where
  perm : o.Perm (placesK l k)
  asc : o.Pairwise (Lx (linA l))
theorem OrdK.mem {l : List DeedD} {k : Nat} {o : List Nat} (h : OrdK l k o) {x : Nat} (hx : x ∈ o) : x < k := placesK_lt (h.perm.mem_iff.1 hx)
theorem OrdK.len {l : List DeedD} {k : Nat} {o : List Nat} (h : OrdK l k o) : o.length ≤ k := by rw [h.perm.length_eq]; exact placesK_len l k
theorem OrdK.eq {l : List DeedD} {k : Nat} {o o' : List Nat} (h : OrdK l k o) (h' : OrdK l k o') : o = o' := by
  refine List.Perm.eq_of_pairwise (fun a b _ _ h1 h2 => ?_) h.asc h'.asc (h.perm.trans h'.perm.symm)
  unfold Lx at h1 h2
  omega
def ordL (l : List DeedD) : List Nat := (places l).mergeSort (fun x y => !ltX (linA l) y x)
theorem ordL_ord (l : List DeedD) : OrdK l l.length (ordL l) := by
  refine ⟨List.mergeSort_perm _ _, ?_⟩
  have h1 : (ordL l).Pairwise (fun x y => (!ltX (linA l) y x) = true) := List.pairwise_mergeSort (fun a b c h1 h2 => by
    rw [Bool.not_eq_true'] at *
    exact (swoX (linA l)).ntrans _ _ _ h2 h1) (fun a b => by
    cases h : ltX (linA l) a b
    · simp
    · rw [(swoX (linA l)).asymmA h]; simp) _
  have h2 : (ordL l).Nodup := (List.mergeSort_perm _ _).nodup_iff.2 ((places_asc l l.length).imp (fun h => Nat.ne_of_lt h))
  refine (h1.and h2).imp (fun {x y} h => ?_)
  obtain ⟨h3, h4⟩ := h
  rw [Bool.not_eq_true'] at h3
  unfold ltX at h3
  simp only [Bool.or_eq_false_iff, Bool.and_eq_false_iff, decide_eq_false_iff_not] at h3
  unfold Lx
  omega
theorem OrdK.is {l : List DeedD} {o : List Nat} (h : OrdK l l.length o) : o = ordL l := h.eq (ordL_ord l)
theorem OrdK.start (l : List DeedD) : OrdK l 0 [] := ⟨List.Perm.refl _, List.Pairwise.nil⟩
theorem OrdK.skip {l : List DeedD} {k : Nat} {o : List Nat} (h : OrdK l k o) (ht : tookA l k = false) : OrdK l (k + 1) o := ⟨by rw [placesK_no ht]; exact h.perm, h.asc⟩
theorem OrdK.put {l : List DeedD} {k j : Nat} {o : List Nat} (h : OrdK l k o) (ht : tookA l k = true) (hj : j ≤ o.length) (hg : ∀ i (hi : i < o.length), j ≤ i → linA l k < linA l o[i]) (hl : ∀ (hi : j - 1 < o.length), j = 0 ∨ linA l o[j - 1] ≤ linA l k) :
    OrdK l (k + 1) (o.take j ++ k :: o.drop j) := by
  refine ⟨?_, ?_⟩
  · rw [placesK_yes ht]
    refine List.perm_middle.trans ?_
    rw [List.take_append_drop]
    exact (h.perm.cons k).trans (List.perm_append_singleton k _).symm
  · have hp := h.asc
    rw [← List.take_append_drop j o, List.pairwise_append] at hp
    rw [List.pairwise_append]
    refine ⟨hp.1, List.pairwise_cons.2 ⟨fun y hy => ?_, hp.2.1⟩, fun x hx y hy => ?_⟩
    · obtain ⟨i, hi, rfl⟩ := List.mem_iff_getElem.1 hy
      rw [List.getElem_drop]
      left
      exact hg _ (by rw [List.length_drop] at hi; omega) (by omega)
    · rcases List.mem_cons.1 hy with rfl | hy
      · obtain ⟨i, hi, rfl⟩ := List.mem_iff_getElem.1 hx
        rw [List.length_take] at hi
        rw [List.getElem_take]
        have hio : i < o.length := by omega
        have hk := h.mem (List.getElem_mem hio)
        have hle : linA l o[i] ≤ linA l y := by
          rcases hl (by omega) with hz | hz
          · omega
          · by_cases e : i = j - 1
            · subst e; exact hz
            · have := List.pairwise_iff_getElem.1 h.asc i (j - 1) hio (by omega) (by omega)
              unfold Lx at this
              omega
        unfold Lx
        omega
      · exact hp.2.2 x hx y hy

/-! a row of places, sorted -/
def atP (zs : List Nat) (j : Nat) : Nat := zs.getD j (zs.headD 0)
theorem atP_at {zs : List Nat} {j : Nat} (h : j < zs.length) : atP zs j = zs[j] := by simp [atP, h]
theorem atP_mem {zs : List Nat} (h : zs ≠ []) (j : Nat) : atP zs j ∈ zs := by
  by_cases hj : j < zs.length
  · rw [atP_at hj]; exact List.getElem_mem hj
  · cases zs with
    | nil => exact absurd rfl h
    | cons z r =>
      have e : (z :: r)[j]? = none := List.getElem?_eq_none (Nat.le_of_not_lt hj)
      simp only [atP, List.getD, e, Option.getD_none, List.headD_cons]
      exact List.mem_cons.2 (Or.inl rfl)
def encP (zs : List Nat) (j : Nat) : Value := .int .i64 (atP zs j : Int)
def zOf (zs : List Nat) : List Int := zs.map (fun (j : Nat) => (j : Int))
theorem zOf_len (zs : List Nat) : (zOf zs).length = zs.length := by simp [zOf]
theorem cellsI2_len (zs : List Int) : (cellsI2 zs).length = zs.length := by
  unfold cellsI2
  induction zs with
  | nil => rfl
  | cons z r ih => simp [ih]
theorem cellsI2_at (zs : List Int) (j : Nat) : (cellsI2 zs)[j]? = zs[j]?.map (fun z => .int .i64 z) := by
  unfold cellsI2
  induction zs generalizing j with
  | nil => simp
  | cons z r ih => cases j with
    | zero => simp
    | succ j => simpa using ih j
theorem row_start {base : Nat} {t : TypeId} {w : World} {g n cap : Nat} {zs : List Nat} (h : w.ownsRow base t 1 (.slice (some ⟨g, 0, none⟩) n cap) n (cellsI2 (zOf zs))) : Row1 (encP zs) w g 0 (Array.range n) := by
  obtain ⟨h1, h2⟩ := h
  rw [cellsI2_len, zOf_len, Nat.mul_one] at h1
  rcases h2 with ⟨h2, _⟩ | ⟨g', cap', cur, hv, hb, hh, hn, hc, hs, ht⟩
  · cases h2
  injection hv with e1 e2 e3
  rw [Option.some.injEq, Addr.mk.injEq] at e1
  obtain ⟨rfl, _, _⟩ := e1
  subst e3
  rw [Nat.mul_one] at hs ht
  refine ⟨fun _ => rfl, fun j hj => ?_, (Array.getElem?_eq_some_iff.1 hh).1⟩
  rw [Array.size_range] at hj
  have hcur : cur[j]? = some (encP zs (Array.range n)[j]!) := by
    have e : (cur.toList.take n)[j]? = (cellsI2 (zOf zs))[j]? := by rw [ht]
    rw [List.getElem?_take, if_pos hj, cellsI2_at] at e
    rw [← Array.getElem?_toList, e]
    rw [getElem!_pos _ j (by simpa using hj)]
    simp [zOf, encP, atP_at (show j < zs.length by omega), List.getElem?_eq_getElem (show j < zs.length by omega)]
  refine ⟨?_, ?_⟩
  · simp only [World.cell?, hh, Nat.zero_add]
    simpa using hcur
  · simp [World.frozen?, hh]
theorem SW.belowB {enc : Nat → Value} {w0 W : World} {g : Nat} {d : Array Nat} {B : Nat} (h : SW enc w0 g 0 d W) (hB : B ≤ g) (hg : g < w0.heap.size) : Below B w0 W := by
  obtain ⟨m, os, rfl⟩ := h
  refine ⟨rfl, rfl, rfl, ?_, fun i hi => ?_⟩
  · unfold sortWorld; rw [size_grow, size_putRow]; show w0.heap.size ≤ w0.heap.size + _; omega
  · show ((putRow enc (Sort.ahead w0 m) g 0 d).heap ++ os)[i]? = _
    have hs : (putRow enc (Sort.ahead w0 m) g 0 d).heap.size = w0.heap.size := size_putRow enc (Sort.ahead w0 m) g 0 d
    rw [Array.getElem?_append_left (by rw [hs]; omega)]
    show (w0.heap.modify g _)[i]? = _
    rw [Array.getElem?_modify, if_neg (by omega)]
theorem row_end {base : Nat} {t : TypeId} {w W : World} {g n cap : Nat} {zs : List Nat} {d : Array Nat} (h : w.ownsRow base t 1 (.slice (some ⟨g, 0, none⟩) n cap) n (cellsI2 (zOf zs))) (hW : SW (encP zs) w g 0 d W) (hd : d.size = n) :
    W.ownsRow base t 1 (.slice (some ⟨g, 0, none⟩) n cap) n (cellsI2 (zOf ((List.range n).map (fun i => atP zs d[i]!)))) := by
  obtain ⟨m, os, rfl⟩ := hW
  obtain ⟨h1, h2⟩ := h
  refine ⟨by rw [cellsI2_len, zOf_len]; simp, ?_⟩
  rcases h2 with ⟨h2, _⟩ | ⟨g', cap', cur, hv, hb, hh, hn, hc, hs, ht⟩
  · cases h2
  injection hv with e1 e2 e3
  rw [Option.some.injEq, Addr.mk.injEq] at e1
  obtain ⟨rfl, _, _⟩ := e1
  subst e3
  have hg := (Array.getElem?_eq_some_iff.1 hh).1
  refine .inr ⟨g, cap, putCells (encP zs) 0 d cur, rfl, hb, ?_, hn, hc, by rw [← hs]; simp [putCells], ?_⟩
  · show ((putRow (encP zs) (Sort.ahead w m) g 0 d).heap ++ os)[g]? = _
    have hz : (putRow (encP zs) (Sort.ahead w m) g 0 d).heap.size = w.heap.size := size_putRow (encP zs) (Sort.ahead w m) g 0 d
    rw [Array.getElem?_append_left (by rw [hz]; exact hg)]
    show (w.heap.modify g _)[g]? = _
    rw [Array.getElem?_modify, if_pos rfl, hh]
    rfl
  · rw [Nat.mul_one] at *
    apply List.ext_getElem?
    intro j
    rw [List.getElem?_take, cellsI2_at]
    by_cases hj : j < n
    · rw [if_pos hj, Array.getElem?_toList]
      have hjc : j < cur.size := by omega
      simp only [putCells, Array.getElem?_mapIdx, Array.getElem?_eq_getElem hjc, Option.map_some]
      rw [if_pos ⟨Nat.zero_le _, by omega⟩]
      simp [zOf, encP, hj]
    · rw [if_neg hj]
      simp [zOf, hj]
/-- What the sort of the places leaves is the order. -/
theorem sorted_ord {l : List DeedD} {d : Array Nat} (hp : PermAll 0 (places l).length (Array.range (places l).length) d) (ha : Asc (fun j => linA l (atP (places l) j)) 0 (places l).length d) :
    (List.range (places l).length).map (fun i => atP (places l) d[i]!) = ordL l := by
  have hn : (Array.range (places l).length).size = (places l).length := Array.size_range
  generalize hN : (places l).length = n at *
  have hs : d.size = n := (hp.size (by rw [hn]; exact Nat.le_refl _)).trans hn
  have p1 := (hp 0 n (Nat.le_refl _) (Nat.le_refl _) (by rw [hn]; exact Nat.le_refl _)).2.2
  rw [extract_toList _ 0 n (by rw [hs]; exact Nat.le_refl _), extract_toList _ 0 n (by rw [hn]; exact Nat.le_refl _), Nat.sub_zero] at p1
  have e1 : (List.range' 0 n).map (fun i => (Array.range n)[i]!) = List.range n := by
    rw [← List.range_eq_range']
    rw [List.map_congr_left (g := id) (fun x hx => by
      have := List.mem_range.1 hx
      rw [getElem!_pos _ x (by simpa using this)]; simp), List.map_id]
  rw [e1, ← List.range_eq_range'] at p1
  have hlt : ∀ i, i < n → d[i]! < n := fun i hi => by
    have : d[i]! ∈ (List.range n).map (fun i => d[i]!) := List.mem_map.2 ⟨i, List.mem_range.2 hi, rfl⟩
    exact List.mem_range.1 (p1.mem_iff.1 this)
  refine OrdK.is ⟨?_, ?_⟩
  · have p2 := p1.map (atP (places l))
    rw [List.map_map] at p2
    refine p2.trans ?_
    have e2 : (List.range n).map (atP (places l)) = places l := by
      apply List.ext_getElem
      · simp [hN]
      · intro i h1 h2
        rw [List.getElem_map, List.getElem_range, atP_at h2]
    rw [e2]
    exact List.Perm.refl _
  · rw [List.pairwise_iff_getElem]
    intro i j hi hj hij
    simp only [List.length_map, List.length_range] at hi hj
    simp only [List.getElem_map, List.getElem_range]
    have h1 := ha i j (Nat.zero_le _) hij hj
    have h2 := hlt i hi
    have h3 := hlt j hj
    unfold Lx at *
    rcases h1 with h1 | ⟨h1, h4⟩
    · exact Or.inl h1
    · refine Or.inr ⟨h1, ?_⟩
      rw [atP_at (by omega), atP_at (by omega)]
      exact List.pairwise_iff_getElem.1 (places_asc l l.length) _ _ (by show _ < (places l).length; omega) (by show _ < (places l).length; omega) h4
end Go.Proofs.Ytopngelgpfjdeaa
namespace Go.Proofs.Ytopngelgpfjdeaa
open Go.ChangeShapes Go.WideShapes Go.ChangeAt Go.RowKit
set_option linter.unusedVariables false
set_option maxRecDepth 100000

theorem step_append2 {P : Program} {w : World} {ops : Array Oper} {o : Oper} {a : Act} {K : Act → World → Prop} {Q : Exit → Act → World → Prop} {E : Prop} (hgd : o.guard = none) (s x : Operand) (t : TypeId)
    (ho : o.op = .call { callee := .builtin .append, args := #[s, x], argTypes := #[t, t] })
    (base : Nat) (e : TypeId) (z : Value) (size bytes : Nat) (ht : P.underlying t = some (.slice e)) (hinf : (P.info? e).map (fun i => (i.zero, i.size, i.bytes)) = some (some z, size, bytes)) (hzs : z.cells.size = size) (hsz : 0 < size)
    (v : Value) (n : Nat) (xs : List Value) (hs : a.eval s = v) (hown : w.ownsRow base e size v n xs)
    (ad : Addr) (m c : Nat) (news : List Value) (hx : a.eval x = .slice (some ad) m c) (hl : news.length = m * size) (hnews : ∀ j u, news[j]? = some u → w.cell? (ad.add j) = some u) (h1 : ∀ u ∈ news, u.oneCell' = true)
    (h63 : n + m ≤ maxLen) (hbytes : (n + m) * bytes ≤ 140737488355328) (hbase : base ≤ w.heap.size)
    (h : ∀ v' w', w'.ownsRow base e size v' (n + m) (xs ++ news) → w.grownBy w' v.ownBlock → (v'.ownBlock = v.ownBlock ∨ v'.ownBlock = some w.heap.size) → K (a.put o.dst v') w') :
    if Region.wanted o (yielded ops a.tmps) = true then Oper.wp P o a w K Q else E := by
  have hw : Region.wanted o (yielded ops a.tmps) = true := by simp [Region.wanted, hgd]
  rw [if_pos hw]
  obtain ⟨i, hi, hz, h2, h3⟩ := info_parts hinf
  obtain ⟨v', w', hr, g2, g3, g4⟩ := run_append2 (P := P) w base t o.type e i z size bytes ht hi hz h2 h3 hzs hsz v n xs hown ad m c news hl hnews h1 h63 hbytes hbase
  unfold Oper.wp execOp
  simp only [ho, resolve, invoke, builtin, Sem.run_bind, Sem.run_pure, Result.andThen_ok, List.map_toArray, List.map_cons, List.map_nil, hs, hx, hr]
  exact h v' w' g2 g3 g4
structure InA (t : TypeId) (N : Nat) (w1 wc : World) (v : Value) (n : Nat) (xs : List Value) : Prop where
  row : wc.ownsRow w1.heap.size t N v n xs
  bel : Below w1.heap.size w1 wc
structure InX (w1 wc : World) (bx : Nat) (cs : List Value) : Prop where
  lo : w1.heap.size ≤ bx
  hi : bx < wc.heap.size
  cell : ∀ j u, cs[j]? = some u → wc.cell? ((⟨bx, 0, none⟩ : Addr).add j) = some u
  bel : Below w1.heap.size w1 wc
variable {t : TypeId} {N : Nat} {w1 wc w' : World} {v v' : Value} {n m bx : Nat} {xs news cs : List Value}
theorem size_of_held {B : Nat} {w1 wc : World} (h : Below w1.heap.size w1 wc) (hB : wc.heap.size = B) : Hid (wc.heap.size = B) := hB
theorem InA.le (h : InA t N w1 wc v n xs) : w1.heap.size ≤ wc.heap.size := h.bel.size
theorem InA.start (hb : Below w1.heap.size w1 wc) : InA t N w1 (wc.alloc (.cells #[] t)) (.slice (some ⟨wc.heap.size, 0, none⟩) 0 0) 0 [] :=
  ⟨World.ownsRow_made wc #[] 0 hb.size (by unfold maxLen; omega) (by simp), bthen hb (bnew wc _)⟩
theorem InA.alloc (h : InA t N w1 wc v n xs) (o : Obj) : InA t N w1 (wc.alloc o) v n xs := ⟨owns_below h.row (bnew wc o), bthen h.bel (bnew wc o)⟩
theorem InX.start (hb : Below w1.heap.size w1 wc) (cs : Array Value) (t : TypeId) : InX w1 (wc.alloc (.cells cs t)) wc.heap.size cs.toList :=
  ⟨hb.size, by simp, fun j u hu => by
    have := (lit_cells4 wc cs.toList t) j u hu
    simpa using this, bthen hb (bnew wc _)⟩
theorem InX.alloc (h : InX w1 wc bx cs) (o : Obj) : InX w1 (wc.alloc o) bx cs :=
  ⟨h.lo, by simp; have := h.hi; omega, fun j u hu => by
    have hc := h.cell j u hu
    rw [(bnew wc o).cell (by rw [block_add]; exact h.hi)]
    exact hc, bthen h.bel (bnew wc o)⟩
theorem InA.apart (h : InA t N w1 wc v n xs) : v.ownBlock ≠ some wc.heap.size := fun e => by have := (h.row.lt _ e).2; omega
theorem InX.apart (h : InX w1 wc bx cs) : (Value.slice (some ⟨wc.heap.size, 0, none⟩) 0 0).ownBlock ≠ some bx := fun e => by
  simp only [Value.ownBlock, Option.some.injEq] at e
  have := h.hi
  omega
theorem InA.start2 {B : Nat} (hb : Below w1.heap.size w1 wc) (hB : wc.heap.size = B) : InA t N w1 (wc.alloc (.cells #[] t)) (.slice (some ⟨B, 0, none⟩) 0 0) 0 [] := by subst hB; exact InA.start hb
theorem InX.start2 {B : Nat} (hb : Below w1.heap.size w1 wc) (hB : wc.heap.size = B) (cs : Array Value) (t : TypeId) : InX w1 (wc.alloc (.cells cs t)) B cs.toList := by subst hB; exact InX.start hb cs t
theorem InA.apart2 {B : Nat} (h : InA t N w1 wc v n xs) (hB : wc.heap.size = B) : v.ownBlock ≠ some B := by subst hB; exact h.apart
theorem InX.apart2 {B : Nat} (h : InX w1 wc bx cs) (hB : wc.heap.size = B) : (Value.slice (some ⟨B, 0, none⟩) 0 0).ownBlock ≠ some bx := by subst hB; exact h.apart
theorem InA.app (h : InA t N w1 wc v n xs) (how : w'.ownsRow w1.heap.size t N v' (n + m) (xs ++ news)) (hg : wc.grownBy w' v.ownBlock) : InA t N w1 w' v' (n + m) (xs ++ news) :=
  ⟨how, grown_below h.bel hg (fun k hk => (h.row.lt k hk).1) h.le⟩
theorem InX.app (h : InX w1 wc bx cs) (ha : InA t N w1 wc v n xs) (hne : v.ownBlock ≠ some bx) (hg : wc.grownBy w' v.ownBlock) : InX w1 w' bx cs :=
  ⟨h.lo, Nat.lt_of_lt_of_le h.hi hg.size, fun j u hu => hg.cell (h.cell j u hu) (by rw [block_add]; exact fun e => hne e.symm), grown_below h.bel hg (fun k hk => (ha.row.lt k hk).1) ha.le⟩
theorem ne_app (hx : InX w1 wc bx cs) (hne : v.ownBlock ≠ some bx) (hv : v'.ownBlock = v.ownBlock ∨ v'.ownBlock = some wc.heap.size) : v'.ownBlock ≠ some bx := by
  rcases hv with h | h
  · rw [h]; exact hne
  · rw [h, ne_eq, Option.some.injEq]; have := hx.hi; omega
theorem news_old {ad : Addr} (hb : Below w1.heap.size w1 wc) (hlt : ad.block < w1.heap.size) (h : ∀ j u, cs[j]? = some u → w1.cell? (ad.add j) = some u) : ∀ j u, cs[j]? = some u → wc.cell? (ad.add j) = some u := fun j u hu => by
  rw [hb.cell (by rw [block_add]; exact hlt)]
  exact h j u hu
theorem row_parts {w : World} {base g k cap : Nat} {xs : List Value} (h : w.ownsRow base t N (.slice (some ⟨g, 0, none⟩) n cap) n xs) (hk : k ≤ n) :
    (∀ j u, (xs.take (k * N))[j]? = some u → w.cell? ((⟨g, 0, none⟩ : Addr).add j) = some u) ∧ (∀ j u, (xs.drop (k * N))[j]? = some u → w.cell? ((⟨g, k * N, none⟩ : Addr).add j) = some u) ∧ (xs.take (k * N)).length = k * N ∧ (xs.drop (k * N)).length = (n - k) * N := by
  have hc := h.cells (g := g) rfl
  have hl := h.1
  have hm : k * N ≤ n * N := Nat.mul_le_mul_right _ hk
  refine ⟨fun j u hu => ?_, fun j u hu => ?_, by rw [List.length_take]; omega, by rw [List.length_drop, hl, Nat.sub_mul]⟩
  · rw [List.getElem?_take] at hu
    split at hu
    · exact hc j u hu
    · cases hu
  · rw [List.getElem?_drop] at hu
    have h2 := hc (k * N + j) u hu
    have e : (⟨g, k * N, none⟩ : Addr).add j = (⟨g, 0, none⟩ : Addr).add (k * N + j) := by
      unfold Addr.add
      by_cases hj : j = 0
      · subst hj
        by_cases hk0 : k * N = 0
        · rw [hk0]
        · rw [if_pos rfl, if_neg (by omega)]; simp
      · rw [if_neg hj, if_neg (by omega)]; simp
    rw [e]; exact h2
theorem row_parts2 {w : World} {base g k cap : Nat} {xs : List Value} (h : w.ownsRow base t N (.slice (some ⟨g, 0, none⟩) n cap) n xs) (hk : k ≤ n) (hN : 0 < N) :
    ∀ j u, (xs.drop (k * N))[j]? = some u → w.cell? ((if cap = k then (⟨g, 0, none⟩ : Addr) else ⟨g, k * N, none⟩).add j) = some u := by
  intro j u hu
  have hp := (row_parts h hk).2.1 j u hu
  by_cases hc : cap = k
  · exfalso
    rcases h.2 with ⟨h2, _⟩ | ⟨g', cap', cur, hv, hb, hh, hn, hc', hs, ht⟩
    · cases h2
    injection hv with e1 e2 e3
    have hl := h.1
    have : (xs.drop (k * N)).length = 0 := by rw [List.length_drop, hl, show n = k by omega]; omega
    rw [List.length_eq_zero_iff] at this
    rw [this] at hu
    simp at hu
  · rw [if_neg hc]; exact hp
end Go.Proofs.Ytopngelgpfjdeaa
namespace Go.Proofs.Ytopngelgpfjdeaa
open Go.ChangeShapes Go.WideShapes Go.ChangeAt Go.RowKit Go.Sort
set_option linter.unusedVariables false
set_option maxRecDepth 100000

theorem below_grown2 {B : Nat} {w0 w : World} (h : Below B w0 w) (hB : B ≤ w.heap.size) (n : Nat) (os : Array Obj) : Below B w0 (grow (w.drewN n) os) :=
  h.trans ⟨rfl, rfl, rfl, by simp [grow], fun i hi => by
    show ((w.drewN n).heap ++ os)[i]? = _
    rw [Array.getElem?_append_left (by show i < w.heap.size; omega)]
    rfl⟩
theorem owns_grown {base : Nat} {w : World} {e : TypeId} {size : Nat} {v : Value} {n : Nat} {xs : List Value} (h : w.ownsRow base e size v n xs) (m : Nat) (os : Array Obj) : (grow (w.drewN m) os).ownsRow base e size v n xs :=
  owns_below h (below_grown2 (Below.refl _ _) (Nat.le_refl _) m os)
theorem zcell {base : Nat} {w : World} {g n cap : Nat} {zs : List Nat} {t : TypeId} (h : w.ownsRow base t 1 (.slice (some ⟨g, 0, none⟩) n cap) n (cellsI2 (zOf zs))) (j : Nat) (hj : j < zs.length) : w.cell? ⟨g, j, none⟩ = some (.int .i64 (zs[j] : Int)) := by
  have := h.cells (g := g) rfl j (.int .i64 (zs[j] : Int)) (by rw [cellsI2_at]; simp [zOf, hj])
  have e : (⟨g, 0, none⟩ : Addr).add j = ⟨g, j, none⟩ := by unfold Addr.add; split <;> simp_all
  rw [e] at this; exact this
theorem cellsI2_take (zs : List Nat) (k : Nat) : (cellsI2 (zOf zs)).take k = cellsI2 (zOf (zs.take k)) := by
  apply List.ext_getElem?
  intro i
  simp only [List.getElem?_take, cellsI2_at, zOf, List.getElem?_map]
  split <;> simp
theorem cellsI2_drop (zs : List Nat) (k : Nat) : (cellsI2 (zOf zs)).drop k = cellsI2 (zOf (zs.drop k)) := by
  apply List.ext_getElem?
  intro i
  simp only [List.getElem?_drop, cellsI2_at, zOf, List.getElem?_map]
theorem cellsI2_one (zs : List Int) : ∀ u ∈ cellsI2 zs, u.oneCell' = true := by
  intro u hu
  unfold cellsI2 at hu
  obtain ⟨z, _, h⟩ := List.mem_flatMap.1 hu
  simp at h; subst h; rfl
theorem cellsI2_put (zs : List Nat) (j k : Nat) : [] ++ (cellsI2 (zOf zs)).take (j * 1) ++ [.int .i64 (k : Int)] ++ (cellsI2 (zOf zs)).drop (j * 1) = cellsI2 (zOf (zs.take j ++ k :: zs.drop j)) := by
  rw [Nat.mul_one, cellsI2_take, cellsI2_drop]
  simp [cellsI2, zOf]
theorem slice_form {w : World} {base : Nat} {t : TypeId} {N n : Nat} {v : Value} {xs : List Value} (h : w.ownsRow base t N v n xs) (hn : 0 < n) : ∃ g cap, v = .slice (some ⟨g, 0, none⟩) n cap := by
  rcases h.2 with ⟨_, h2⟩ | ⟨g, cap, cur, hv, _⟩
  · omega
  · exact ⟨g, cap, hv⟩
theorem cap_le {w : World} {base : Nat} {t : TypeId} {N n g cap : Nat} {xs : List Value} (h : w.ownsRow base t N (.slice (some ⟨g, 0, none⟩) n cap) n xs) : n ≤ cap ∧ cap ≤ maxLen ∧ g < w.heap.size := by
  rcases h.2 with ⟨h2, _⟩ | ⟨g', cap', cur, hv, hb, hh, hn, hc, hs, ht⟩
  · cases h2
  injection hv with e1 e2 e3
  subst e3
  exact ⟨hn, hc, (h.lt g rfl).2⟩
theorem lin_cell {l : List DeedD} {w wr : World} {S0 : Nat → Prop} {b o m cap k : Nat} (h : LAt 20 deedR w S0 (.slice (some ⟨b, o, none⟩) m cap) l) (hb : Below w.heap.size w wr) (hk : k < l.length) : wr.cell? ⟨b, o + k * 20 + 18, none⟩ = some (.int .i64 (linA l k)) := by
  obtain ⟨b', o', cs', hbe, hbk', hSb', hcs', hin'⟩ := h.at k hk
  rw [Option.some.injEq, Addr.mk.injEq] at hbe
  obtain ⟨rfl, rfl, _⟩ := hbe
  have hcs' := deedR_keeps _ _ S0 None1 cs' _ (Below.turn hb) none_off hcs'
  have hin' := hin'.turn hbk' (Below.turn hb) (fun e => e)
  rw [linA_at l hk]; exact hin' 18 _ (deedR_c18 hcs')
def SpOrd (l : List DeedD) (w wk : World) (k : Nat) (o : Value) (zs : List Nat) : Prop := OrdK l k zs ∧ wk.ownsRow w.heap.size 3 1 o zs.length (cellsI2 (zOf zs)) ∧ Below w.heap.size w wk
theorem owns_base {base base' : Nat} {w : World} {e : TypeId} {size : Nat} {v : Value} {n : Nat} {xs : List Value} (h : w.ownsRow base e size v n xs) (hb : base' ≤ base) : w.ownsRow base' e size v n xs := by
  obtain ⟨h1, h2⟩ := h
  refine ⟨h1, ?_⟩
  rcases h2 with h2 | ⟨g, cap, cur, hv, hg, rest⟩
  · exact .inl h2
  · exact .inr ⟨g, cap, cur, hv, Nat.le_trans hb hg, rest⟩
theorem spord_step {l : List DeedD} {w w2 wk : World} {k J gN cN n : Nat} {zs : List Nat} (hP : OrdK l (k + 1) (zs.take J ++ k :: zs.drop J)) (hb : Below w.heap.size w w2)
    (hA : InA 3 1 w2 wk (.slice (some ⟨gN, 0, none⟩) n cN) n ([] ++ (cellsI2 (zOf zs)).take (J * 1) ++ [.int .i64 (k : Int)] ++ (cellsI2 (zOf zs)).drop (J * 1))) :
    n = (zs.take J ++ k :: zs.drop J).length ∧ SpOrd l w wk (k + 1) (.slice (some ⟨gN, 0, none⟩) (zs.take J ++ k :: zs.drop J).length cN) (zs.take J ++ k :: zs.drop J) := by
  have hr := hA.row
  have hbel := hA.bel
  rw [cellsI2_put] at hr
  have hn := hr.1
  rw [cellsI2_len, zOf_len, Nat.mul_one] at hn
  refine ⟨hn.symm, hP, ?_, bthen hb hbel⟩
  rw [hn]
  exact owns_base hr hb.size
def Greater (l : List DeedD) (zs : List Nat) (k j : Nat) : Prop := ∀ i (hi : i < zs.length), j ≤ i → linA l k < linA l zs[i]
set_option maxHeartbeats 2500000 in
theorem specOrder (l : List DeedD) (S0 : Nat → Prop) (v0 : Value) (w : World) (h0 : LAt 20 deedR w S0 v0 l) (b0 : bulkL deedBulk l ≤ 1048576) :
    Calls Try.prog 22 #[v0] w fun e w' => ∃ v', e = .returned v' ∧ w'.ownsRow w.heap.size 3 1 v' (ordL l).length (cellsI2 (zOf (ordL l))) ∧ Below w.heap.size w w' := by
  obtain ⟨a, cap0, rfl⟩ := h0.form
  have hlen := bulkL_len deedBulk l
  have HA0 := hide h0
  clear h0
  have how0 := hide (show SpOrd l w (w.alloc (.cells #[] 3)) 0 (.slice (some ⟨w.heap.size, 0, none⟩) 0 0) [] from ⟨OrdK.start l, World.ownsRow_made (base := w.heap.size) (e := 3) (size := 1) w #[] 0 (Nat.le_refl _) (by unfold maxLen; omega) rfl, bnew w (.cells #[] 3)⟩)
  go_enter Try.func22, Try.ntmps22
  go_wp2
  go_loopw [3, 4] (fun o i wk => ∃ (k g cap : Nat) (zs : List Nat), k ≤ l.length ∧ i = .int .i64 k ∧ o = .slice (some ⟨g, 0, none⟩) zs.length cap ∧ Hid (SpOrd l w wk k (.slice (some ⟨g, 0, none⟩) zs.length cap) zs)) (fun _ i _ => l.length - (intOf i).toNat)
  case atStart => exact ⟨0, w.heap.size, 0, [], Nat.zero_le _, rfl, rfl, how0⟩
  case round =>
    obtain ⟨k, g, cap, zs, hk, rfl, rfl, hsp⟩ := hrel
    clear how0
    by_cases hlt : k < l.length
    · have hki : (k : Int) < (l.length : Int) := by omega
      have hbl := (unhide hsp).2.2
      obtain ⟨b, o, cs, rfl, hbk, hSb, hcs, hin⟩ := (unhide HA0).at k hlt
      have hcs := deedR_keeps _ _ S0 None1 cs _ (Below.turn hbl) none_off hcs
      have hin := hin.turn hbk (Below.turn hbl) (fun e => e)
      have p18 : wr.cell? ⟨b, o + k * 20 + 18, none⟩ = some (.int .i64 l[k].lin) := hin 18 _ (deedR_c18 hcs)
      have hlin := linA_at l hlt
      have htk := tookA_at l hlt
      rw [← hlin] at p18
      unfold tookB at htk
      rw [← hlin] at htk
      have HT := hide htk
      clear hin hcs hlin htk
      by_cases e1 : linA l k = -1
      · have q1 : (linA l k == -1) = true := by simpa using e1
        have HS := hide (show SpOrd l w wr (k + 1) (.slice (some ⟨g, 0, none⟩) zs.length cap) zs from ⟨(unhide hsp).1.skip (by rw [unhide HT]; simp [e1]), (unhide hsp).2⟩)
        clear e1 hbl hsp
        go_wp2
        go_roundw
        case rel => exact ⟨k + 1, g, cap, zs, by omega, by go_num, rfl, HS⟩
        case measure => simp [intOf]; omega
      · have q1 : (linA l k == -1) = false := by simpa using e1
        have HTK := hide (show tookA l k = true by rw [unhide HT]; simp [e1])
        have hzl := (unhide hsp).1.len
        have hgr0 : Hid (Greater l zs k zs.length) := hide (fun i hi h => by omega)
        clear e1 hbl HT
        go_wp2
        go_loopw [5] (fun s wx => ∃ j : Nat, j ≤ zs.length ∧ s = .int .i64 j ∧ Hid (Greater l zs k j) ∧ Hid (SpOrd l w wx k (.slice (some ⟨g, 0, none⟩) zs.length cap) zs)) (fun s _ => (intOf s).toNat)
        case atStart => exact ⟨zs.length, Nat.le_refl _, rfl, hgr0, hsp⟩
        case round =>
          obtain ⟨j, hj, rfl, hgr, hsx⟩ := hrel
          clear hsp hgr0 p18
          have hbx := (unhide hsx).2.2
          have hrx := (unhide hsx).2.1
          obtain ⟨hnc, hcm, hgl⟩ := cap_le hrx
          have hbw := Nat.lt_of_lt_of_le hbk hbx.size
          have p18' := cell_grown (a := ⟨b, o + k * 20 + 18, none⟩) hbw (lin_cell (unhide HA0) hbx hlt)
          have exitH : Hid (∀ wx, SpOrd l w wx k (.slice (some ⟨g, 0, none⟩) zs.length cap) zs → (∀ (hi : j - 1 < zs.length), j = 0 ∨ linA l zs[j - 1] ≤ linA l k) → OrdK l (k + 1) (zs.take j ++ k :: zs.drop j)) := hide (fun wx hs hi => hs.1.put (unhide HTK) hj (unhide hgr) hi)
          by_cases hj0 : 0 < j
          · obtain ⟨jp, rfl⟩ : ∃ q, j = q + 1 := ⟨j - 1, by omega⟩
            have hjp : jp < zs.length := by omega
            have zj : decide (((jp + 1 : Nat) : Int) > 0) = true := decide_eq_true (by omega)
            have zj' : decide ((jp : Int) + 1 > 0) = true := decide_eq_true (by omega)
            have zj2 : (0 : Int) < (jp : Int) + 1 := by omega
            have hz := (unhide hsx).1.mem (List.getElem_mem hjp)
            have hzl2 : zs[jp] < l.length := by omega
            have cz := cell_grown (a := ⟨g, jp, none⟩) hgl (zcell hrx jp hjp)
            have z18' := cell_grown (a := ⟨b, o + zs[jp] * 20 + 18, none⟩) hbw (lin_cell (unhide HA0) hbx hzl2)
            have HGJ : Hid (linA l k < linA l zs[jp] → Greater l zs k jp) := hide (fun h i hi hle => by
              by_cases e : i = jp
              · subst e; exact h
              · exact unhide hgr i hi (by omega))
            have HLJ : Hid (¬ linA l k < linA l zs[jp] → ∀ (hi : jp + 1 - 1 < zs.length), jp + 1 = 0 ∨ linA l zs[jp + 1 - 1] ≤ linA l k) := hide (fun h hi => Or.inr (by simpa using h))
            generalize linA l zs[jp] = Z at *
            generalize linA l k = Y at *
            generalize zs[jp] = z at *
            have f1 : (0 : Int) ≤ (jp : Int) := by omega
            have f0 : IntKind.i64.wrap (jp : Int) = (jp : Int) := by rw [IntKind.wrap_i64]; omega
            have f2 : (jp : Int) < (zs.length : Int) := by omega
            have f3 : ((jp : Int)).toNat = jp := by omega
            have f4 : (0 : Int) ≤ (z : Int) := by omega
            have f5 : (z : Int) < (l.length : Int) := by omega
            have f6 : ((z : Int)).toNat = z := by omega
            have f7 : (0 : Int) ≤ (k : Int) := by omega
            have f8 : ((k : Int)).toNat = k := by omega
            have mixed : Try.prog.follows .mixedOrders = true := by kernel_rfl
            have HJ := hide hj
            clear hgr hz hjp hj0 hzl2 hj
            go_wp2_with fail
            by_cases hYZ : Y < Z
            · have zz : decide (Z > Y) = true := decide_eq_true hYZ
              have zz' : decide (Y < Z) = true := decide_eq_true hYZ
              go_quiet_grown (fail)
              have HS := hide (show SpOrd l w (grow (wr.drewN nq) osq) k (.slice (some ⟨g, 0, none⟩) zs.length cap) zs from ⟨(unhide hsx).1, owns_grown (unhide hsx).2.1 _ _, below_grown2 (unhide hsx).2.2 hbx.size _ _⟩)
              generalize grow (wr.drewN nq) osq = w2 at *
              have HG := hide (unhide HGJ hYZ)
              clear hsx exitH HGJ HLJ hrx cz p18' z18' hYZ zz zz'
              go_wp2
              go_roundw
              case rel => exact ⟨jp, by omega, rfl, HG, HS⟩
              case measure => simp [intOf]
            · have zz : decide (Z > Y) = false := decide_eq_false hYZ
              have zz' : decide (Y < Z) = false := decide_eq_false hYZ
              go_quiet_grown (fail)
              have HS := hide (show SpOrd l w (grow (wr.drewN nq) osq) k (.slice (some ⟨g, 0, none⟩) zs.length cap) zs from ⟨(unhide hsx).1, owns_grown (unhide hsx).2.1 _ _, below_grown2 (unhide hsx).2.2 hbx.size _ _⟩)
              generalize grow (wr.drewN nq) osq = w2 at *
              have HP := hide (unhide exitH _ (unhide hsx) (unhide HLJ (by omega)))
              clear hsx exitH HGJ HLJ hrx cz p18' z18' hYZ zz zz' hbx
              have hj : jp + 1 ≤ zs.length := unhide HJ
              have HPre := hide (unhide HS).2.2
              have hrow := (unhide HS).2.1
              obtain ⟨hnc, hcm, hgl⟩ := cap_le hrow
              obtain ⟨HP1, _, HP3, HP4⟩ := row_parts (k := (jp + 1)) hrow hj
              obtain ⟨ad0, nd0, cd0, had0, hnd0, hcd0⟩ : ∃ (ad : Addr) (n0 c0 : Nat), ad = (if cap = (jp + 1) then (⟨g, 0, none⟩ : Addr) else ⟨g, (jp + 1) * 1, none⟩) ∧ n0 = zs.length - (jp + 1) ∧ c0 = cap - (jp + 1) := ⟨_, _, _, rfl, rfl, rfl⟩
              have HP2 := row_parts2 (k := (jp + 1)) hrow hj (by omega)
              rw [← had0] at HP2
              rw [← hnd0] at HP4
              have hgl2 : ad0.block < w2.heap.size := by rw [had0]; split <;> exact hgl
              have HA0D := hide had0
              have HN0D := hide hnd0
              have HC0D := hide hcd0
              have hnd1 : (jp + 1) + nd0 = zs.length := by omega
              have HND := hide hnd1
              have hnd2 : nd0 ≤ zs.length := by omega
              clear had0 hnd0 hcd0 hnd1
              have hle2 : w.heap.size ≤ w2.heap.size := (unhide HPre).size
              have HPx := hide (And.intro HP3 HP4)
              go_wp2_with fail
              refine wp_region_held_drew (S := fun w' => Below w2.heap.size w2 w') (by kernel_rfl) (Below.drew (Below.refl _ _)) (fun hHeld => ?_)
              refine wpAnyH_take (i := 1) (oi := ?oo42) (v := ?vv42) ?hi42 (by kernel_rfl) (by kernel_rfl) (by kernel_rfl) ?hQ42 ?hy42 (by assumption) ?rest42
              case hi42 => (simp only [List.getElem?_toArray, List.getElem?_cons_zero, List.getElem?_cons_succ]; rfl)
              case hQ42 => exact fun _ _ _ h => h
              case hy42 => exact Or.inl ⟨by rfl, by intro wS hSw; (try dsimp only at hSw); go_simp; try first | (with_reducible rfl) | (simp only [*]; done) | omega⟩
              try simp only [Act.put, List.setIfInBounds_toArray, List.set_cons_zero, List.set_cons_succ]
              refine wpAnyH_take (i := 2) (oi := ?oo43) (v := ?vv43) ?hi43 (by kernel_rfl) (by kernel_rfl) (by kernel_rfl) ?hQ43 ?hy43 (by assumption) ?rest43
              case hi43 => (simp only [List.getElem?_toArray, List.getElem?_cons_zero, List.getElem?_cons_succ]; rfl)
              case hQ43 => exact fun _ _ _ h => h
              case hy43 => exact Or.inl ⟨by rfl, by intro wS hSw; (try dsimp only at hSw); go_simp; try first | (with_reducible rfl) | (simp only [*]; done) | omega⟩
              try simp only [Act.put, List.setIfInBounds_toArray, List.set_cons_zero, List.set_cons_succ]
              refine wpAnyH_take (i := 3) (oi := ?oo44) (v := ?vv44) ?hi44 (by kernel_rfl) (by kernel_rfl) (by kernel_rfl) ?hQ44 ?hy44 (by assumption) ?rest44
              case hi44 => (simp only [List.getElem?_toArray, List.getElem?_cons_zero, List.getElem?_cons_succ]; rfl)
              case hQ44 => exact fun _ _ _ h => h
              case hy44 => exact Or.inl ⟨by rfl, by intro wS hSw; (try dsimp only at hSw); go_simp; (try rw [if_pos (by omega)]); (try rw [if_pos (by omega)]); (try rfl)⟩
              try simp only [Act.put, List.setIfInBounds_toArray, List.set_cons_zero, List.set_cons_succ]
              refine wpAnyH_take (i := 5) (oi := ?oo45) (v := ?vv45) ?hi45 (by kernel_rfl) (by kernel_rfl) (by kernel_rfl) ?hQ45 ?hy45 (by assumption) ?rest45
              case hi45 => (simp only [List.getElem?_toArray, List.getElem?_cons_zero, List.getElem?_cons_succ]; rfl)
              case hQ45 => exact fun _ _ _ h => h
              case hy45 => exact Or.inl ⟨by rfl, by intro wS hSw; (try dsimp only at hSw); go_simp; try first | (with_reducible rfl) | (simp only [*]; done) | omega⟩
              try simp only [Act.put, List.setIfInBounds_toArray, List.set_cons_zero, List.set_cons_succ]
              refine wpAnyH_take (i := 8) (oi := ?oo46) (v := ?vv46) ?hi46 (by kernel_rfl) (by kernel_rfl) (by kernel_rfl) ?hQ46 ?hy46 (by assumption) ?rest46
              case hi46 => (simp only [List.getElem?_toArray, List.getElem?_cons_zero, List.getElem?_cons_succ]; rfl)
              case hQ46 => exact fun _ _ _ h => h
              case hy46 => exact Or.inl ⟨by rfl, by intro wS hSw; (try dsimp only at hSw); go_simp; try first | (with_reducible rfl) | (simp only [*]; done) | omega⟩
              try simp only [Act.put, List.setIfInBounds_toArray, List.set_cons_zero, List.set_cons_succ]
              refine wpAnyH_take (i := 9) (oi := ?oo47) (v := ?vv47) ?hi47 (by kernel_rfl) (by kernel_rfl) (by kernel_rfl) ?hQ47 ?hy47 (by assumption) ?rest47
              case hi47 => (simp only [List.getElem?_toArray, List.getElem?_cons_zero, List.getElem?_cons_succ]; rfl)
              case hQ47 => exact fun _ _ _ h => h
              case hy47 => exact Or.inl ⟨by rfl, by intro wS hSw; (try dsimp only at hSw); go_simp; try first | (with_reducible rfl) | (simp only [*]; done) | omega⟩
              try simp only [Act.put, List.setIfInBounds_toArray, List.set_cons_zero, List.set_cons_succ]
              refine wpAnyH_take (i := 10) (oi := ?oo48) (v := .slice (some ad0) nd0 cd0) ?hi48 (by kernel_rfl) (by kernel_rfl) (by kernel_rfl) ?hQ48 ?hy48 (by assumption) ?rest48
              case hi48 => (simp only [List.getElem?_toArray, List.getElem?_cons_zero, List.getElem?_cons_succ]; rfl)
              case hQ48 => exact fun _ _ _ h => h
              case hy48 => exact Or.inl ⟨by rfl, by intro wS hSw; (try dsimp only at hSw); go_simp; (try rw [if_pos (by omega)]); (try rw [if_pos (by omega)]); (rw [unhide HA0D, unhide HN0D, unhide HC0D]); (split <;> simp_all)⟩
              try simp only [Act.put, List.setIfInBounds_toArray, List.set_cons_zero, List.set_cons_succ]
              refine wpAnyH_ready (rs := [0, 6]) (by kernel_rfl) (by simp) ?_
              refine (AllReadyH.cons (o := ?bo49n0) ?bh49n0 (fun K hK => ?br49n0) (AllReadyH.cons (o := ?bo49n6) ?bh49n6 (fun K hK => ?br49n6) AllReadyH.nil))
              case bh49n0 => (simp only [List.getElem?_toArray, List.getElem?_cons_zero]; rfl)
              case bh49n6 => (simp only [List.getElem?_toArray, List.getElem?_cons_zero, List.getElem?_cons_succ]; rfl)
              case br49n0 =>
                go_simp
                have HA := InA.start (t := 3) (N := 1) hHeld
                refine hK.out _ _ (HA.bel) (fun hHeld => ?_)
                clear hK
                refine wpAnyH_ready (rs := [4, 6]) (by kernel_rfl) (by simp) ?_
                refine (AllReadyH.cons (o := ?bo50n4) ?bh50n4 (fun K hK => ?br50n4) (AllReadyH.cons (o := ?bo50n6) ?bh50n6 (fun K hK => ?br50n6) AllReadyH.nil))
                case bh50n4 => (simp only [List.getElem?_toArray, List.getElem?_cons_zero, List.getElem?_cons_succ]; rfl)
                case bh50n6 => (simp only [List.getElem?_toArray, List.getElem?_cons_zero, List.getElem?_cons_succ]; rfl)
                case br50n4 =>
                  refine step_append2 (by rfl) (.tmp 42) (.tmp 45) 69 (by rfl) w2.heap.size 3 _ 1 8 Try.underlying69 infoI2 rfl (by decide) _ 0 _ (by rfl) HA.row ⟨g, 0, none⟩ ((jp + 1)) _ ((cellsI2 (zOf zs)).take ((jp + 1) * 1)) (by rfl) HP3 (news_old HA.bel hgl HP1) (fun u hu => cellsI2_one _ u (List.mem_of_mem_take hu)) (by unfold maxLen; omega) (by omega) HA.le ?_
                  intro v' w' how hg hv
                  have HA := HA.app how hg
                  clear how hg hv
                  refine hK.out _ _ (HA.bel) (fun hHeld => ?_)
                  clear hK
                  refine wpAnyH_ready (rs := [6]) (by kernel_rfl) (by simp) ?_
                  refine (AllReadyH.cons (o := ?bo51n6) ?bh51n6 (fun K hK => ?br51n6) AllReadyH.nil)
                  case bh51n6 => (simp only [List.getElem?_toArray, List.getElem?_cons_zero, List.getElem?_cons_succ]; rfl)
                  case br51n6 =>
                    go_simp
                    have HN := HA.apart
                    have HA := HA.alloc (.cells #[.int .i64 (k : Int)] 3)
                    have HX := InX.start hHeld #[.int .i64 (k : Int)] 3
                    refine hK.out _ _ (HX.bel) (fun hHeld => ?_)
                    clear hK
                    refine wpAnyH_ready (rs := [7]) (by kernel_rfl) (by simp) ?_
                    refine (AllReadyH.cons (o := ?bo52n7) ?bh52n7 (fun K hK => ?br52n7) AllReadyH.nil)
                    case bh52n7 => (simp only [List.getElem?_toArray, List.getElem?_cons_zero, List.getElem?_cons_succ]; rfl)
                    case br52n7 =>
                      refine step_append2 (by rfl) (.tmp 46) (.tmp 48) 69 (by rfl) w2.heap.size 3 _ 1 8 Try.underlying69 infoI2 rfl (by decide) _ (0 + (jp + 1)) _ (by rfl) HA.row ⟨_, 0, none⟩ 1 1 [.int .i64 (k : Int)] (by rfl) rfl HX.cell (by intro u hu; simp at hu; subst hu; rfl) (by unfold maxLen; omega) (by omega) HA.le ?_
                      intro v' w' how hg hv
                      have HA := HA.app how hg
                      clear how hg hv
                      refine hK.out _ _ (HA.bel) (fun hHeld => ?_)
                      clear hK
                      refine wpAnyH_ready (rs := [11]) (by kernel_rfl) (by simp) ?_
                      refine (AllReadyH.cons (o := ?bo53n11) ?bh53n11 (fun K hK => ?br53n11) AllReadyH.nil)
                      case bh53n11 => (simp only [List.getElem?_toArray, List.getElem?_cons_zero, List.getElem?_cons_succ]; rfl)
                      case br53n11 =>
                        refine step_append2 (by rfl) (.tmp 49) (.tmp 52) 69 (by rfl) w2.heap.size 3 _ 1 8 Try.underlying69 infoI2 rfl (by decide) _ (0 + (jp + 1) + 1) _ (by rfl) HA.row ad0 nd0 cd0 ((cellsI2 (zOf zs)).drop ((jp + 1) * 1)) (by rfl) HP4 (news_old HA.bel hgl2 HP2) (fun u hu => cellsI2_one _ u (List.mem_of_mem_drop hu)) (by unfold maxLen; omega) (by omega) HA.le ?_
                        intro v' w' how hg hv
                        have HA := HA.app how hg
                        clear how hg hv
                        refine hK.out _ _ (HA.bel) (fun hHeld => ?_)
                        clear hK
                        refine wpAnyH_take (i := 12) (oi := ?oo54) (v := ?vv54) ?hi54 (by kernel_rfl) (by kernel_rfl) (by kernel_rfl) ?hQ54 ?hy54 (by assumption) ?rest54
                        case hi54 => (simp only [List.getElem?_toArray, List.getElem?_cons_zero, List.getElem?_cons_succ]; rfl)
                        case hQ54 => exact fun _ _ _ h => h
                        case hy54 => exact Or.inl ⟨by rfl, by intro wS hSw; (try dsimp only at hSw); go_simp; try first | (with_reducible rfl) | (simp only [*]; done) | omega⟩
                        try simp only [Act.put, List.setIfInBounds_toArray, List.set_cons_zero, List.set_cons_succ]
                        refine wpAnyH_done (by kernel_rfl) ?_ _
                        obtain ⟨gN, cN, rfl⟩ := slice_form HA.row (by omega)
                        obtain ⟨hnn, HSP⟩ := spord_step (unhide HP) (unhide HPre) HA
                        have HNN := hide hnn
                        have HSP := hide HSP
                        clear HA hnn
                        go_wp2
                        go_roundw
                        case rel => exact ⟨k + 1, gN, cN, zs.take (jp + 1) ++ k :: zs.drop (jp + 1), by omega, by go_num, by rw [unhide HNN], HSP⟩
                        case measure => simp [intOf]; omega
                case br50n6 =>
                  go_simp
                  have hsz1 := size_of_held (B := w2.heap.size + 1) hHeld (by first | (simp; done) | rfl)
                  have HN := HA.apart2 (unhide hsz1)
                  have HA := HA.alloc (.cells #[.int .i64 (k : Int)] 3)
                  have HX := InX.start2 hHeld (unhide hsz1) #[.int .i64 (k : Int)] 3
                  refine hK.out _ _ (HX.bel) (fun hHeld => ?_)
                  clear hK
                  refine wpAnyH_ready (rs := [4]) (by kernel_rfl) (by simp) ?_
                  refine (AllReadyH.cons (o := ?bo55n4) ?bh55n4 (fun K hK => ?br55n4) AllReadyH.nil)
                  case bh55n4 => (simp only [List.getElem?_toArray, List.getElem?_cons_zero, List.getElem?_cons_succ]; rfl)
                  case br55n4 =>
                    refine step_append2 (by rfl) (.tmp 42) (.tmp 45) 69 (by rfl) w2.heap.size 3 _ 1 8 Try.underlying69 infoI2 rfl (by decide) _ 0 _ (by rfl) HA.row ⟨g, 0, none⟩ ((jp + 1)) _ ((cellsI2 (zOf zs)).take ((jp + 1) * 1)) (by rfl) HP3 (news_old HA.bel hgl HP1) (fun u hu => cellsI2_one _ u (List.mem_of_mem_take hu)) (by unfold maxLen; omega) (by omega) HA.le ?_
                    intro v' w' how hg hv
                    have HN2 := ne_app HX HN hv
                    have HX := HX.app HA HN hg
                    have HN := HN2
                    have HA := HA.app how hg
                    clear how hg hv
                    refine hK.out _ _ (HA.bel) (fun hHeld => ?_)
                    clear hK
                    refine wpAnyH_ready (rs := [7]) (by kernel_rfl) (by simp) ?_
                    refine (AllReadyH.cons (o := ?bo56n7) ?bh56n7 (fun K hK => ?br56n7) AllReadyH.nil)
                    case bh56n7 => (simp only [List.getElem?_toArray, List.getElem?_cons_zero, List.getElem?_cons_succ]; rfl)
                    case br56n7 =>
                      refine step_append2 (by rfl) (.tmp 46) (.tmp 48) 69 (by rfl) w2.heap.size 3 _ 1 8 Try.underlying69 infoI2 rfl (by decide) _ (0 + (jp + 1)) _ (by rfl) HA.row ⟨_, 0, none⟩ 1 1 [.int .i64 (k : Int)] (by rfl) rfl HX.cell (by intro u hu; simp at hu; subst hu; rfl) (by unfold maxLen; omega) (by omega) HA.le ?_
                      intro v' w' how hg hv
                      have HA := HA.app how hg
                      clear how hg hv
                      refine hK.out _ _ (HA.bel) (fun hHeld => ?_)
                      clear hK
                      refine wpAnyH_ready (rs := [11]) (by kernel_rfl) (by simp) ?_
                      refine (AllReadyH.cons (o := ?bo57n11) ?bh57n11 (fun K hK => ?br57n11) AllReadyH.nil)
                      case bh57n11 => (simp only [List.getElem?_toArray, List.getElem?_cons_zero, List.getElem?_cons_succ]; rfl)
                      case br57n11 =>
                        refine step_append2 (by rfl) (.tmp 49) (.tmp 52) 69 (by rfl) w2.heap.size 3 _ 1 8 Try.underlying69 infoI2 rfl (by decide) _ (0 + (jp + 1) + 1) _ (by rfl) HA.row ad0 nd0 cd0 ((cellsI2 (zOf zs)).drop ((jp + 1) * 1)) (by rfl) HP4 (news_old HA.bel hgl2 HP2) (fun u hu => cellsI2_one _ u (List.mem_of_mem_drop hu)) (by unfold maxLen; omega) (by omega) HA.le ?_
                        intro v' w' how hg hv
                        have HA := HA.app how hg
                        clear how hg hv
                        refine hK.out _ _ (HA.bel) (fun hHeld => ?_)
                        clear hK
                        refine wpAnyH_take (i := 12) (oi := ?oo58) (v := ?vv58) ?hi58 (by kernel_rfl) (by kernel_rfl) (by kernel_rfl) ?hQ58 ?hy58 (by assumption) ?rest58
                        case hi58 => (simp only [List.getElem?_toArray, List.getElem?_cons_zero, List.getElem?_cons_succ]; rfl)
                        case hQ58 => exact fun _ _ _ h => h
                        case hy58 => exact Or.inl ⟨by rfl, by intro wS hSw; (try dsimp only at hSw); go_simp; try first | (with_reducible rfl) | (simp only [*]; done) | omega⟩
                        try simp only [Act.put, List.setIfInBounds_toArray, List.set_cons_zero, List.set_cons_succ]
                        refine wpAnyH_done (by kernel_rfl) ?_ _
                        obtain ⟨gN, cN, rfl⟩ := slice_form HA.row (by omega)
                        obtain ⟨hnn, HSP⟩ := spord_step (unhide HP) (unhide HPre) HA
                        have HNN := hide hnn
                        have HSP := hide HSP
                        clear HA hnn
                        go_wp2
                        go_roundw
                        case rel => exact ⟨k + 1, gN, cN, zs.take (jp + 1) ++ k :: zs.drop (jp + 1), by omega, by go_num, by rw [unhide HNN], HSP⟩
                        case measure => simp [intOf]; omega
              case br49n6 =>
                go_simp
                have HX := InX.start hHeld #[.int .i64 (k : Int)] 3
                refine hK.out _ _ (HX.bel) (fun hHeld => ?_)
                clear hK
                refine wpAnyH_ready (rs := [0]) (by kernel_rfl) (by simp) ?_
                refine (AllReadyH.cons (o := ?bo59n0) ?bh59n0 (fun K hK => ?br59n0) AllReadyH.nil)
                case bh59n0 => (simp only [List.getElem?_toArray, List.getElem?_cons_zero]; rfl)
                case br59n0 =>
                  go_simp
                  have hsz1 := size_of_held (B := w2.heap.size + 1) hHeld (by first | (simp; done) | rfl)
                  have HA := InA.start2 (t := 3) (N := 1) hHeld (unhide hsz1)
                  have HN := HX.apart2 (unhide hsz1)
                  have HX := HX.alloc (.cells #[] 3)
                  refine hK.out _ _ (HA.bel) (fun hHeld => ?_)
                  clear hK
                  refine wpAnyH_ready (rs := [4]) (by kernel_rfl) (by simp) ?_
                  refine (AllReadyH.cons (o := ?bo60n4) ?bh60n4 (fun K hK => ?br60n4) AllReadyH.nil)
                  case bh60n4 => (simp only [List.getElem?_toArray, List.getElem?_cons_zero, List.getElem?_cons_succ]; rfl)
                  case br60n4 =>
                    refine step_append2 (by rfl) (.tmp 42) (.tmp 45) 69 (by rfl) w2.heap.size 3 _ 1 8 Try.underlying69 infoI2 rfl (by decide) _ 0 _ (by rfl) HA.row ⟨g, 0, none⟩ ((jp + 1)) _ ((cellsI2 (zOf zs)).take ((jp + 1) * 1)) (by rfl) HP3 (news_old HA.bel hgl HP1) (fun u hu => cellsI2_one _ u (List.mem_of_mem_take hu)) (by unfold maxLen; omega) (by omega) HA.le ?_
                    intro v' w' how hg hv
                    have HN2 := ne_app HX HN hv
                    have HX := HX.app HA HN hg
                    have HN := HN2
                    have HA := HA.app how hg
                    clear how hg hv
                    refine hK.out _ _ (HA.bel) (fun hHeld => ?_)
                    clear hK
                    refine wpAnyH_ready (rs := [7]) (by kernel_rfl) (by simp) ?_
                    refine (AllReadyH.cons (o := ?bo61n7) ?bh61n7 (fun K hK => ?br61n7) AllReadyH.nil)
                    case bh61n7 => (simp only [List.getElem?_toArray, List.getElem?_cons_zero, List.getElem?_cons_succ]; rfl)
                    case br61n7 =>
                      refine step_append2 (by rfl) (.tmp 46) (.tmp 48) 69 (by rfl) w2.heap.size 3 _ 1 8 Try.underlying69 infoI2 rfl (by decide) _ (0 + (jp + 1)) _ (by rfl) HA.row ⟨_, 0, none⟩ 1 1 [.int .i64 (k : Int)] (by rfl) rfl HX.cell (by intro u hu; simp at hu; subst hu; rfl) (by unfold maxLen; omega) (by omega) HA.le ?_
                      intro v' w' how hg hv
                      have HA := HA.app how hg
                      clear how hg hv
                      refine hK.out _ _ (HA.bel) (fun hHeld => ?_)
                      clear hK
                      refine wpAnyH_ready (rs := [11]) (by kernel_rfl) (by simp) ?_
                      refine (AllReadyH.cons (o := ?bo62n11) ?bh62n11 (fun K hK => ?br62n11) AllReadyH.nil)
                      case bh62n11 => (simp only [List.getElem?_toArray, List.getElem?_cons_zero, List.getElem?_cons_succ]; rfl)
                      case br62n11 =>
                        refine step_append2 (by rfl) (.tmp 49) (.tmp 52) 69 (by rfl) w2.heap.size 3 _ 1 8 Try.underlying69 infoI2 rfl (by decide) _ (0 + (jp + 1) + 1) _ (by rfl) HA.row ad0 nd0 cd0 ((cellsI2 (zOf zs)).drop ((jp + 1) * 1)) (by rfl) HP4 (news_old HA.bel hgl2 HP2) (fun u hu => cellsI2_one _ u (List.mem_of_mem_drop hu)) (by unfold maxLen; omega) (by omega) HA.le ?_
                        intro v' w' how hg hv
                        have HA := HA.app how hg
                        clear how hg hv
                        refine hK.out _ _ (HA.bel) (fun hHeld => ?_)
                        clear hK
                        refine wpAnyH_take (i := 12) (oi := ?oo63) (v := ?vv63) ?hi63 (by kernel_rfl) (by kernel_rfl) (by kernel_rfl) ?hQ63 ?hy63 (by assumption) ?rest63
                        case hi63 => (simp only [List.getElem?_toArray, List.getElem?_cons_zero, List.getElem?_cons_succ]; rfl)
                        case hQ63 => exact fun _ _ _ h => h
                        case hy63 => exact Or.inl ⟨by rfl, by intro wS hSw; (try dsimp only at hSw); go_simp; try first | (with_reducible rfl) | (simp only [*]; done) | omega⟩
                        try simp only [Act.put, List.setIfInBounds_toArray, List.set_cons_zero, List.set_cons_succ]
                        refine wpAnyH_done (by kernel_rfl) ?_ _
                        obtain ⟨gN, cN, rfl⟩ := slice_form HA.row (by omega)
                        obtain ⟨hnn, HSP⟩ := spord_step (unhide HP) (unhide HPre) HA
                        have HNN := hide hnn
                        have HSP := hide HSP
                        clear HA hnn
                        go_wp2
                        go_roundw
                        case rel => exact ⟨k + 1, gN, cN, zs.take (jp + 1) ++ k :: zs.drop (jp + 1), by omega, by go_num, by rw [unhide HNN], HSP⟩
                        case measure => simp [intOf]; omega
          · have hj1 : j = 0 := by omega
            subst hj1
            have HP := hide (unhide exitH _ (unhide hsx) (fun _ => Or.inl rfl))
            clear exitH hrx p18'
            go_wp2_with fail
            refine wp_region_held_drew (S := fun w' => Below wr.heap.size wr w') (by kernel_rfl) (Below.drew (Below.refl _ _)) (fun hHeld => ?_)
            refine wpAnyH_take (i := 0) (oi := ?oo1) (v := ?vv1) ?hi1 (by kernel_rfl) (by kernel_rfl) (by kernel_rfl) ?hQ1 ?hy1 (by assumption) ?rest1
            case hi1 => (simp only [List.getElem?_toArray, List.getElem?_cons_zero]; rfl)
            case hQ1 => exact fun _ _ _ h => h
            case hy1 => exact Or.inl ⟨by rfl, by intro wS hSw; (try dsimp only at hSw); go_simp; try first | (with_reducible rfl) | (simp only [*]; done) | omega⟩
            try simp only [Act.put, List.setIfInBounds_toArray, List.set_cons_zero, List.set_cons_succ]
            refine wpAnyH_take (i := 1) (oi := ?oo2) (v := ?vv2) ?hi2 (by kernel_rfl) (by kernel_rfl) (by kernel_rfl) ?hQ2 ?hy2 (by assumption) ?rest2
            case hi2 => (simp only [List.getElem?_toArray, List.getElem?_cons_zero, List.getElem?_cons_succ]; rfl)
            case hQ2 => exact fun _ _ _ h => h
            case hy2 => exact Or.inl ⟨by rfl, by intro wS hSw; (try dsimp only at hSw); go_simp; try first | (with_reducible rfl) | (simp only [*]; done) | omega⟩
            try simp only [Act.put, List.setIfInBounds_toArray, List.set_cons_zero, List.set_cons_succ]
            refine wpAnyH_take (i := 2) (oi := ?oo3) (v := ?vv3) ?hi3 (by kernel_rfl) (by kernel_rfl) (by kernel_rfl) ?hQ3 ?hy3 (by assumption) ?rest3
            case hi3 => (simp only [List.getElem?_toArray, List.getElem?_cons_zero, List.getElem?_cons_succ]; rfl)
            case hQ3 => exact fun _ _ _ h => h
            case hy3 => exact Or.inl ⟨by rfl, by intro wS hSw; (try dsimp only at hSw); go_simp; try first | (with_reducible rfl) | (simp only [*]; done) | omega⟩
            try simp only [Act.put, List.setIfInBounds_toArray, List.set_cons_zero, List.set_cons_succ]
            refine wpAnyH_take (i := 3) (oi := ?oo4) (v := undef) ?hi4 (by kernel_rfl) (by kernel_rfl) (by kernel_rfl) ?hQ4 ?hy4 (by assumption) ?rest4
            case hi4 => (simp only [List.getElem?_toArray, List.getElem?_cons_zero, List.getElem?_cons_succ]; rfl)
            case hQ4 => exact fun _ _ _ h => h
            case hy4 => exact Or.inr ⟨by rfl, rfl⟩
            try simp only [Act.put, List.setIfInBounds_toArray, List.set_cons_zero, List.set_cons_succ]
            refine wpAnyH_take (i := 4) (oi := ?oo5) (v := undef) ?hi5 (by kernel_rfl) (by kernel_rfl) (by kernel_rfl) ?hQ5 ?hy5 (by assumption) ?rest5
            case hi5 => (simp only [List.getElem?_toArray, List.getElem?_cons_zero, List.getElem?_cons_succ]; rfl)
            case hQ5 => exact fun _ _ _ h => h
            case hy5 => exact Or.inr ⟨by rfl, rfl⟩
            try simp only [Act.put, List.setIfInBounds_toArray, List.set_cons_zero, List.set_cons_succ]
            refine wpAnyH_take (i := 5) (oi := ?oo6) (v := undef) ?hi6 (by kernel_rfl) (by kernel_rfl) (by kernel_rfl) ?hQ6 ?hy6 (by assumption) ?rest6
            case hi6 => (simp only [List.getElem?_toArray, List.getElem?_cons_zero, List.getElem?_cons_succ]; rfl)
            case hQ6 => exact fun _ _ _ h => h
            case hy6 => exact Or.inr ⟨by rfl, rfl⟩
            try simp only [Act.put, List.setIfInBounds_toArray, List.set_cons_zero, List.set_cons_succ]
            refine wpAnyH_take (i := 6) (oi := ?oo7) (v := undef) ?hi7 (by kernel_rfl) (by kernel_rfl) (by kernel_rfl) ?hQ7 ?hy7 (by assumption) ?rest7
            case hi7 => (simp only [List.getElem?_toArray, List.getElem?_cons_zero, List.getElem?_cons_succ]; rfl)
            case hQ7 => exact fun _ _ _ h => h
            case hy7 => exact Or.inr ⟨by rfl, rfl⟩
            try simp only [Act.put, List.setIfInBounds_toArray, List.set_cons_zero, List.set_cons_succ]
            refine wpAnyH_take (i := 7) (oi := ?oo8) (v := undef) ?hi8 (by kernel_rfl) (by kernel_rfl) (by kernel_rfl) ?hQ8 ?hy8 (by assumption) ?rest8
            case hi8 => (simp only [List.getElem?_toArray, List.getElem?_cons_zero, List.getElem?_cons_succ]; rfl)
            case hQ8 => exact fun _ _ _ h => h
            case hy8 => exact Or.inr ⟨by rfl, rfl⟩
            try simp only [Act.put, List.setIfInBounds_toArray, List.set_cons_zero, List.set_cons_succ]
            refine wpAnyH_take (i := 8) (oi := ?oo9) (v := undef) ?hi9 (by kernel_rfl) (by kernel_rfl) (by kernel_rfl) ?hQ9 ?hy9 (by assumption) ?rest9
            case hi9 => (simp only [List.getElem?_toArray, List.getElem?_cons_zero, List.getElem?_cons_succ]; rfl)
            case hQ9 => exact fun _ _ _ h => h
            case hy9 => exact Or.inr ⟨by rfl, rfl⟩
            try simp only [Act.put, List.setIfInBounds_toArray, List.set_cons_zero, List.set_cons_succ]
            refine wpAnyH_take (i := 9) (oi := ?oo10) (v := undef) ?hi10 (by kernel_rfl) (by kernel_rfl) (by kernel_rfl) ?hQ10 ?hy10 (by assumption) ?rest10
            case hi10 => (simp only [List.getElem?_toArray, List.getElem?_cons_zero, List.getElem?_cons_succ]; rfl)
            case hQ10 => exact fun _ _ _ h => h
            case hy10 => exact Or.inr ⟨by rfl, rfl⟩
            try simp only [Act.put, List.setIfInBounds_toArray, List.set_cons_zero, List.set_cons_succ]
            refine wpAnyH_take (i := 10) (oi := ?oo11) (v := undef) ?hi11 (by kernel_rfl) (by kernel_rfl) (by kernel_rfl) ?hQ11 ?hy11 (by assumption) ?rest11
            case hi11 => (simp only [List.getElem?_toArray, List.getElem?_cons_zero, List.getElem?_cons_succ]; rfl)
            case hQ11 => exact fun _ _ _ h => h
            case hy11 => exact Or.inr ⟨by rfl, rfl⟩
            try simp only [Act.put, List.setIfInBounds_toArray, List.set_cons_zero, List.set_cons_succ]
            refine wpAnyH_take (i := 11) (oi := ?oo12) (v := undef) ?hi12 (by kernel_rfl) (by kernel_rfl) (by kernel_rfl) ?hQ12 ?hy12 (by assumption) ?rest12
            case hi12 => (simp only [List.getElem?_toArray, List.getElem?_cons_zero, List.getElem?_cons_succ]; rfl)
            case hQ12 => exact fun _ _ _ h => h
            case hy12 => exact Or.inr ⟨by rfl, rfl⟩
            try simp only [Act.put, List.setIfInBounds_toArray, List.set_cons_zero, List.set_cons_succ]
            refine wpAnyH_take (i := 12) (oi := ?oo13) (v := undef) ?hi13 (by kernel_rfl) (by kernel_rfl) (by kernel_rfl) ?hQ13 ?hy13 (by assumption) ?rest13
            case hi13 => (simp only [List.getElem?_toArray, List.getElem?_cons_zero, List.getElem?_cons_succ]; rfl)
            case hQ13 => exact fun _ _ _ h => h
            case hy13 => exact Or.inr ⟨by rfl, rfl⟩
            try simp only [Act.put, List.setIfInBounds_toArray, List.set_cons_zero, List.set_cons_succ]
            refine wpAnyH_take (i := 13) (oi := ?oo14) (v := undef) ?hi14 (by kernel_rfl) (by kernel_rfl) (by kernel_rfl) ?hQ14 ?hy14 (by assumption) ?rest14
            case hi14 => (simp only [List.getElem?_toArray, List.getElem?_cons_zero, List.getElem?_cons_succ]; rfl)
            case hQ14 => exact fun _ _ _ h => h
            case hy14 => exact Or.inr ⟨by rfl, rfl⟩
            try simp only [Act.put, List.setIfInBounds_toArray, List.set_cons_zero, List.set_cons_succ]
            refine wpAnyH_take (i := 14) (oi := ?oo15) (v := undef) ?hi15 (by kernel_rfl) (by kernel_rfl) (by kernel_rfl) ?hQ15 ?hy15 (by assumption) ?rest15
            case hi15 => (simp only [List.getElem?_toArray, List.getElem?_cons_zero, List.getElem?_cons_succ]; rfl)
            case hQ15 => exact fun _ _ _ h => h
            case hy15 => exact Or.inr ⟨by rfl, rfl⟩
            try simp only [Act.put, List.setIfInBounds_toArray, List.set_cons_zero, List.set_cons_succ]
            refine wpAnyH_take (i := 15) (oi := ?oo16) (v := undef) ?hi16 (by kernel_rfl) (by kernel_rfl) (by kernel_rfl) ?hQ16 ?hy16 (by assumption) ?rest16
            case hi16 => (simp only [List.getElem?_toArray, List.getElem?_cons_zero, List.getElem?_cons_succ]; rfl)
            case hQ16 => exact fun _ _ _ h => h
            case hy16 => exact Or.inr ⟨by rfl, rfl⟩
            try simp only [Act.put, List.setIfInBounds_toArray, List.set_cons_zero, List.set_cons_succ]
            refine wpAnyH_take (i := 16) (oi := ?oo17) (v := undef) ?hi17 (by kernel_rfl) (by kernel_rfl) (by kernel_rfl) ?hQ17 ?hy17 (by assumption) ?rest17
            case hi17 => (simp only [List.getElem?_toArray, List.getElem?_cons_zero, List.getElem?_cons_succ]; rfl)
            case hQ17 => exact fun _ _ _ h => h
            case hy17 => exact Or.inr ⟨by rfl, rfl⟩
            try simp only [Act.put, List.setIfInBounds_toArray, List.set_cons_zero, List.set_cons_succ]
            refine wpAnyH_take (i := 17) (oi := ?oo18) (v := undef) ?hi18 (by kernel_rfl) (by kernel_rfl) (by kernel_rfl) ?hQ18 ?hy18 (by assumption) ?rest18
            case hi18 => (simp only [List.getElem?_toArray, List.getElem?_cons_zero, List.getElem?_cons_succ]; rfl)
            case hQ18 => exact fun _ _ _ h => h
            case hy18 => exact Or.inr ⟨by rfl, rfl⟩
            try simp only [Act.put, List.setIfInBounds_toArray, List.set_cons_zero, List.set_cons_succ]
            refine wpAnyH_take (i := 18) (oi := ?oo19) (v := ?vv19) ?hi19 (by kernel_rfl) (by kernel_rfl) (by kernel_rfl) ?hQ19 ?hy19 (by assumption) ?rest19
            case hi19 => (simp only [List.getElem?_toArray, List.getElem?_cons_zero, List.getElem?_cons_succ]; rfl)
            case hQ19 => exact fun _ _ _ h => h
            case hy19 => exact Or.inl ⟨by rfl, by intro wS hSw; (try dsimp only at hSw); go_simp; try first | (with_reducible rfl) | (simp only [*]; done) | omega⟩
            try simp only [Act.put, List.setIfInBounds_toArray, List.set_cons_zero, List.set_cons_succ]
            refine wpAnyH_done (by kernel_rfl) ?_ _
            have HS := hide (show SpOrd l w _ k (.slice (some ⟨g, 0, none⟩) zs.length cap) zs from ⟨(unhide hsx).1, owns_below (unhide hsx).2.1 hHeld, bthen (unhide hsx).2.2 hHeld⟩)
            clear hsx hHeld hbx
            generalize World.drew wr = w2 at *
            have hj : 0 ≤ zs.length := Nat.zero_le _
            have HPre := hide (unhide HS).2.2
            have hrow := (unhide HS).2.1
            obtain ⟨hnc, hcm, hgl⟩ := cap_le hrow
            obtain ⟨HP1, _, HP3, HP4⟩ := row_parts (k := 0) hrow hj
            obtain ⟨ad0, nd0, cd0, had0, hnd0, hcd0⟩ : ∃ (ad : Addr) (n0 c0 : Nat), ad = (if cap = 0 then (⟨g, 0, none⟩ : Addr) else ⟨g, 0 * 1, none⟩) ∧ n0 = zs.length - 0 ∧ c0 = cap - 0 := ⟨_, _, _, rfl, rfl, rfl⟩
            have HP2 := row_parts2 (k := 0) hrow hj (by omega)
            rw [← had0] at HP2
            rw [← hnd0] at HP4
            have hgl2 : ad0.block < w2.heap.size := by rw [had0]; split <;> exact hgl
            have HA0D := hide had0
            have HN0D := hide hnd0
            have HC0D := hide hcd0
            have hnd1 : 0 + nd0 = zs.length := by omega
            have HND := hide hnd1
            have hnd2 : nd0 ≤ zs.length := by omega
            clear had0 hnd0 hcd0 hnd1
            have hle2 : w.heap.size ≤ w2.heap.size := (unhide HPre).size
            have HPx := hide (And.intro HP3 HP4)
            go_wp2_with fail
            refine wp_region_held_drew (S := fun w' => Below w2.heap.size w2 w') (by kernel_rfl) (Below.drew (Below.refl _ _)) (fun hHeld => ?_)
            refine wpAnyH_take (i := 1) (oi := ?oo20) (v := ?vv20) ?hi20 (by kernel_rfl) (by kernel_rfl) (by kernel_rfl) ?hQ20 ?hy20 (by assumption) ?rest20
            case hi20 => (simp only [List.getElem?_toArray, List.getElem?_cons_zero, List.getElem?_cons_succ]; rfl)
            case hQ20 => exact fun _ _ _ h => h
            case hy20 => exact Or.inl ⟨by rfl, by intro wS hSw; (try dsimp only at hSw); go_simp; try first | (with_reducible rfl) | (simp only [*]; done) | omega⟩
            try simp only [Act.put, List.setIfInBounds_toArray, List.set_cons_zero, List.set_cons_succ]
            refine wpAnyH_take (i := 2) (oi := ?oo21) (v := ?vv21) ?hi21 (by kernel_rfl) (by kernel_rfl) (by kernel_rfl) ?hQ21 ?hy21 (by assumption) ?rest21
            case hi21 => (simp only [List.getElem?_toArray, List.getElem?_cons_zero, List.getElem?_cons_succ]; rfl)
            case hQ21 => exact fun _ _ _ h => h
            case hy21 => exact Or.inl ⟨by rfl, by intro wS hSw; (try dsimp only at hSw); go_simp; try first | (with_reducible rfl) | (simp only [*]; done) | omega⟩
            try simp only [Act.put, List.setIfInBounds_toArray, List.set_cons_zero, List.set_cons_succ]
            refine wpAnyH_take (i := 3) (oi := ?oo22) (v := ?vv22) ?hi22 (by kernel_rfl) (by kernel_rfl) (by kernel_rfl) ?hQ22 ?hy22 (by assumption) ?rest22
            case hi22 => (simp only [List.getElem?_toArray, List.getElem?_cons_zero, List.getElem?_cons_succ]; rfl)
            case hQ22 => exact fun _ _ _ h => h
            case hy22 => exact Or.inl ⟨by rfl, by intro wS hSw; (try dsimp only at hSw); go_simp; (try rw [if_pos (by omega)]); (try rw [if_pos (by omega)]); (try rfl)⟩
            try simp only [Act.put, List.setIfInBounds_toArray, List.set_cons_zero, List.set_cons_succ]
            refine wpAnyH_take (i := 5) (oi := ?oo23) (v := ?vv23) ?hi23 (by kernel_rfl) (by kernel_rfl) (by kernel_rfl) ?hQ23 ?hy23 (by assumption) ?rest23
            case hi23 => (simp only [List.getElem?_toArray, List.getElem?_cons_zero, List.getElem?_cons_succ]; rfl)
            case hQ23 => exact fun _ _ _ h => h
            case hy23 => exact Or.inl ⟨by rfl, by intro wS hSw; (try dsimp only at hSw); go_simp; try first | (with_reducible rfl) | (simp only [*]; done) | omega⟩
            try simp only [Act.put, List.setIfInBounds_toArray, List.set_cons_zero, List.set_cons_succ]
            refine wpAnyH_take (i := 8) (oi := ?oo24) (v := ?vv24) ?hi24 (by kernel_rfl) (by kernel_rfl) (by kernel_rfl) ?hQ24 ?hy24 (by assumption) ?rest24
            case hi24 => (simp only [List.getElem?_toArray, List.getElem?_cons_zero, List.getElem?_cons_succ]; rfl)
            case hQ24 => exact fun _ _ _ h => h
            case hy24 => exact Or.inl ⟨by rfl, by intro wS hSw; (try dsimp only at hSw); go_simp; try first | (with_reducible rfl) | (simp only [*]; done) | omega⟩
            try simp only [Act.put, List.setIfInBounds_toArray, List.set_cons_zero, List.set_cons_succ]
            refine wpAnyH_take (i := 9) (oi := ?oo25) (v := ?vv25) ?hi25 (by kernel_rfl) (by kernel_rfl) (by kernel_rfl) ?hQ25 ?hy25 (by assumption) ?rest25
            case hi25 => (simp only [List.getElem?_toArray, List.getElem?_cons_zero, List.getElem?_cons_succ]; rfl)
            case hQ25 => exact fun _ _ _ h => h
            case hy25 => exact Or.inl ⟨by rfl, by intro wS hSw; (try dsimp only at hSw); go_simp; try first | (with_reducible rfl) | (simp only [*]; done) | omega⟩
            try simp only [Act.put, List.setIfInBounds_toArray, List.set_cons_zero, List.set_cons_succ]
            refine wpAnyH_take (i := 10) (oi := ?oo26) (v := .slice (some ad0) nd0 cd0) ?hi26 (by kernel_rfl) (by kernel_rfl) (by kernel_rfl) ?hQ26 ?hy26 (by assumption) ?rest26
            case hi26 => (simp only [List.getElem?_toArray, List.getElem?_cons_zero, List.getElem?_cons_succ]; rfl)
            case hQ26 => exact fun _ _ _ h => h
            case hy26 => exact Or.inl ⟨by rfl, by intro wS hSw; (try dsimp only at hSw); go_simp; (try rw [if_pos (by omega)]); (try rw [if_pos (by omega)]); (rw [unhide HA0D, unhide HN0D, unhide HC0D]); (split <;> simp_all)⟩
            try simp only [Act.put, List.setIfInBounds_toArray, List.set_cons_zero, List.set_cons_succ]
            refine wpAnyH_ready (rs := [0, 6]) (by kernel_rfl) (by simp) ?_
            refine (AllReadyH.cons (o := ?bo27n0) ?bh27n0 (fun K hK => ?br27n0) (AllReadyH.cons (o := ?bo27n6) ?bh27n6 (fun K hK => ?br27n6) AllReadyH.nil))
            case bh27n0 => (simp only [List.getElem?_toArray, List.getElem?_cons_zero]; rfl)
            case bh27n6 => (simp only [List.getElem?_toArray, List.getElem?_cons_zero, List.getElem?_cons_succ]; rfl)
            case br27n0 =>
              go_simp
              have HA := InA.start (t := 3) (N := 1) hHeld
              refine hK.out _ _ (HA.bel) (fun hHeld => ?_)
              clear hK
              refine wpAnyH_ready (rs := [4, 6]) (by kernel_rfl) (by simp) ?_
              refine (AllReadyH.cons (o := ?bo28n4) ?bh28n4 (fun K hK => ?br28n4) (AllReadyH.cons (o := ?bo28n6) ?bh28n6 (fun K hK => ?br28n6) AllReadyH.nil))
              case bh28n4 => (simp only [List.getElem?_toArray, List.getElem?_cons_zero, List.getElem?_cons_succ]; rfl)
              case bh28n6 => (simp only [List.getElem?_toArray, List.getElem?_cons_zero, List.getElem?_cons_succ]; rfl)
              case br28n4 =>
                refine step_append2 (by rfl) (.tmp 42) (.tmp 45) 69 (by rfl) w2.heap.size 3 _ 1 8 Try.underlying69 infoI2 rfl (by decide) _ 0 _ (by rfl) HA.row ⟨g, 0, none⟩ (0) _ ((cellsI2 (zOf zs)).take (0 * 1)) (by rfl) HP3 (news_old HA.bel hgl HP1) (fun u hu => cellsI2_one _ u (List.mem_of_mem_take hu)) (by unfold maxLen; omega) (by omega) HA.le ?_
                intro v' w' how hg hv
                have HA := HA.app how hg
                clear how hg hv
                refine hK.out _ _ (HA.bel) (fun hHeld => ?_)
                clear hK
                refine wpAnyH_ready (rs := [6]) (by kernel_rfl) (by simp) ?_
                refine (AllReadyH.cons (o := ?bo29n6) ?bh29n6 (fun K hK => ?br29n6) AllReadyH.nil)
                case bh29n6 => (simp only [List.getElem?_toArray, List.getElem?_cons_zero, List.getElem?_cons_succ]; rfl)
                case br29n6 =>
                  go_simp
                  have HN := HA.apart
                  have HA := HA.alloc (.cells #[.int .i64 (k : Int)] 3)
                  have HX := InX.start hHeld #[.int .i64 (k : Int)] 3
                  refine hK.out _ _ (HX.bel) (fun hHeld => ?_)
                  clear hK
                  refine wpAnyH_ready (rs := [7]) (by kernel_rfl) (by simp) ?_
                  refine (AllReadyH.cons (o := ?bo30n7) ?bh30n7 (fun K hK => ?br30n7) AllReadyH.nil)
                  case bh30n7 => (simp only [List.getElem?_toArray, List.getElem?_cons_zero, List.getElem?_cons_succ]; rfl)
                  case br30n7 =>
                    refine step_append2 (by rfl) (.tmp 46) (.tmp 48) 69 (by rfl) w2.heap.size 3 _ 1 8 Try.underlying69 infoI2 rfl (by decide) _ (0 + 0) _ (by rfl) HA.row ⟨_, 0, none⟩ 1 1 [.int .i64 (k : Int)] (by rfl) rfl HX.cell (by intro u hu; simp at hu; subst hu; rfl) (by unfold maxLen; omega) (by omega) HA.le ?_
                    intro v' w' how hg hv
                    have HA := HA.app how hg
                    clear how hg hv
                    refine hK.out _ _ (HA.bel) (fun hHeld => ?_)
                    clear hK
                    refine wpAnyH_ready (rs := [11]) (by kernel_rfl) (by simp) ?_
                    refine (AllReadyH.cons (o := ?bo31n11) ?bh31n11 (fun K hK => ?br31n11) AllReadyH.nil)
                    case bh31n11 => (simp only [List.getElem?_toArray, List.getElem?_cons_zero, List.getElem?_cons_succ]; rfl)
                    case br31n11 =>
                      refine step_append2 (by rfl) (.tmp 49) (.tmp 52) 69 (by rfl) w2.heap.size 3 _ 1 8 Try.underlying69 infoI2 rfl (by decide) _ (0 + 0 + 1) _ (by rfl) HA.row ad0 nd0 cd0 ((cellsI2 (zOf zs)).drop (0 * 1)) (by rfl) HP4 (news_old HA.bel hgl2 HP2) (fun u hu => cellsI2_one _ u (List.mem_of_mem_drop hu)) (by unfold maxLen; omega) (by omega) HA.le ?_
                      intro v' w' how hg hv
                      have HA := HA.app how hg
                      clear how hg hv
                      refine hK.out _ _ (HA.bel) (fun hHeld => ?_)
                      clear hK
                      refine wpAnyH_take (i := 12) (oi := ?oo32) (v := ?vv32) ?hi32 (by kernel_rfl) (by kernel_rfl) (by kernel_rfl) ?hQ32 ?hy32 (by assumption) ?rest32
                      case hi32 => (simp only [List.getElem?_toArray, List.getElem?_cons_zero, List.getElem?_cons_succ]; rfl)
                      case hQ32 => exact fun _ _ _ h => h
                      case hy32 => exact Or.inl ⟨by rfl, by intro wS hSw; (try dsimp only at hSw); go_simp; try first | (with_reducible rfl) | (simp only [*]; done) | omega⟩
                      try simp only [Act.put, List.setIfInBounds_toArray, List.set_cons_zero, List.set_cons_succ]
                      refine wpAnyH_done (by kernel_rfl) ?_ _
                      obtain ⟨gN, cN, rfl⟩ := slice_form HA.row (by omega)
                      obtain ⟨hnn, HSP⟩ := spord_step (unhide HP) (unhide HPre) HA
                      have HNN := hide hnn
                      have HSP := hide HSP
                      clear HA hnn
                      go_wp2
                      go_roundw
                      case rel => exact ⟨k + 1, gN, cN, zs.take 0 ++ k :: zs.drop 0, by omega, by go_num, by rw [unhide HNN], HSP⟩
                      case measure => simp [intOf]; omega
              case br28n6 =>
                go_simp
                have hsz1 := size_of_held (B := w2.heap.size + 1) hHeld (by first | (simp; done) | rfl)
                have HN := HA.apart2 (unhide hsz1)
                have HA := HA.alloc (.cells #[.int .i64 (k : Int)] 3)
                have HX := InX.start2 hHeld (unhide hsz1) #[.int .i64 (k : Int)] 3
                refine hK.out _ _ (HX.bel) (fun hHeld => ?_)
                clear hK
                refine wpAnyH_ready (rs := [4]) (by kernel_rfl) (by simp) ?_
                refine (AllReadyH.cons (o := ?bo33n4) ?bh33n4 (fun K hK => ?br33n4) AllReadyH.nil)
                case bh33n4 => (simp only [List.getElem?_toArray, List.getElem?_cons_zero, List.getElem?_cons_succ]; rfl)
                case br33n4 =>
                  refine step_append2 (by rfl) (.tmp 42) (.tmp 45) 69 (by rfl) w2.heap.size 3 _ 1 8 Try.underlying69 infoI2 rfl (by decide) _ 0 _ (by rfl) HA.row ⟨g, 0, none⟩ (0) _ ((cellsI2 (zOf zs)).take (0 * 1)) (by rfl) HP3 (news_old HA.bel hgl HP1) (fun u hu => cellsI2_one _ u (List.mem_of_mem_take hu)) (by unfold maxLen; omega) (by omega) HA.le ?_
                  intro v' w' how hg hv
                  have HN2 := ne_app HX HN hv
                  have HX := HX.app HA HN hg
                  have HN := HN2
                  have HA := HA.app how hg
                  clear how hg hv
                  refine hK.out _ _ (HA.bel) (fun hHeld => ?_)
                  clear hK
                  refine wpAnyH_ready (rs := [7]) (by kernel_rfl) (by simp) ?_
                  refine (AllReadyH.cons (o := ?bo34n7) ?bh34n7 (fun K hK => ?br34n7) AllReadyH.nil)
                  case bh34n7 => (simp only [List.getElem?_toArray, List.getElem?_cons_zero, List.getElem?_cons_succ]; rfl)
                  case br34n7 =>
                    refine step_append2 (by rfl) (.tmp 46) (.tmp 48) 69 (by rfl) w2.heap.size 3 _ 1 8 Try.underlying69 infoI2 rfl (by decide) _ (0 + 0) _ (by rfl) HA.row ⟨_, 0, none⟩ 1 1 [.int .i64 (k : Int)] (by rfl) rfl HX.cell (by intro u hu; simp at hu; subst hu; rfl) (by unfold maxLen; omega) (by omega) HA.le ?_
                    intro v' w' how hg hv
                    have HA := HA.app how hg
                    clear how hg hv
                    refine hK.out _ _ (HA.bel) (fun hHeld => ?_)
                    clear hK
                    refine wpAnyH_ready (rs := [11]) (by kernel_rfl) (by simp) ?_
                    refine (AllReadyH.cons (o := ?bo35n11) ?bh35n11 (fun K hK => ?br35n11) AllReadyH.nil)
                    case bh35n11 => (simp only [List.getElem?_toArray, List.getElem?_cons_zero, List.getElem?_cons_succ]; rfl)
                    case br35n11 =>
                      refine step_append2 (by rfl) (.tmp 49) (.tmp 52) 69 (by rfl) w2.heap.size 3 _ 1 8 Try.underlying69 infoI2 rfl (by decide) _ (0 + 0 + 1) _ (by rfl) HA.row ad0 nd0 cd0 ((cellsI2 (zOf zs)).drop (0 * 1)) (by rfl) HP4 (news_old HA.bel hgl2 HP2) (fun u hu => cellsI2_one _ u (List.mem_of_mem_drop hu)) (by unfold maxLen; omega) (by omega) HA.le ?_
                      intro v' w' how hg hv
                      have HA := HA.app how hg
                      clear how hg hv
                      refine hK.out _ _ (HA.bel) (fun hHeld => ?_)
                      clear hK
                      refine wpAnyH_take (i := 12) (oi := ?oo36) (v := ?vv36) ?hi36 (by kernel_rfl) (by kernel_rfl) (by kernel_rfl) ?hQ36 ?hy36 (by assumption) ?rest36
                      case hi36 => (simp only [List.getElem?_toArray, List.getElem?_cons_zero, List.getElem?_cons_succ]; rfl)
                      case hQ36 => exact fun _ _ _ h => h
                      case hy36 => exact Or.inl ⟨by rfl, by intro wS hSw; (try dsimp only at hSw); go_simp; try first | (with_reducible rfl) | (simp only [*]; done) | omega⟩
                      try simp only [Act.put, List.setIfInBounds_toArray, List.set_cons_zero, List.set_cons_succ]
                      refine wpAnyH_done (by kernel_rfl) ?_ _
                      obtain ⟨gN, cN, rfl⟩ := slice_form HA.row (by omega)
                      obtain ⟨hnn, HSP⟩ := spord_step (unhide HP) (unhide HPre) HA
                      have HNN := hide hnn
                      have HSP := hide HSP
                      clear HA hnn
                      go_wp2
                      go_roundw
                      case rel => exact ⟨k + 1, gN, cN, zs.take 0 ++ k :: zs.drop 0, by omega, by go_num, by rw [unhide HNN], HSP⟩
                      case measure => simp [intOf]; omega
            case br27n6 =>
              go_simp
              have HX := InX.start hHeld #[.int .i64 (k : Int)] 3
              refine hK.out _ _ (HX.bel) (fun hHeld => ?_)
              clear hK
              refine wpAnyH_ready (rs := [0]) (by kernel_rfl) (by simp) ?_
              refine (AllReadyH.cons (o := ?bo37n0) ?bh37n0 (fun K hK => ?br37n0) AllReadyH.nil)
              case bh37n0 => (simp only [List.getElem?_toArray, List.getElem?_cons_zero]; rfl)
              case br37n0 =>
                go_simp
                have hsz1 := size_of_held (B := w2.heap.size + 1) hHeld (by first | (simp; done) | rfl)
                have HA := InA.start2 (t := 3) (N := 1) hHeld (unhide hsz1)
                have HN := HX.apart2 (unhide hsz1)
                have HX := HX.alloc (.cells #[] 3)
                refine hK.out _ _ (HA.bel) (fun hHeld => ?_)
                clear hK
                refine wpAnyH_ready (rs := [4]) (by kernel_rfl) (by simp) ?_
                refine (AllReadyH.cons (o := ?bo38n4) ?bh38n4 (fun K hK => ?br38n4) AllReadyH.nil)
                case bh38n4 => (simp only [List.getElem?_toArray, List.getElem?_cons_zero, List.getElem?_cons_succ]; rfl)
                case br38n4 =>
                  refine step_append2 (by rfl) (.tmp 42) (.tmp 45) 69 (by rfl) w2.heap.size 3 _ 1 8 Try.underlying69 infoI2 rfl (by decide) _ 0 _ (by rfl) HA.row ⟨g, 0, none⟩ (0) _ ((cellsI2 (zOf zs)).take (0 * 1)) (by rfl) HP3 (news_old HA.bel hgl HP1) (fun u hu => cellsI2_one _ u (List.mem_of_mem_take hu)) (by unfold maxLen; omega) (by omega) HA.le ?_
                  intro v' w' how hg hv
                  have HN2 := ne_app HX HN hv
                  have HX := HX.app HA HN hg
                  have HN := HN2
                  have HA := HA.app how hg
                  clear how hg hv
                  refine hK.out _ _ (HA.bel) (fun hHeld => ?_)
                  clear hK
                  refine wpAnyH_ready (rs := [7]) (by kernel_rfl) (by simp) ?_
                  refine (AllReadyH.cons (o := ?bo39n7) ?bh39n7 (fun K hK => ?br39n7) AllReadyH.nil)
                  case bh39n7 => (simp only [List.getElem?_toArray, List.getElem?_cons_zero, List.getElem?_cons_succ]; rfl)
                  case br39n7 =>
                    refine step_append2 (by rfl) (.tmp 46) (.tmp 48) 69 (by rfl) w2.heap.size 3 _ 1 8 Try.underlying69 infoI2 rfl (by decide) _ (0 + 0) _ (by rfl) HA.row ⟨_, 0, none⟩ 1 1 [.int .i64 (k : Int)] (by rfl) rfl HX.cell (by intro u hu; simp at hu; subst hu; rfl) (by unfold maxLen; omega) (by omega) HA.le ?_
                    intro v' w' how hg hv
                    have HA := HA.app how hg
                    clear how hg hv
                    refine hK.out _ _ (HA.bel) (fun hHeld => ?_)
                    clear hK
                    refine wpAnyH_ready (rs := [11]) (by kernel_rfl) (by simp) ?_
                    refine (AllReadyH.cons (o := ?bo40n11) ?bh40n11 (fun K hK => ?br40n11) AllReadyH.nil)
                    case bh40n11 => (simp only [List.getElem?_toArray, List.getElem?_cons_zero, List.getElem?_cons_succ]; rfl)
                    case br40n11 =>
                      refine step_append2 (by rfl) (.tmp 49) (.tmp 52) 69 (by rfl) w2.heap.size 3 _ 1 8 Try.underlying69 infoI2 rfl (by decide) _ (0 + 0 + 1) _ (by rfl) HA.row ad0 nd0 cd0 ((cellsI2 (zOf zs)).drop (0 * 1)) (by rfl) HP4 (news_old HA.bel hgl2 HP2) (fun u hu => cellsI2_one _ u (List.mem_of_mem_drop hu)) (by unfold maxLen; omega) (by omega) HA.le ?_
                      intro v' w' how hg hv
                      have HA := HA.app how hg
                      clear how hg hv
                      refine hK.out _ _ (HA.bel) (fun hHeld => ?_)
                      clear hK
                      refine wpAnyH_take (i := 12) (oi := ?oo41) (v := ?vv41) ?hi41 (by kernel_rfl) (by kernel_rfl) (by kernel_rfl) ?hQ41 ?hy41 (by assumption) ?rest41
                      case hi41 => (simp only [List.getElem?_toArray, List.getElem?_cons_zero, List.getElem?_cons_succ]; rfl)
                      case hQ41 => exact fun _ _ _ h => h
                      case hy41 => exact Or.inl ⟨by rfl, by intro wS hSw; (try dsimp only at hSw); go_simp; try first | (with_reducible rfl) | (simp only [*]; done) | omega⟩
                      try simp only [Act.put, List.setIfInBounds_toArray, List.set_cons_zero, List.set_cons_succ]
                      refine wpAnyH_done (by kernel_rfl) ?_ _
                      obtain ⟨gN, cN, rfl⟩ := slice_form HA.row (by omega)
                      obtain ⟨hnn, HSP⟩ := spord_step (unhide HP) (unhide HPre) HA
                      have HNN := hide hnn
                      have HSP := hide HSP
                      clear HA hnn
                      go_wp2
                      go_roundw
                      case rel => exact ⟨k + 1, gN, cN, zs.take 0 ++ k :: zs.drop 0, by omega, by go_num, by rw [unhide HNN], HSP⟩
                      case measure => simp [intOf]; omega
    · have hki : ¬ (k : Int) < (l.length : Int) := by omega
      obtain rfl : k = l.length := by omega
      have HE := (unhide hsp).1.is
      subst HE
      have HR := hide ((unhide hsp).2)
      clear hsp
      go_wp2
      go_ret
      exact ⟨_, rfl, (unhide HR).1, (unhide HR).2⟩
end Go.Proofs.Ytopngelgpfjdeaa
namespace Go.Proofs.Ytopngelgpfjdeaa
open Go.ChangeShapes Go.WideShapes Go.ChangeAt Go.RowKit Go.Sort Go.Shelf Go.Lib
set_option linter.unusedVariables false
set_option maxRecDepth 100000

theorem sw_cell (enc : Nat → Value) (w : World) (g m : Nat) (d : Array Nat) (os : Array Obj) (c : Nat) (h1 : c ≠ g) (h2 : c < w.heap.size) : (sortWorld enc w g 0 m d os).cell? ⟨c, 0, none⟩ = w.cell? ⟨c, 0, none⟩ := by
  refine World.cell?_of_block ?_
  show ((putRow enc (Sort.ahead w m) g 0 d).heap ++ os)[c]? = _
  have hs : (putRow enc (Sort.ahead w m) g 0 d).heap.size = w.heap.size := size_putRow enc (Sort.ahead w m) g 0 d
  rw [Array.getElem?_append_left (by rw [hs]; omega)]
  show (w.heap.modify g _)[c]? = _
  rw [Array.getElem?_modify, if_neg (by omega)]
def cmpI (a b : Int) : Int := if a < b then -1 else if b < a then 1 else 0
theorem cmpI_neg (a b : Int) : (cmpI a b < 0) = (a < b) := by
  unfold cmpI
  apply propext
  split
  · simp [*]
  · split <;> omega
theorem implNaN (a : Int) (w : World) : Calls Try.prog 153 #[.int .i64 a] w fun e w' => e = .returned (.bool false) ∧ w' = w := by
  go_enter Try.func153, Try.ntmps153
  go_wp2
  go_ret
  exact ⟨by simp, rfl⟩
set_option maxHeartbeats 1000000 in
theorem implCmp (a b : Int) (w : World) : Calls Try.prog 132 #[.int .i64 a, .int .i64 b] w fun e w' => e = .returned (.int .i64 (cmpI a b)) ∧ w' = w := by
  have hn := implNaN
  by_cases h1 : a < b
  · have HF := hide (show cmpI a b = -1 by simp [cmpI, h1])
    go_enter Try.func132, Try.ntmps132
    go_wp2_with fail
    refine (hn a _).mono ?_
    rintro e w1 ⟨rfl, hw⟩
    obtain rfl := hw.symm
    go_wp2_with fail
    refine (hn b _).mono ?_
    rintro e w2 ⟨rfl, hw⟩
    obtain rfl := hw.symm
    clear hn
    go_wp2
    go_ret
    exact ⟨by rw [unhide HF]; rfl, rfl⟩
  · by_cases h2 : b < a
    · have HF := hide (show cmpI a b = 1 by simp [cmpI, h1, h2])
      go_enter Try.func132, Try.ntmps132
      go_wp2_with fail
      refine (hn a _).mono ?_
      rintro e w1 ⟨rfl, hw⟩
      obtain rfl := hw.symm
      go_wp2_with fail
      refine (hn b _).mono ?_
      rintro e w2 ⟨rfl, hw⟩
      obtain rfl := hw.symm
      clear hn
      go_wp2
      go_ret
      exact ⟨by rw [unhide HF]; rfl, rfl⟩
    · have HF := hide (show cmpI a b = 0 by simp [cmpI, h1, h2])
      go_enter Try.func132, Try.ntmps132
      go_wp2_with fail
      refine (hn a _).mono ?_
      rintro e w1 ⟨rfl, hw⟩
      obtain rfl := hw.symm
      go_wp2_with fail
      refine (hn b _).mono ?_
      rintro e w2 ⟨rfl, hw⟩
      obtain rfl := hw.symm
      clear hn
      go_wp2
      go_ret
      exact ⟨by rw [unhide HF]; rfl, rfl⟩
set_option maxHeartbeats 1000000 in
theorem implLinAt (l : List DeedD) (S0 : Nat → Prop) (v0 : Value) (w W : World) (h0 : LAt 20 deedR w S0 v0 l) (hb : Below w.heap.size w W) (bl i : Nat) (hc : W.cell? ⟨bl, 0, none⟩ = some v0) (hi : i < l.length) :
    Calls Try.prog 85 #[.int .i64 i, .pointer (some ⟨bl, 0, none⟩)] W fun e w' => e = .returned (.int .i64 (linA l i)) ∧ w' = W := by
  obtain ⟨a, cap, rfl⟩ := h0.form
  obtain ⟨b, o, cs, rfl, hbk, hSb, hcs, hin⟩ := h0.at i hi
  have p18 := lin_cell h0 hb hi
  have hiz : (i : Int) < (l.length : Int) := by omega
  generalize linA l i = Z at *
  clear hin hcs h0 hSb
  go_enter Try.func85, Try.ntmps85
  go_wp2
  go_ret
  exact ⟨rfl, rfl⟩
set_option maxHeartbeats 2000000 in
theorem implCmpAt (l : List DeedD) (S0 : Nat → Prop) (v0 : Value) (w W : World) (h0 : LAt 20 deedR w S0 v0 l) (hb : Below w.heap.size w W) (hwW : w.heap.size ≤ W.heap.size) (bl bf x y : Nat) (hc : W.cell? ⟨bl, 0, none⟩ = some v0) (hbl : bl < W.heap.size)
    (hf : W.cell? ⟨bf, 0, none⟩ = some (.func (.func 85) #[] #[.pointer (some ⟨bl, 0, none⟩)])) (hbf : bf < W.heap.size) (hx : x < l.length) (hy : y < l.length) :
    Calls Try.prog 131 #[.int .i64 x, .int .i64 y, .pointer (some ⟨bf, 0, none⟩)] W fun e w' => e = .returned (.int .i64 (cmpI (linA l x) (linA l y))) ∧ ∃ q os', w' = grow (W.drewN q) os' := by
  have c1 : ∀ i, i < l.length → ∀ n os, Calls Try.prog 85 #[.int .i64 i, .pointer (some ⟨bl, 0, none⟩)] (grow (W.drewN n) os) fun e w' => e = .returned (.int .i64 (linA l i)) ∧ ∃ q os', w' = grow ((grow (W.drewN n) os).drewN q) os' := fun i hi n os =>
    (implLinAt l S0 v0 w _ h0 (below_grown2 hb hwW n os) bl i (cell_grown (a := ⟨bl, 0, none⟩) hbl hc n os) hi).mono fun _ _ ⟨he, hw⟩ => ⟨he, 0, #[], by rw [hw, grow_empty]; rfl⟩
  have cx := c1 x hx
  have cy := c1 y hy
  have cc : ∀ n os, Calls Try.prog 132 #[.int .i64 (linA l x), .int .i64 (linA l y)] (grow (W.drewN n) os) fun e w' => e = .returned (.int .i64 (cmpI (linA l x) (linA l y))) ∧ ∃ q os', w' = grow ((grow (W.drewN n) os).drewN q) os' := fun n os =>
    (implCmp _ _ _).mono fun _ _ ⟨he, hw⟩ => ⟨he, 0, #[], by rw [hw, grow_empty]; rfl⟩
  have e1 : ∀ args w, (callFunc 85 args).run Try.prog w = .ok (.enter 85 args) w := enters_of Try.func85 (by kernel_rfl) rfl
  have e2 : ∀ args w, (callFunc 132 args).run Try.prog w = .ok (.enter 132 args) w := enters_of Try.func132 (by kernel_rfl) rfl
  have f1 := cell_grown (a := ⟨bf, 0, none⟩) hbf hf
  have mixed : Try.prog.follows .mixedOrders = true := by kernel_rfl
  generalize linA l x = X at *
  generalize linA l y = Y at *
  generalize cmpI X Y = R at *
  clear h0 hb c1 hc hf hx hy
  go_enter Try.func131, Try.ntmps131
  go_wp2_with fail
  go_quiet_grown (first | (go_at_fn 85; refine Calls.grown_of (cx _ _)) | (go_at_fn 85; refine Calls.grown_of (cy _ _)) | (go_at_fn 132; refine Calls.grown_of (cc _ _)))
  clear cx cy cc f1
  go_wp2
  go_ret
  exact ⟨rfl, nq, osq, rfl⟩
set_option maxHeartbeats 2000000 in
theorem stIns0 (p : Option Addr) (cap g : Nat) (cb : Array Value) (w : World) : Calls Try.prog 170 #[.slice p 0 cap, .int .i64 0, .int .i64 0, .func (.func g) #[] cb] w fun e w' => e = .returned (.tuple #[]) ∧ w' = w := by
  go_enter Try.func170, Try.ntmps170
  go_wp2
  refine wp_loop_rounds 1 ?_
  rw [rounds_succ]
  go_wp2
  go_end0
  exact ⟨rfl, rfl⟩
set_option maxHeartbeats 2000000 in
theorem stStable0 (p : Option Addr) (cap g : Nat) (cb : Array Value) (w : World) : Calls Try.prog 152 #[.slice p 0 cap, .int .i64 0, .func (.func g) #[] cb] w fun e w' => e = .returned (.tuple #[]) ∧ w' = w := by
  go_enter Try.func152, Try.ntmps152
  go_wp2
  refine wp_loop_rounds 1 ?_
  rw [rounds_succ]
  go_wp2_with fail
  refine (stIns0 p cap g cb _).mono ?_
  rintro e w1 ⟨rfl, hw⟩
  obtain rfl := hw.symm
  go_wp2
  refine wp_loop_rounds 1 ?_
  rw [rounds_succ]
  go_wp2
  go_end0
  exact ⟨rfl, rfl⟩
theorem stSort0 (p : Option Addr) (cap g : Nat) (cb : Array Value) (w : World) : Calls Try.prog 130 #[.slice p 0 cap, .func (.func g) #[] cb] w fun e w' => e = .returned (.tuple #[]) ∧ w' = w := by
  go_enter Try.func130, Try.ntmps130
  go_wp2_with fail
  refine (stStable0 p cap g cb _).mono ?_
  rintro e w1 ⟨rfl, hw⟩
  obtain rfl := hw.symm
  go_wp2
  go_end0
  exact ⟨rfl, rfl⟩
theorem hmf2 : ∀ (fn : Fn) (first cap : Array Value) (w : World), (Instr.makeFunc fn first cap).run Try.prog w = .ok (.func fn first cap) w := fun _ _ _ _ => rfl
theorem boxed2 (w : World) (v : Value) (t : TypeId) : (w.alloc (.cells #[v] t)).cell? ⟨w.heap.size, 0, none⟩ = some v := by simp [go_sem]
set_option maxHeartbeats 2000000 in
theorem implSortBy (l : List DeedD) (S0 : Nat → Prop) (v0 : Value) (w w1 : World) (h0 : LAt 20 deedR w S0 v0 l) (hb : Below w.heap.size w w1) (bl g cap base : Nat) (hbase : w.heap.size ≤ base) (hc : w1.cell? ⟨bl, 0, none⟩ = some v0) (hbl : bl < w1.heap.size) (hgb : g ≠ bl)
    (hr : w1.ownsRow base 3 1 (.slice (some ⟨g, 0, none⟩) (places l).length cap) (places l).length (cellsI2 (zOf (places l)))) (hll : l.length ≤ 1048576) :
    Calls Try.prog 84 #[.slice (some ⟨g, 0, none⟩) (places l).length cap, .func (.func 85) #[] #[.pointer (some ⟨bl, 0, none⟩)]] w1 fun e w' => e = .returned (.tuple #[]) ∧ w'.ownsRow base 3 1 (.slice (some ⟨g, 0, none⟩) (places l).length cap) (places l).length (cellsI2 (zOf (ordL l))) ∧ Below w.heap.size w w' := by
  have hpl : (places l).length ≤ l.length := placesK_len l l.length
  have hgl := hr.lt g rfl
  have hbx := boxed2 w1 (.func (.func 85) #[] #[.pointer (some ⟨bl, 0, none⟩)]) 134
  have hbn := bnew w1 (.cells #[.func (.func 85) #[] #[.pointer (some ⟨bl, 0, none⟩)]] 134)
  have hsz : (w1.alloc (.cells #[.func (.func 85) #[] #[.pointer (some ⟨bl, 0, none⟩)]] 134)).heap.size = w1.heap.size + 1 := by simp
  have hc2 := hbn.cell (p := ⟨bl, 0, none⟩) hbl
  rw [hc] at hc2
  have hr2 := owns_below hr hbn
  have hb2 := bthen hb hbn
  generalize hw2 : w1.alloc (.cells #[.func (.func 85) #[] #[.pointer (some ⟨bl, 0, none⟩)]] 134) = w2 at *
  have hsort : Calls Try.prog 130 #[.slice (some ⟨g, 0, none⟩) (places l).length cap, .func (.func 131) #[] #[.pointer (some ⟨w1.heap.size, 0, none⟩)]] w2 fun e w' => e = .returned (.tuple #[]) ∧ w'.ownsRow base 3 1 (.slice (some ⟨g, 0, none⟩) (places l).length cap) (places l).length (cellsI2 (zOf (ordL l))) ∧ Below w.heap.size w w' := by
    by_cases hn : (places l).length = 0
    · have hz := stSort0 (some ⟨g, 0, none⟩) cap 131 #[.pointer (some ⟨w1.heap.size, 0, none⟩)] w2
      have ho : ordL l = [] := by
        have := (ordL_ord l).perm.length_eq
        show _ = _
        exact List.eq_nil_of_length_eq_zero (this.trans hn)
      have hp : places l = [] := List.eq_nil_of_length_eq_zero hn
      rw [hn]
      refine hz.mono ?_
      rintro e w' ⟨rfl, hw⟩
      obtain rfl := hw.symm
      rw [ho]
      rw [hp] at hr2
      exact ⟨rfl, hr2, hb2⟩
    · have hne : places l ≠ [] := fun h => hn (by rw [h]; rfl)
      have R := row_start hr2
      have hlt : ∀ j, atP (places l) j < l.length := fun j => placesK_lt (atP_mem hne j)
      have hs := stSort (fun j => linA l (atP (places l) j)) (encP (places l)) (fun x y => cmpI (linA l (atP (places l) x)) (linA l (atP (places l) y))) (fun x y => cmpI_neg _ _) 131 #[.pointer (some ⟨w1.heap.size, 0, none⟩)] g 0 cap (Array.range (places l).length) w2
        (enters_of Try.func131 (by kernel_rfl) rfl) (fun m os dk hdk x y => by
          have hbW : Below w.heap.size w (sortWorld (encP (places l)) w2 g 0 m dk os) := hb2.trans (SW.belowB (B := w.heap.size) ⟨m, os, rfl⟩ (by omega) R.hblk)
          have hsW : w2.heap.size ≤ (sortWorld (encP (places l)) w2 g 0 m dk os).heap.size := SW.le (w0 := w2) (blk := g) (off := 0) (dk := dk) ⟨m, os, rfl⟩
          have hcw : ∀ (c : Nat) (v : Value), c ≠ g → c < w2.heap.size → w2.cell? ⟨c, 0, none⟩ = some v → (sortWorld (encP (places l)) w2 g 0 m dk os).cell? ⟨c, 0, none⟩ = some v := fun c v h1 h2 h3 => by
            rw [sw_cell _ _ _ _ _ _ _ h1 h2]; exact h3
          exact implCmpAt l S0 v0 w _ h0 hbW (Nat.le_trans hb2.size hsW) bl w1.heap.size _ _ (hcw bl _ (Ne.symm hgb) (by omega) hc2) (by omega) (hcw w1.heap.size _ (by omega) (by omega) hbx) (by omega) (hlt x) (hlt y)) R
        (fun i hi => by rw [getElem!_pos _ i hi]; simp) (by rw [Array.size_range]; omega)
      rw [Array.size_range] at hs
      refine hs.mono ?_
      rintro e w' ⟨rfl, d1, h1, h2, hw⟩
      have hd : d1.size = (places l).length := by rw [h1.size (by rw [Array.size_range]; exact Nat.le_refl _), Array.size_range]
      have hre := row_end hr2 hw hd
      rw [sorted_ord h1 h2] at hre
      exact ⟨rfl, hre, hb2.trans (SW.belowB (B := w.heap.size) hw (by omega) R.hblk)⟩
  have hmf := hmf2
  have HS := hide hsort
  clear hsort hr hr2 hbx hb2 hc2 hbn hsz h0 hb hc
  go_enter Try.func84, Try.ntmps84
  go_upto_region 1 with fail
  generalize hW : World.alloc w1 _ = wz at *
  obtain rfl : wz = w2 := hw2
  clear hW
  go_wp2_with fail
  refine (unhide HS).mono ?_
  rintro e w' ⟨rfl, h1, h2⟩
  go_wp2
  go_end0
  exact ⟨rfl, h1, h2⟩
end Go.Proofs.Ytopngelgpfjdeaa
namespace Go.Proofs.Ytopngelgpfjdeaa
open Go.ChangeShapes Go.WideShapes Go.ChangeAt Go.RowKit Go.Sort Go.Shelf Go.Lib
set_option linter.unusedVariables false
set_option maxRecDepth 100000

theorem cellsI2_zsnoc (zs : List Nat) (k : Nat) : cellsI2 (zOf (zs ++ [k])) = cellsI2 (zOf zs) ++ [.int .i64 (k : Int)] := by simp [cellsI2, zOf]
def ImpO (l : List DeedD) (w wk : World) (v0 : Value) (k : Nat) (o : Value) : Prop := wk.ownsRow (w.heap.size + 1) 3 1 o (placesK l k).length (cellsI2 (zOf (placesK l k))) ∧ Below w.heap.size w wk ∧ wk.cell? ⟨w.heap.size, 0, none⟩ = some v0 ∧ w.heap.size + 1 ≤ wk.heap.size
set_option maxHeartbeats 4000000 in
theorem implOrder (l : List DeedD) (S0 : Nat → Prop) (v0 : Value) (w : World) (h0 : LAt 20 deedR w S0 v0 l) (b0 : bulkL deedBulk l ≤ 1048576) :
    Calls Try.prog 24 #[v0] w fun e w' => ∃ v', e = .returned v' ∧ w'.ownsRow w.heap.size 3 1 v' (ordL l).length (cellsI2 (zOf (ordL l))) ∧ Below w.heap.size w w' := by
  obtain ⟨a, cap0, rfl⟩ := h0.form
  have hlen := bulkL_len deedBulk l
  have HA := hide h0
  clear h0
  have hbx := boxed2 w (.slice a l.length cap0) 56
  have hbn := bnew w (.cells #[.slice a l.length cap0] 56)
  have hs1 : (w.alloc (.cells #[.slice a l.length cap0] 56)).heap.size = w.heap.size + 1 := by simp
  have HB1 := hide (And.intro hbn (And.intro hbx hs1))
  clear hbn hs1
  have hmf := hmf2
  go_enter Try.func24, Try.ntmps24
  go_upto_region 1 with fail
  generalize hW : World.alloc w _ = w1 at *
  clear hW
  obtain ⟨hb1, hbx1, hs1⟩ := unhide HB1
  have hbx1' : (w1.alloc (.cells #[] 3)).cell? ⟨w.heap.size, 0, none⟩ = some (.slice a l.length cap0) := by rw [(bnew w1 (.cells #[] 3)).cell (p := ⟨w.heap.size, 0, none⟩) (by show w.heap.size < _; omega)]; exact hbx1
  have how0 : Hid (ImpO l w (w1.alloc (.cells #[] 3)) (.slice a l.length cap0) 0 (.slice (some ⟨w1.heap.size, 0, none⟩) 0 0)) := hide ⟨World.ownsRow_made (base := w.heap.size + 1) (e := 3) (size := 1) w1 #[] 0 (by omega) (by unfold maxLen; omega) rfl, bthen hb1 (bnew w1 _), by rw [(bnew w1 (.cells #[] 3)).cell (p := ⟨w.heap.size, 0, none⟩) (by show w.heap.size < _; omega)]; exact hbx1, by simp; omega⟩
  have HS1 := hide hs1
  clear hb1 hbx hs1
  go_wp2
  go_loopw [3, 9] (fun o i wk => ∃ (k : Nat), k ≤ l.length ∧ i = .int .i64 k ∧ Hid (∃ g cap, o = .slice (some ⟨g, 0, none⟩) (placesK l k).length cap) ∧ Hid (ImpO l w wk (.slice a l.length cap0) k o)) (fun _ i _ => l.length - (intOf i).toNat)
  case atStart => exact ⟨0, Nat.zero_le _, rfl, hide ⟨w1.heap.size, 0, rfl⟩, how0⟩
  case round =>
    obtain ⟨k, hk, rfl, hform, hio⟩ := hrel
    clear how0 hbx1 hbx1'
    obtain ⟨hgr, hbl, hbx, hbs⟩ := unhide hio
    by_cases hlt : k < l.length
    · have hki : (k : Int) < (l.length : Int) := by omega
      obtain ⟨b, o, cs, rfl, hbk, hSb, hcs, hin⟩ := (unhide HA).at k hlt
      have hcs := deedR_keeps _ _ S0 None1 cs _ (Below.turn hbl) none_off hcs
      have hin := hin.turn hbk (Below.turn hbl) (fun e => e)
      have hXb : deedBulk l[k] ≤ 1048576 := by have := bulkL_mem deedBulk (List.getElem_mem hlt); omega
      have hrw : RowT Try.prog 130 cs.length := by rw [deedR_len hcs]; exact rowIDeed
      have HT := hide (tookA_at l hlt)
      have hpl := placesK_len l k
      generalize hX : l[k] = X at *
      clear hX
      have HL1 := hide (deedR_len hcs)
      have on1 := deedR_one hcs
      have hA1 := Held.new wr cs 130
      have hbA := bnew wr (.cells cs.toArray 130)
      have hcs := deedR_keeps _ _ S0 None1 cs _ (Below.turn hbA) none_off hcs
      have hgr2 := owns_below hgr hbA
      have hbx2 := hbA.cell (p := ⟨w.heap.size, 0, none⟩) (by show w.heap.size < _; omega)
      rw [hbx] at hbx2
      have hbl2 := bthen hbl hbA
      have hbs2 : w.heap.size + 1 ≤ (wr.alloc (.cells cs.toArray 130)).heap.size := by simp; omega
      have HG2 := hide (And.intro hgr2 hbx2)
      clear hgr2 hbx2 hgr hio
      go_upto_region 5 with (first | (refine wpl_load rfl 130 _ rfl _ _ rfl cs hin hrw ?_) | (refine wpl_store_new rfl _ _ _ rfl _ cs rfl rfl ?_ on1 hrw ?_; (rw [unhide HL1]; rfl)))
      generalize hWa : World.alloc wr _ = wa at *
      clear hWa hin on1 hbx
      go_wp2_with (first | (refine wpl_load rfl 130 _ rfl _ 0 rfl cs hA1.inB hrw ?_))
      refine (implTook X S0 cs _ hcs hXb).mono ?_
      rintro e w2 ⟨rfl, hb2⟩
      obtain ⟨hgr2, hbx2⟩ := unhide HG2
      have hgr3 := owns_below hgr2 hb2
      have hbx3 := hb2.cell (p := ⟨w.heap.size, 0, none⟩) (by show w.heap.size < _; omega)
      rw [hbx2] at hbx3
      have hbl3 := bthen hbl2 hb2
      have hbs3 := hb2.size
      clear hbx2 hgr2 hA1 hcs hrw HG2 hbA
      by_cases e : tookB X = true
      · have HP := hide (placesK_yes (l := l) (k := k) (by rw [unhide HT]; exact e))
        rw [e]
        clear e HT
        have hown4 := owns_below hgr3 (bnew w2 (.cells #[.int .i64 (k : Int)] 3))
        have hs4 : w.heap.size + 1 ≤ (w2.alloc (.cells #[.int .i64 (k : Int)] 3)).heap.size := by simp; omega
        have hb4 := bthen hbl3 (bnew w2 (.cells #[.int .i64 (k : Int)] 3))
        have hx4 := (bnew w2 (.cells #[.int .i64 (k : Int)] 3)).cell (p := ⟨w.heap.size, 0, none⟩) (by show w.heap.size < _; omega)
        rw [hbx3] at hx4
        have H4 := hide (And.intro hb4 hx4)
        have HF := hide hform
        clear hgr3 hb4 hx4 hbx3 hbl3 hb2 hbl2 hbl
        go_wp2_with (first | (at_builtin; refine wpl_append2 rfl (.tmp 16) (.tmp 18) 69 rfl (w.heap.size + 1) 3 _ 1 8 Try.underlying69 infoI2 rfl (by decide) _ _ _ rfl hown4 ⟨_, 0, none⟩ 1 1 [.int .i64 (k : Int)] rfl rfl (lit_cells4 w2 [.int .i64 (k : Int)] 3) (by intro v hv; simp at hv; subst hv; rfl) (by unfold maxLen; omega) (by omega) hs4 ?_))
        intro v' w' how hg hv
        obtain ⟨hb4, hx4⟩ := unhide H4
        have bl1 := grown_below hb4 hg (fun k hk => by have := (hown4.lt k hk).1; omega) (by omega)
        have hx5 := hg.cell hx4 (fun e => by have := (hown4.lt w.heap.size e.symm).1; omega)
        have hs5 := hg.size
        rw [← cellsI2_zsnoc, ← unhide HP, show (placesK l k).length + 1 = (placesK l (k + 1)).length by rw [unhide HP]; simp] at how
        have hp1 : 0 < (placesK l (k + 1)).length := by rw [unhide HP]; simp
        obtain ⟨g', cap', rfl⟩ := slice_form how hp1
        have HST := hide (show ImpO l w w' (.slice (some ⟨b, o, none⟩) l.length cap0) (k + 1) (.slice (some ⟨g', 0, none⟩) (placesK l (k + 1)).length cap') from ⟨how, bl1, hx5, by omega⟩)
        clear how hg hv bl1 hown4 hb4 hx4 hx5 hform HF hp1
        go_wp2
        go_roundw
        case rel => exact ⟨k + 1, by omega, by go_num, hide ⟨g', cap', rfl⟩, HST⟩
        case measure => simp [intOf]; omega
      · have e : tookB X = false := by simpa using e
        have HP := hide (placesK_no (l := l) (k := k) (by rw [unhide HT]; exact e))
        rw [e]
        clear e HT
        have HST := hide (show ImpO l w w2 (.slice (some ⟨b, o, none⟩) l.length cap0) (k + 1) _ from ⟨by rw [unhide HP]; exact hgr3, hbl3, hbx3, by omega⟩)
        clear hgr3 hbx3 hbl3 hb2 hbl2 hbl
        go_wp2
        go_roundw
        case rel => exact ⟨k + 1, by omega, by go_num, by rw [unhide HP]; exact hform, HST⟩
        case measure => simp [intOf]; omega
    · have hki : ¬ (k : Int) < (l.length : Int) := by omega
      obtain rfl : k = l.length := by omega
      obtain ⟨g, cap, rfl⟩ := unhide hform
      have hgb : g ≠ w.heap.size := by have := (hgr.lt g rfl).1; omega
      have hso := implSortBy l S0 _ w wr (unhide HA) hbl w.heap.size g cap (w.heap.size + 1) (by omega) hbx (by omega) hgb hgr (by omega)
      have HSO := hide hso
      clear hso hgr hbl hbx hio
      go_wp2_with fail
      refine (unhide HSO).mono ?_
      rintro e w3 ⟨rfl, h1, h2⟩
      have hn : (places l).length = (ordL l).length := (ordL_ord l).perm.length_eq.symm
      have hr2 := owns_base (base' := w.heap.size) h1 (by omega)
      rw [hn] at hr2
      have HR := hide (And.intro hr2 h2)
      have HN := hide hn
      clear h1 h2 hr2 hn hmf
      go_wp2
      go_ret
      refine ⟨_, rfl, ?_, (unhide HR).2⟩
      have := (unhide HR).1
      rw [← unhide HN] at this ⊢
      exact this
end Go.Proofs.Ytopngelgpfjdeaa
namespace Go.Proofs.Ytopngelgpfjdeaa
open Go.ChangeShapes Go.WideShapes Go.ChangeAt Go.RowKit
set_option linter.unusedVariables false
set_option maxRecDepth 100000

theorem ord_len (l : List DeedD) : (ordL l).length ≤ l.length := by
  rw [(ordL_ord l).perm.length_eq]
  exact placesK_len l l.length
theorem ord_cnt (l : List DeedD) (h : bulkL deedBulk l ≤ 1048576) : (zOf (ordL l)).length ≤ 16777216 := by
  have := ord_len l
  have := bulkL_len deedBulk l
  rw [zOf_len]
  omega
theorem specOrderL (l : List DeedD) (S0 : Nat → Prop) (v0 : Value) (w : World) (h0 : LAt 20 deedR w S0 v0 l) (b0 : bulkL deedBulk l ≤ 1048576) :
    Calls Try.prog 22 #[v0] w fun e w' => ∃ v', e = .returned v' ∧ LOw 1 intO w' (Within w.heap.size w'.heap.size) v' (zOf (ordL l)) ∧ Below w.heap.size w w' := by
  refine (specOrder l S0 v0 w h0 b0).mono ?_
  rintro e w' ⟨v', rfl, hr, hb⟩
  rw [← zOf_len] at hr
  have := ord_cnt l b0
  exact ⟨v', rfl, ints_done hr (by omega), hb⟩
theorem implOrderL (l : List DeedD) (S0 : Nat → Prop) (v0 : Value) (w : World) (h0 : LAt 20 deedR w S0 v0 l) (b0 : bulkL deedBulk l ≤ 1048576) :
    Calls Try.prog 24 #[v0] w fun e w' => ∃ v', e = .returned v' ∧ LOw 1 intO w' (Within w.heap.size w'.heap.size) v' (zOf (ordL l)) ∧ Below w.heap.size w w' := by
  refine (implOrder l S0 v0 w h0 b0).mono ?_
  rintro e w' ⟨v', rfl, hr, hb⟩
  rw [← zOf_len] at hr
  have := ord_cnt l b0
  exact ⟨v', rfl, ints_done hr (by omega), hb⟩
end Go.Proofs.Ytopngelgpfjdeaa
namespace Go.Proofs.Ytopngelgpfjdeaa
open Go.ChangeShapes Go.WideShapes Go.ChangeAt Go.RowKit Go.Sort
set_option linter.unusedVariables false
set_option maxRecDepth 100000

def inOrdK (l : List DeedD) (k : Nat) : List DeedD := ((ordL l).take k).filterMap (l[·]?)
def inOrd (l : List DeedD) : List DeedD := (ordL l).filterMap (l[·]?)
theorem ordL_lt (l : List DeedD) {k : Nat} (h : k < (ordL l).length) : (ordL l)[k] < l.length := (ordL_ord l).mem (List.getElem_mem h)
theorem inOrdK_step (l : List DeedD) (k : Nat) (h : k < (ordL l).length) : inOrdK l (k + 1) = inOrdK l k ++ [l[(ordL l)[k]]'(ordL_lt l h)] := by
  unfold inOrdK
  rw [List.take_succ_eq_append_getElem h, List.filterMap_append]
  congr 1
  rw [List.filterMap_cons, List.getElem?_eq_getElem (ordL_lt l h)]
  rfl
theorem inOrdK_all (l : List DeedD) : inOrdK l (ordL l).length = inOrd l := by unfold inOrdK inOrd; rw [List.take_length]
theorem inOrdK_len (l : List DeedD) (k : Nat) : (inOrdK l k).length ≤ k := by
  unfold inOrdK
  refine Nat.le_trans (List.length_filterMap_le _ _) ?_
  rw [List.length_take]
  omega
theorem inOrd_mem {l : List DeedD} {x : DeedD} (h : x ∈ inOrd l) : x ∈ l := by
  unfold inOrd at h
  obtain ⟨i, _, h2⟩ := List.mem_filterMap.1 h
  exact List.mem_of_getElem? h2
def Old (w : World) : Nat → Prop := fun k => k < w.heap.size
theorem deedR_old {w : World} {S : Nat → Prop} {cs : List Value} {x : DeedD} (h : deedR w S cs x) : deedR w (Old w) cs x := by
  obtain ⟨s0, e, a, cap, e2, hl, h⟩ := h
  refine ⟨s0, e, a, cap, e2, hl, ?_⟩
  rcases h with h | ⟨b, o, h1, h2, h3, h4⟩
  · exact .inl h
  · exact .inr ⟨b, o, h1, h2, h2, h4⟩
theorem deeds_old {w : World} {S : Nat → Prop} {v : Value} {l : List DeedD} (h : LAt 20 deedR w S v l) : LAt 20 deedR w (Old w) v l := by
  obtain ⟨a, cap, e2, hl, h⟩ := h
  refine ⟨a, cap, e2, hl, ?_⟩
  rcases h with h | ⟨b, o, h1, h2, h3, h4⟩
  · exact .inl h
  · exact .inr ⟨b, o, h1, h2, h2, fun i x hx => by
      obtain ⟨cs, g1, g2⟩ := h4 i x hx
      exact ⟨cs, deedR_old g1, g2⟩⟩
/-- A row of the call's own of deeds that share what they hold with old ones. -/
def DRow (S : Nat → Prop) (w wk : World) (v : Value) (l : List DeedD) : Prop := ∃ css : List (List Value), wk.ownsRow w.heap.size 130 20 v l.length css.flatten ∧ css.length = l.length ∧ ∀ (i : Nat) (x : DeedD), l[i]? = some x → ∃ cs, css[i]? = some cs ∧ deedR wk S cs x ∧ cs.length = 20
theorem DRow.keep {S : Nat → Prop} {w wk w2 : World} {v : Value} {l : List DeedD} (h : DRow S w wk v l) (hb : Below wk.heap.size wk w2) : DRow S w w2 v l := by
  obtain ⟨css, h1, h2, h3⟩ := h
  refine ⟨css, owns_below h1 hb, h2, fun i x hx => ?_⟩
  obtain ⟨cs, g1, g2, g3⟩ := h3 i x hx
  exact ⟨cs, g1, deedR_keeps _ _ _ None1 _ _ (Below.turn hb) none_off g2, g3⟩
theorem DRow.step {S : Nat → Prop} {w : World} (hS : ∀ k, S k → k < w.heap.size) {w2 w' : World} {v v' : Value} {l : List DeedD} {css : List (List Value)} {cs : List Value} {x : DeedD} (h2 : css.length = l.length) (h3 : ∀ (i : Nat) (x : DeedD), l[i]? = some x → ∃ cs, css[i]? = some cs ∧ deedR w2 S cs x ∧ cs.length = 20)
    (hx : deedR w2 S cs x) (hn : cs.length = 20) (how : w'.ownsRow w.heap.size 130 20 v' (l.length + 1) (css.flatten ++ cs)) (hg : w2.grownBy w' v.ownBlock) (hlo : ∀ k, v.ownBlock = some k → w.heap.size ≤ k) : DRow S w w' v' (l ++ [x]) := by
  have ht := grown_turn hg
  have hdis : ∀ k, S k → ¬ (v.ownBlock = some k) := fun k hk e => by have := hlo k e; have := hS k hk; omega
  refine ⟨css ++ [cs], by simpa using how, by simp [h2], fun i y hy => ?_⟩
  by_cases hi : i < l.length
  · rw [List.getElem?_append_left hi] at hy
    obtain ⟨c, g1, g2, g3⟩ := h3 i y hy
    exact ⟨c, by rw [List.getElem?_append_left (by omega)]; exact g1, deedR_keeps _ _ _ _ _ _ ht hdis g2, g3⟩
  · have hl : i = l.length := by
      have := (List.getElem?_eq_some_iff.1 hy).1
      simp at this
      omega
    subst hl
    rw [List.getElem?_append_right (Nat.le_refl _), Nat.sub_self] at hy
    simp only [List.getElem?_cons_zero, Option.some.injEq] at hy
    subst hy
    exact ⟨cs, by rw [← h2, List.getElem?_append_right (Nat.le_refl _), Nat.sub_self]; rfl, deedR_keeps _ _ _ _ _ _ ht hdis hx, hn⟩
def Mine (S : Nat → Prop) (w : World) : Nat → Prop := fun k => S k ∨ w.heap.size ≤ k
theorem DRow.read {S : Nat → Prop} {w wk : World} {v : Value} {l : List DeedD} (h : DRow S w wk v l) (hl : l.length ≤ 9223372036854775807) : LAt 20 deedR wk (Mine S w) v l := by
  obtain ⟨css, h1, h2, h3⟩ := h
  have hall : ∀ cs ∈ css, cs.length = 20 := fun cs hcs => by
    obtain ⟨i, hi, rfl⟩ := List.mem_iff_getElem.1 hcs
    obtain ⟨c, g1, _, g3⟩ := h3 i (l[i]'(by omega)) (List.getElem?_eq_getElem _)
    rw [List.getElem?_eq_getElem hi, Option.some.injEq] at g1
    rw [g1]; exact g3
  rcases h1.2 with ⟨rfl, hn⟩ | ⟨g, cap, cur, rfl, hb, hh, _⟩
  · have : l = [] := List.eq_nil_of_length_eq_zero hn
    subst this
    exact ⟨none, 0, rfl, by simp, .inl rfl⟩
  · refine ⟨some ⟨g, 0, none⟩, cap, rfl, hl, .inr ⟨g, 0, rfl, (h1.lt g rfl).2, .inr hb, fun i x hx => ?_⟩⟩
    obtain ⟨cs, g1, g2, g3⟩ := h3 i x hx
    refine ⟨cs, deedR_widens _ _ _ _ _ (fun _ h => .inl h) g2, fun j u hu => ?_⟩
    have hj : j < 20 := by have := (List.getElem?_eq_some_iff.1 hu).1; omega
    have hc := h1.cells (g := g) rfl (i * 20 + j) u (by rw [flat_at css i j hall hj, g1]; exact hu)
    have e : (⟨g, 0, none⟩ : Addr).add (i * 20 + j) = ⟨g, 0 + i * 20 + j, none⟩ := by unfold Addr.add; split <;> simp_all
    rw [e] at hc
    exact hc
theorem owns_apart {base : Nat} {w w' : World} {e : TypeId} {size : Nat} {v u : Value} {n : Nat} {xs : List Value} (h : w.ownsRow base e size v n xs) (hg : w.grownBy w' u.ownBlock) (hne : v.ownBlock ≠ u.ownBlock) : w'.ownsRow base e size v n xs := by
  obtain ⟨h1, h2⟩ := h
  refine ⟨h1, ?_⟩
  rcases h2 with h2 | ⟨g, cap, cur, rfl, hb, hh, rest⟩
  · exact .inl h2
  · refine .inr ⟨g, cap, cur, rfl, hb, ?_, rest⟩
    rw [hg.block g (Array.getElem?_eq_some_iff.1 hh).1 (fun e => hne e)]
    exact hh
theorem ord_at {l : List DeedD} {w wr : World} {S0 : Nat → Prop} {a : Option Addr} {m cap k : Nat} (h : LAt 20 deedR w S0 (.slice a m cap) l) (hb : Below w.heap.size w wr) (hk : k < (ordL l).length) :
    ∃ (z : Nat) (X : DeedD) (b o : Nat) (cs : List Value), (ordL l)[k] = z ∧ z < l.length ∧ l[z]? = some X ∧ inOrdK l (k + 1) = inOrdK l k ++ [X] ∧ a = some ⟨b, o, none⟩ ∧ InB wr b (o + z * 20) cs ∧ deedR wr S0 cs X := by
  obtain ⟨b, o, cs, h1, hbk, hSb, hcs, hin⟩ := h.at _ (ordL_lt l hk)
  exact ⟨_, _, b, o, cs, rfl, ordL_lt l hk, List.getElem?_eq_getElem _, inOrdK_step l k hk, h1, hin.turn hbk (Below.turn hb) (fun e => e), deedR_keeps _ _ S0 None1 cs _ (Below.turn hb) none_off hcs⟩
theorem cell_z {w : World} {g k z : Nat} {l : List DeedD} (hk : k < (ordL l).length) (h : w.cell? ⟨g, k, none⟩ = some (.int .i64 ((ordL l)[k] : Int))) (hz : (ordL l)[k] = z) : w.cell? ⟨g, k, none⟩ = some (.int .i64 (z : Int)) := by rw [← hz]; exact h
def InOrdS (S0 : Nat → Prop) (l : List DeedD) (w wk : World) (k : Nat) (v : Value) (o : Value) : Prop := DRow S0 w wk v (inOrdK l k) ∧ wk.ownsRow w.heap.size 3 1 o (ordL l).length (cellsI2 (zOf (ordL l))) ∧ o.ownBlock ≠ v.ownBlock ∧ Below w.heap.size w wk
set_option maxHeartbeats 4000000 in
theorem implInOrder (l : List DeedD) (S0 : Nat → Prop) (v0 : Value) (w : World) (h0 : LAt 20 deedR w S0 v0 l) (hS : ∀ k, S0 k → k < w.heap.size) (b0 : bulkL deedBulk l ≤ 1048576) :
    Calls Try.prog 87 #[v0] w fun e w' => ∃ v', e = .returned v' ∧ LAt 20 deedR w' (Mine S0 w) v' (inOrd l) ∧ Below w.heap.size w w' := by
  obtain ⟨a, cap0, rfl⟩ := h0.form
  have hlen := bulkL_len deedBulk l
  have hol : (ordL l).length ≤ l.length := (ordL_ord l).len
  have HA := hide h0
  clear h0
  have hb1 := bnew w (.cells #[] 130)
  have how0 := World.ownsRow_made (base := w.heap.size) (e := 130) (size := 20) w #[] 0 (Nat.le_refl _) (by unfold maxLen; omega) rfl
  have H0 := hide (And.intro how0 hb1)
  clear how0
  go_enter Try.func87, Try.ntmps87
  go_wp2_with fail
  refine (implOrder l S0 _ _ ((unhide HA).keep deedR_keeps hb1) b0).mono ?_
  rintro e w2 ⟨vo, rfl, hro, hbo⟩
  have hf : ∃ ao co, vo = .slice ao (ordL l).length co := by
    rcases hro.2 with ⟨h1, h2⟩ | ⟨g, c, cur, h1, _⟩
    · exact ⟨none, 0, by rw [h2]; exact h1⟩
    · exact ⟨_, c, h1⟩
  obtain ⟨ao, co, rfl⟩ := hf
  have hst : Hid (InOrdS S0 l w w2 0 (.slice (some ⟨w.heap.size, 0, none⟩) 0 0) (.slice ao (ordL l).length co)) := by
    obtain ⟨how0, hb1⟩ := unhide H0
    have hne : (Value.slice ao (ordL l).length co).ownBlock ≠ (Value.slice (some ⟨w.heap.size, 0, none⟩) 0 0).ownBlock := fun e => by
      have h1 := (hro.lt w.heap.size (by rw [e]; rfl)).1
      have h2 : (w.alloc (.cells #[] 130)).heap.size = w.heap.size + 1 := by simp
      omega
    have hr2 := owns_below how0 hbo
    refine hide ⟨⟨[], ?_, ?_, fun i x hx => by simp [inOrdK] at hx⟩, owns_base hro (by simp), hne, bthen hb1 hbo⟩
    · simpa [inOrdK] using hr2
    · simp [inOrdK]
  clear hb1 hbo hro H0
  go_wp2
  go_loopw [3, 10] (fun o i wk => ∃ k : Nat, k ≤ (ordL l).length ∧ i = .int .i64 k ∧ Hid (InOrdS S0 l w wk k o (.slice ao (ordL l).length co))) (fun _ i _ => (ordL l).length - (intOf i).toNat)
  case atStart => exact ⟨0, Nat.zero_le _, rfl, hst⟩
  case round =>
    obtain ⟨k, hk, rfl, hin0⟩ := hrel
    clear hst
    by_cases hlt : k < (ordL l).length
    · have hki : (k : Int) < ((ordL l).length : Int) := by omega
      obtain ⟨⟨css, hrow, hcl, hel⟩, hro, hne, hbl⟩ := unhide hin0
      have hpre := inOrdK_len l k
      obtain ⟨g, rfl⟩ : ∃ g, ao = some ⟨g, 0, none⟩ := by
        rcases hro.2 with ⟨h1, h2⟩ | ⟨g, c, cur, h1, _⟩
        · omega
        · injection h1 with e1 e2 e3; exact ⟨g, e1⟩
      obtain ⟨z, X, b, o, cs, hz, hzl, hX, hstep, rfl, hin, hcs⟩ := ord_at (unhide HA) hbl hlt
      have cz := cell_z hlt (zcell hro k hlt) hz
      have hzi : (z : Int) < (l.length : Int) := by omega
      have HS := hide hstep
      have hrw : RowT Try.prog 130 cs.length := by rw [deedR_len hcs]; exact rowIDeed
      have HX := hide hcs
      obtain ⟨s0, rfl, y0⟩ := hcs
      have hgl := (cap_le hro).2.2
      have hb2 := bnew wr (.cells #[.int .i64 X.op, .int .i64 X.task, .int .i64 X.s.1, .int .i64 X.s.2.1, .int .i64 X.s.2.2.1, .int .i64 X.s.2.2.2.1, .bool X.s.2.2.2.2.1, s0, .int .i64 X.trace, .int .i64 X.stamp, .int .i64 X.code, .bool X.keep, .bool X.void, .int .i64 X.took, .int .i64 X.n, .int .i64 X.forgot, .int .i64 X.now, .int .i64 X.inv, .int .i64 X.lin, .int .i64 X.res] 130)
      have hrow2 := owns_below hrow hb2
      have hs2 : w.heap.size ≤ (wr.alloc (.cells #[.int .i64 X.op, .int .i64 X.task, .int .i64 X.s.1, .int .i64 X.s.2.1, .int .i64 X.s.2.2.1, .int .i64 X.s.2.2.2.1, .bool X.s.2.2.2.2.1, s0, .int .i64 X.trace, .int .i64 X.stamp, .int .i64 X.code, .bool X.keep, .bool X.void, .int .i64 X.took, .int .i64 X.n, .int .i64 X.forgot, .int .i64 X.now, .int .i64 X.inv, .int .i64 X.lin, .int .i64 X.res] 130)).heap.size := by have := hb2.size; have := hbl.size; omega
      have one1 : ∀ u ∈ [.int .i64 X.op, .int .i64 X.task, .int .i64 X.s.1, .int .i64 X.s.2.1, .int .i64 X.s.2.2.1, .int .i64 X.s.2.2.2.1, .bool X.s.2.2.2.2.1, s0, .int .i64 X.trace, .int .i64 X.stamp, .int .i64 X.code, .bool X.keep, .bool X.void, .int .i64 X.took, .int .i64 X.n, .int .i64 X.forgot, .int .i64 X.now, .int .i64 X.inv, .int .i64 X.lin, .int .i64 X.res], u.oneCell' = true := by
        intro u hu
        obtain ⟨a2, k2, rfl⟩ := y0.form
        simp only [List.mem_cons, List.not_mem_nil, or_false] at hu
        rcases hu with rfl | rfl | rfl | rfl | rfl | rfl | rfl | rfl | rfl | rfl | rfl | rfl | rfl | rfl | rfl | rfl | rfl | rfl | rfl | rfl <;> rfl
      have HE := hide (And.intro hcl (And.intro hel (And.intro hro (And.intro hne hbl))))
      clear hstep hX hz hcl hel hro hne hbl hrow y0 hin0
      go_wp2_with (first | (refine wpl_load rfl 130 _ rfl _ _ rfl _ hin hrw ?_) | (at_builtin; refine wpl_append2 rfl (.tmp 14) (.tmp 19) 56 rfl w.heap.size 130 _ 20 168 Try.underlying56 mInfoDeed rfl (by decide) _ _ _ rfl hrow2 ⟨_, 0, none⟩ 1 1 [.int .i64 X.op, .int .i64 X.task, .int .i64 X.s.1, .int .i64 X.s.2.1, .int .i64 X.s.2.2.1, .int .i64 X.s.2.2.2.1, .bool X.s.2.2.2.2.1, s0, .int .i64 X.trace, .int .i64 X.stamp, .int .i64 X.code, .bool X.keep, .bool X.void, .int .i64 X.took, .int .i64 X.n, .int .i64 X.forgot, .int .i64 X.now, .int .i64 X.inv, .int .i64 X.lin, .int .i64 X.res] rfl rfl (lit_cells4 wr [.int .i64 X.op, .int .i64 X.task, .int .i64 X.s.1, .int .i64 X.s.2.1, .int .i64 X.s.2.2.1, .int .i64 X.s.2.2.2.1, .bool X.s.2.2.2.2.1, s0, .int .i64 X.trace, .int .i64 X.stamp, .int .i64 X.code, .bool X.keep, .bool X.void, .int .i64 X.took, .int .i64 X.n, .int .i64 X.forgot, .int .i64 X.now, .int .i64 X.inv, .int .i64 X.lin, .int .i64 X.res] 130) one1 (by unfold maxLen; omega) (by omega) hs2 ?_))
      intro v' w' how hg hv
      obtain ⟨hcl, hel, hro, hne, hbl⟩ := unhide HE
      have hown : ∀ q, Value.ownBlock _ = some q → w.heap.size ≤ q := fun q hq => (hrow2.lt q hq).1
      have hd := DRow.step hS hcl (fun i x hx => by
        obtain ⟨c, g1, g2, g3⟩ := hel i x hx
        exact ⟨c, g1, deedR_keeps _ _ _ None1 _ _ (Below.turn hb2) none_off g2, g3⟩) (deedR_keeps _ _ _ None1 _ _ (Below.turn hb2) none_off (unhide HX)) rfl how hg hown
      rw [← unhide HS] at hd
      have hro2 := owns_apart (owns_below hro hb2) hg hne
      have hne2 : (Value.slice (some ⟨g, 0, none⟩) (ordL l).length co).ownBlock ≠ v'.ownBlock := by
        rcases hv with h | h
        · rw [h]; exact hne
        · rw [h]
          intro e
          have h1 := hgl
          have h3 := hb2.size
          have h4 : g = wr.heap.size + 1 := Option.some.inj e
          omega
      have bl1 := grown_below (bthen hbl hb2) hg hown hs2
      have HST := hide (show InOrdS S0 l w w' (k + 1) v' (.slice (some ⟨g, 0, none⟩) (ordL l).length co) from ⟨hd, hro2, hne2, bl1⟩)
      clear how hg hv hd hro2 hne2 bl1 hcl hel hro hne hbl hrow2 hown HE HX hb2 one1 hin cz
      go_wp2
      go_roundw
      case rel => exact ⟨k + 1, by omega, by go_num, HST⟩
      case measure => simp [intOf]; omega
    · have hki : ¬ (k : Int) < ((ordL l).length : Int) := by omega
      obtain rfl : k = (ordL l).length := by omega
      have h1 := (unhide hin0).1
      have h2 := (unhide hin0).2.2.2
      rw [inOrdK_all] at h1
      have hll : (inOrd l).length ≤ 9223372036854775807 := by rw [← inOrdK_all]; have := inOrdK_len l (ordL l).length; omega
      have HF := hide (And.intro (h1.read hll) h2)
      clear h1 h2 hin0
      go_wp2
      go_ret
      exact ⟨_, rfl, (unhide HF).1, (unhide HF).2⟩
end Go.Proofs.Ytopngelgpfjdeaa
namespace Go.Proofs.Ytopngelgpfjdeaa
open Go.ChangeShapes Go.WideShapes Go.ChangeAt Go.RowKit Go.Sort
set_option linter.unusedVariables false
set_option maxRecDepth 100000

def fgtB (x : DeedD) : Bool := decide (0 < x.forgot)
def fgt (l : List DeedD) : List Int := (l.filter fgtB).map DeedD.forgot
theorem fgt_snoc (l : List DeedD) (x : DeedD) : fgt (l ++ [x]) = fgt l ++ if fgtB x then [x.forgot] else [] := by
  unfold fgt
  rw [List.filter_append, List.map_append]
  congr 1
  by_cases e : fgtB x = true
  · simp [e]
  · simp [e]
theorem fgt_yes {l : List DeedD} {x : DeedD} (h : 0 < x.forgot) : fgt (l ++ [x]) = fgt l ++ [x.forgot] := by rw [fgt_snoc, if_pos (by simpa [fgtB] using h)]
theorem fgt_no {l : List DeedD} {x : DeedD} (h : ¬ 0 < x.forgot) : fgt (l ++ [x]) = fgt l := by rw [fgt_snoc, if_neg (by simpa [fgtB] using h), List.append_nil]
theorem fgt_len (l : List DeedD) : (fgt l).length ≤ l.length := by
  unfold fgt
  rw [List.length_map]
  exact List.length_filter_le _ _
theorem inOrd_len (l : List DeedD) : (inOrd l).length ≤ l.length := by
  rw [← inOrdK_all]
  exact Nat.le_trans (inOrdK_len l _) (ordL_ord l).len
theorem fgt_cnt (l : List DeedD) (h : bulkL deedBulk l ≤ 1048576) : (fgt (inOrd l)).length ≤ 16777216 := by
  have := fgt_len (inOrd l)
  have := inOrd_len l
  have := bulkL_len deedBulk l
  omega
theorem take_snoc {l : List DeedD} {k : Nat} (h : k < l.length) : l.take (k + 1) = l.take k ++ [l[k]] := List.take_succ_eq_append_getElem h
theorem deeds_in {w : World} {S : Nat → Prop} {v : Value} {l : List DeedD} (h : LAt 20 deedR w S v l) : LAt 20 deedR w (fun k => S k ∧ k < w.heap.size) v l := by
  obtain ⟨a, cap, e2, hl, h⟩ := h
  refine ⟨a, cap, e2, hl, ?_⟩
  rcases h with h | ⟨b, o, h1, h2, h3, h4⟩
  · exact .inl h
  · refine .inr ⟨b, o, h1, h2, ⟨h3, h2⟩, fun i x hx => ?_⟩
    obtain ⟨cs, ⟨s0, e, a', cap', e2', hl', g⟩, g2⟩ := h4 i x hx
    refine ⟨cs, ⟨s0, e, a', cap', e2', hl', ?_⟩, g2⟩
    rcases g with g | ⟨b', o', g1, g2', g3, g4⟩
    · exact .inl g
    · exact .inr ⟨b', o', g1, g2', ⟨g3, g2'⟩, g4⟩
def FgS (l : List DeedD) (w wk : World) (k : Nat) (u o : Value) : Prop := wk.ownsRow w.heap.size 3 1 u (fgt (inOrdK l k)).length (cellsI2 (fgt (inOrdK l k))) ∧ wk.ownsRow w.heap.size 3 1 o (ordL l).length (cellsI2 (zOf (ordL l))) ∧ o.ownBlock ≠ u.ownBlock ∧ Below w.heap.size w wk
theorem ne_grown {o u u' : Value} {w : World} (hne : o.ownBlock ≠ u.ownBlock) (hlt : ∀ k, o.ownBlock = some k → k < w.heap.size) (hv : u'.ownBlock = u.ownBlock ∨ ∃ B, u'.ownBlock = some B ∧ w.heap.size ≤ B) : o.ownBlock ≠ u'.ownBlock := by
  rcases hv with h | ⟨B, h, hB⟩
  · rw [h]; exact hne
  · rw [h]
    intro e
    have := hlt B e
    omega
set_option maxHeartbeats 4000000 in
theorem specForgotOf (l : List DeedD) (S0 : Nat → Prop) (v0 : Value) (w : World) (h0 : LAt 20 deedR w S0 v0 l) (b0 : bulkL deedBulk l ≤ 1048576) :
    Calls Try.prog 30 #[v0] w fun e w' => ∃ v', e = .returned v' ∧ LOw 1 intO w' (Within w.heap.size w'.heap.size) v' (fgt (inOrd l)) ∧ Below w.heap.size w w' := by
  obtain ⟨a, cap0, rfl⟩ := h0.form
  have hlen := bulkL_len deedBulk l
  have hol : (ordL l).length ≤ l.length := (ordL_ord l).len
  have HA := hide h0
  clear h0
  have hb1 := bnew w (.cells #[] 3)
  have how0 := World.ownsRow_made (base := w.heap.size) (e := 3) (size := 1) w #[] 0 (Nat.le_refl _) (by unfold maxLen; omega) rfl
  have hsz1 : (w.alloc (.cells #[] 3)).heap.size = w.heap.size + 1 := by simp
  have H0 := hide (And.intro how0 (And.intro hb1 hsz1))
  clear how0 hsz1
  go_enter Try.func30, Try.ntmps30
  go_wp2_with fail
  refine (specOrder l S0 _ _ ((unhide HA).keep deedR_keeps hb1) b0).mono ?_
  rintro e w2 ⟨vo, rfl, hro, hbo⟩
  have hf : ∃ ao co, vo = .slice ao (ordL l).length co := by
    rcases hro.2 with ⟨h1, h2⟩ | ⟨g, c, cur, h1, _⟩
    · exact ⟨none, 0, by rw [h2]; exact h1⟩
    · exact ⟨_, c, h1⟩
  obtain ⟨ao, co, rfl⟩ := hf
  have hst : Hid (FgS l w w2 0 (.slice (some ⟨w.heap.size, 0, none⟩) 0 0) (.slice ao (ordL l).length co)) := by
    obtain ⟨how0, hb1, hsz1⟩ := unhide H0
    have hne : (Value.slice ao (ordL l).length co).ownBlock ≠ (Value.slice (some ⟨w.heap.size, 0, none⟩) 0 0).ownBlock := fun e => by
      have h1 := (hro.lt w.heap.size (by rw [e]; rfl)).1
      omega
    have hr2 := owns_below how0 hbo
    refine hide ⟨?_, owns_base hro (by omega), hne, bthen hb1 hbo⟩
    simpa [inOrdK, fgt, cellsI2] using hr2
  clear hb1 hbo hro H0
  go_wp2
  go_loopw [3, 5] (fun u i wk => ∃ k : Nat, k ≤ (ordL l).length ∧ i = .int .i64 k ∧ Hid (FgS l w wk k u (.slice ao (ordL l).length co))) (fun _ i _ => (ordL l).length - (intOf i).toNat)
  case atStart => exact ⟨0, Nat.zero_le _, rfl, hst⟩
  case round =>
    obtain ⟨k, hk, rfl, hin0⟩ := hrel
    clear hst
    by_cases hlt : k < (ordL l).length
    · have hki : (k : Int) < ((ordL l).length : Int) := by omega
      obtain ⟨hrow, hro, hne, hbl⟩ := unhide hin0
      have hpre := inOrdK_len l k
      have hpre2 := fgt_len (inOrdK l k)
      obtain ⟨g, rfl⟩ : ∃ g, ao = some ⟨g, 0, none⟩ := by
        rcases hro.2 with ⟨h1, h2⟩ | ⟨g, c, cur, h1, _⟩
        · omega
        · injection h1 with e1 e2 e3; exact ⟨g, e1⟩
      obtain ⟨z, X, b, o, cs, hz, hzl, hX, hstep, rfl, hin, hcs⟩ := ord_at (unhide HA) hbl hlt
      have cz := cell_z hlt (zcell hro k hlt) hz
      have hzi : (z : Int) < (l.length : Int) := by omega
      have p15 : wr.cell? ⟨b, o + z * 20 + 15, none⟩ = some (.int .i64 X.forgot) := hin 15 _ (deedR_c15 hcs)
      have HS := hide hstep
      clear hstep hX hz hin hcs
      by_cases e : 0 < X.forgot
      · have HF := hide (fgt_yes (l := inOrdK l k) e)
        have hb2 := bnew wr (.cells #[.int .i64 X.forgot] 3)
        have hrow2 := owns_below hrow hb2
        have hs2 : w.heap.size ≤ (wr.alloc (.cells #[.int .i64 X.forgot] 3)).heap.size := by have := hb2.size; have := hbl.size; omega
        have HE := hide (And.intro hro (And.intro hne hbl))
        clear hro hne hbl hrow hin0
        go_wp2_with (first | (at_builtin; refine wpl_append2 rfl (.tmp 24) (.tmp 33) 69 rfl w.heap.size 3 _ 1 8 Try.underlying69 infoI2 rfl (by decide) _ _ _ rfl hrow2 ⟨_, 0, none⟩ 1 1 [.int .i64 X.forgot] rfl rfl (lit_cells4 wr [.int .i64 X.forgot] 3) (by intro v hv; simp at hv; subst hv; rfl) (by unfold maxLen; omega) (by omega) hs2 ?_))
        intro v' w' how hg hv
        obtain ⟨hro, hne, hbl⟩ := unhide HE
        have hro2 := owns_apart (owns_below hro hb2) hg hne
        have hne2 := ne_grown (u' := v') (w := wr) hne (fun q hq => (hro.lt q hq).2) (hv.imp_right (fun h => ⟨_, h, by first | (simp; omega) | omega | simp⟩))
        have bl1 := grown_below (bthen hbl hb2) hg (fun q hq => (hrow2.lt q hq).1) hs2
        rw [← cellsI2_snoc, ← unhide HF, ← unhide HS] at how
        have hl1 : (fgt (inOrdK l k)).length + 1 = (fgt (inOrdK l (k + 1))).length := by rw [unhide HS, unhide HF]; simp
        rw [hl1] at how
        have HST := hide (show FgS l w w' (k + 1) v' (.slice (some ⟨g, 0, none⟩) (ordL l).length co) from ⟨how, hro2, hne2, bl1⟩)
        clear how hg hv hro2 hne2 bl1 hro hne hbl hrow2 HE hb2 cz p15 hl1 e
        go_wp2
        go_roundw
        case rel => exact ⟨k + 1, by omega, by go_num, HST⟩
        case measure => simp [intOf]; omega
      · have HF := hide (fgt_no (l := inOrdK l k) e)
        have HST := hide (show FgS l w wr (k + 1) _ (.slice (some ⟨g, 0, none⟩) (ordL l).length co) from ⟨by rw [unhide HS, unhide HF]; exact hrow, hro, hne, hbl⟩)
        clear hrow hro hne hbl hin0
        go_wp2
        go_roundw
        case rel => exact ⟨k + 1, by omega, by go_num, HST⟩
        case measure => simp [intOf]; omega
    · have hki : ¬ (k : Int) < ((ordL l).length : Int) := by omega
      obtain rfl : k = (ordL l).length := by omega
      have h1 := (unhide hin0).1
      have h2 := (unhide hin0).2.2.2
      rw [inOrdK_all] at h1
      have hcn := fgt_cnt l b0
      have HF := hide (And.intro (ints_done h1 (by omega)) h2)
      clear h1 h2 hin0
      go_wp2
      go_ret
      exact ⟨_, rfl, (unhide HF).1, (unhide HF).2⟩
def FgI (S : Nat → Prop) (d : List DeedD) (w wk : World) (k : Nat) (u v : Value) : Prop := wk.ownsRow w.heap.size 3 1 u (fgt (d.take k)).length (cellsI2 (fgt (d.take k))) ∧ LAt 20 deedR wk S v d ∧ (∀ q, S q → ¬ (u.ownBlock = some q)) ∧ (∀ q, S q → q < wk.heap.size) ∧ Below w.heap.size w wk
set_option maxHeartbeats 4000000 in
theorem implForgotOf (l : List DeedD) (S0 : Nat → Prop) (v0 : Value) (w : World) (h0 : LAt 20 deedR w S0 v0 l) (b0 : bulkL deedBulk l ≤ 1048576) :
    Calls Try.prog 31 #[v0] w fun e w' => ∃ v', e = .returned v' ∧ LOw 1 intO w' (Within w.heap.size w'.heap.size) v' (fgt (inOrd l)) ∧ Below w.heap.size w w' := by
  obtain ⟨a, cap0, rfl⟩ := h0.form
  have hlen := bulkL_len deedBulk l
  have hol := inOrd_len l
  have HA := hide (deeds_old h0)
  clear h0
  have hb1 := bnew w (.cells #[] 3)
  have how0 := World.ownsRow_made (base := w.heap.size) (e := 3) (size := 1) w #[] 0 (Nat.le_refl _) (by unfold maxLen; omega) rfl
  have hsz1 : (w.alloc (.cells #[] 3)).heap.size = w.heap.size + 1 := by simp
  have H0 := hide (And.intro how0 (And.intro hb1 hsz1))
  go_enter Try.func31, Try.ntmps31
  go_wp2_with fail
  refine (implInOrder l (Old w) _ _ ((unhide HA).keep deedR_keeps hb1) (fun k hk => by unfold Old at hk; omega) b0).mono ?_
  clear how0 hsz1
  rintro e w2 ⟨vo, rfl, hro, hbo⟩
  obtain ⟨ao, co, rfl⟩ := hro.form
  obtain ⟨S, hSS⟩ : ∃ S : Nat → Prop, S = fun k => (Old w k ∨ w.heap.size + 1 ≤ k) ∧ k < w2.heap.size := ⟨_, rfl⟩
  have hst : Hid (FgI S (inOrd l) w w2 0 (.slice (some ⟨w.heap.size, 0, none⟩) 0 0) (.slice ao (inOrd l).length co)) := by
    obtain ⟨how0, hb1, hsz1⟩ := unhide H0
    have hr2 := owns_below how0 hbo
    have hd := deeds_in hro
    unfold Mine at hd
    rw [hsz1] at hd
    refine hide ⟨?_, by rw [hSS]; exact hd, fun q hq e => ?_, fun q hq => ?_, bthen hb1 hbo⟩
    · simpa [fgt, cellsI2] using hr2
    · rw [hSS] at hq
      have h1 := Option.some.inj e
      unfold Old at hq
      have h2 := hq.1
      have h3 : w.heap.size = q := h1
      omega
    · rw [hSS] at hq; exact hq.2
  have HSS := hide hSS
  clear hb1 hbo hro H0 hSS
  have HD := hide hol
  have hdl : (inOrd l).length ≤ 1048576 := by omega
  have hcn0 := fgt_cnt l b0
  generalize hD : inOrd l = d at *
  have HDD := hide hD
  clear hD
  go_wp2
  go_loopw [3, 10] (fun u i wk => ∃ k : Nat, k ≤ d.length ∧ i = .int .i64 k ∧ Hid (FgI S d w wk k u (.slice ao d.length co))) (fun _ i _ => d.length - (intOf i).toNat)
  case atStart => exact ⟨0, Nat.zero_le _, rfl, hst⟩
  case round =>
    obtain ⟨k, hk, rfl, hin0⟩ := hrel
    clear hst
    by_cases hlt : k < d.length
    · have hki : (k : Int) < (d.length : Int) := by omega
      obtain ⟨hrow, hda, hne, hSlt, hbl⟩ := unhide hin0
      have hpre2 := fgt_len (d.take k)
      rw [List.length_take] at hpre2
      obtain ⟨b, o, cs, rfl, hbk, hSb, hcs, hin⟩ := hda.at k hlt
      have hrw : RowT Try.prog 130 cs.length := by rw [deedR_len hcs]; exact rowIDeed
      have HS := hide (take_snoc hlt)
      generalize d[k] = X at *
      have HL1 := hide (deedR_len hcs)
      have on1 := deedR_one hcs
      have hA1 := Held.new wr cs 130
      have hbA := bnew wr (.cells cs.toArray 130)
      have p15 : (wr.alloc (.cells cs.toArray 130)).cell? ⟨wr.heap.size, 15, none⟩ = some (.int .i64 X.forgot) := hA1.2 15 _ (deedR_c15 hcs)
      have hrow1 := owns_below hrow hbA
      have hda1 := hda.keep deedR_keeps hbA
      have hbl1 := bthen hbl hbA
      have hS1 : ∀ q, S q → q < (wr.alloc (.cells cs.toArray 130)).heap.size := fun q hq => Nat.lt_of_lt_of_le (hSlt q hq) hbA.size
      have HE := hide (And.intro hrow1 (And.intro hda1 (And.intro hne (And.intro hS1 hbl1))))
      clear hrow hda hne hSlt hbl hrow1 hda1 hbl1 hS1 hcs hA1 hin0 hbA
      go_upto_region 5 with (first | (refine wpl_load rfl 130 _ rfl _ _ rfl cs hin hrw ?_) | (refine wpl_store_new rfl _ _ _ rfl _ cs rfl rfl ?_ on1 hrw ?_; (rw [unhide HL1]; rfl)))
      generalize hWa : World.alloc wr _ = wa at *
      clear hWa hin on1
      obtain ⟨hrow, hda, hne, hSlt, hbl⟩ := unhide HE
      by_cases e : 0 < X.forgot
      · have HF := hide (fgt_yes (l := d.take k) e)
        have hb2 := bnew wa (.cells #[.int .i64 X.forgot] 3)
        have hrow2 := owns_below hrow hb2
        have hs2 : w.heap.size ≤ (wa.alloc (.cells #[.int .i64 X.forgot] 3)).heap.size := by have := hb2.size; have := hbl.size; omega
        clear hda hne hSlt hbl hrow
        go_wp2_with (first | (at_builtin; refine wpl_append2 rfl (.tmp 17) (.tmp 20) 69 rfl w.heap.size 3 _ 1 8 Try.underlying69 infoI2 rfl (by decide) _ _ _ rfl hrow2 ⟨_, 0, none⟩ 1 1 [.int .i64 X.forgot] rfl rfl (lit_cells4 wa [.int .i64 X.forgot] 3) (by intro v hv; simp at hv; subst hv; rfl) (by unfold maxLen; omega) (by omega) hs2 ?_))
        intro v' w' how hg hv
        obtain ⟨hrow, hda, hne, hSlt, hbl⟩ := unhide HE
        have hne2 : ∀ q, S q → ¬ (v'.ownBlock = some q) := fun q hq e2 => by
          rcases hv with h | h
          · rw [h] at e2; exact hne q hq e2
          · rw [h] at e2
            have h1 := hSlt q hq
            have h2 := hb2.size
            simp at e2
            omega
        have hda2 := (hda.keep deedR_keeps hb2).turn deedR_keeps (grown_turn hg) hne
        have bl1 := grown_below (bthen hbl hb2) hg (fun q hq => (hrow2.lt q hq).1) hs2
        have hgs := hg.size
        have hb2s := hb2.size
        rw [← cellsI2_snoc, ← unhide HF, ← unhide HS] at how
        have hl1 : (fgt (d.take k)).length + 1 = (fgt (d.take (k + 1))).length := by rw [unhide HS, unhide HF]; simp
        rw [hl1] at how
        have HST := hide (show FgI S d w w' (k + 1) v' (.slice (some ⟨b, o, none⟩) d.length co) from ⟨how, hda2, hne2, fun q hq => by have := hSlt q hq; omega, bl1⟩)
        clear how hg hv hda2 hne2 bl1 hda hne hSlt hbl hrow hrow2 HE hb2 p15 hl1 e
        go_wp2
        go_roundw
        case rel => exact ⟨k + 1, by omega, by go_num, HST⟩
        case measure => simp [intOf]; omega
      · have HF := hide (fgt_no (l := d.take k) e)
        have HST := hide (show FgI S d w wa (k + 1) _ (.slice (some ⟨b, o, none⟩) d.length co) from ⟨by rw [unhide HS, unhide HF]; exact hrow, hda, hne, hSlt, hbl⟩)
        clear hrow hda hne hSlt hbl HE
        go_wp2
        go_roundw
        case rel => exact ⟨k + 1, by omega, by go_num, HST⟩
        case measure => simp [intOf]; omega
    · have hki : ¬ (k : Int) < (d.length : Int) := by omega
      obtain rfl : k = d.length := by omega
      have h1 := (unhide hin0).1
      have h2 := (unhide hin0).2.2.2.2
      rw [List.take_length] at h1
      have HF := hide (And.intro (ints_done h1 (by omega)) h2)
      clear h1 h2 hin0
      go_wp2
      go_ret
      exact ⟨_, rfl, by rw [unhide HDD]; exact (unhide HF).1, (unhide HF).2⟩
end Go.Proofs.Ytopngelgpfjdeaa
namespace Go.Proofs.Ytopngelgpfjdeaa
open Go.ChangeShapes Go.WideShapes Go.ChangeAt Go.RowKit Go.Sort
set_option linter.unusedVariables false
set_option maxRecDepth 100000

def verB (x : DeedD) : Bool := decide (x.op = 2) && !x.void || dropB x
def verOf (x : DeedD) : VerdictD := ⟨x.trace, x.stamp, x.keep⟩
def vds (l : List DeedD) : List VerdictD := (l.filter verB).map verOf
theorem vds_snoc (l : List DeedD) (x : DeedD) : vds (l ++ [x]) = vds l ++ if verB x then [verOf x] else [] := by
  unfold vds
  rw [List.filter_append, List.map_append]
  congr 1
  by_cases e : verB x = true
  · simp [e]
  · simp [e]
theorem vds_yes {l : List DeedD} {x : DeedD} (h : verB x = true) : vds (l ++ [x]) = vds l ++ [verOf x] := by rw [vds_snoc, if_pos h]
theorem vds_no {l : List DeedD} {x : DeedD} (h : verB x = false) : vds (l ++ [x]) = vds l := by rw [vds_snoc, if_neg (by simp [h]), List.append_nil]
theorem vds_len (l : List DeedD) : (vds l).length ≤ l.length := by
  unfold vds
  rw [List.length_map]
  exact List.length_filter_le _ _
theorem vds_cnt0 (l : List DeedD) (h : bulkL deedBulk l ≤ 1048576) : (vds (inOrd l)).length ≤ 1048576 := by
  have := vds_len (inOrd l)
  have := inOrd_len l
  have := bulkL_len deedBulk l
  omega
theorem vds_cnt (l : List DeedD) (h : bulkL deedBulk l ≤ 1048576) : 3 * (vds (inOrd l)).length ≤ 16777216 := by
  have := vds_cnt0 l h
  omega
def cellsV (l : List VerdictD) : List Value := l.flatMap (fun v => [.int .i64 v.trace, .int .i64 v.stamp, .bool v.keep])
theorem cellsV_snoc (l : List VerdictD) (x : DeedD) : cellsV (l ++ [verOf x]) = cellsV l ++ [.int .i64 x.trace, .int .i64 x.stamp, .bool x.keep] := by simp [cellsV, verOf]
theorem verds_done {t : TypeId} {base : Nat} {w : World} {v : Value} {l : List VerdictD} (h : w.ownsRow base t 3 v l.length (cellsV l)) (hl : l.length ≤ 9223372036854775807) : LOw 3 verdictO w (Within base w.heap.size) v l :=
  own_flat (f := fun v => [.int .i64 v.trace, .int .i64 v.stamp, .bool v.keep]) h (fun _ => rfl) (fun x _ => rfl) hl
theorem inOrd_took {l : List DeedD} {x : DeedD} (h : x ∈ inOrd l) : tookB x = true := by
  unfold inOrd at h
  obtain ⟨i, h1, h2⟩ := List.mem_filterMap.1 h
  have h3 := (ordL_ord l).perm.mem_iff.1 h1
  unfold placesK at h3
  have h4 := (List.mem_filter.1 h3).2
  unfold tookA at h4
  rw [h2] at h4
  exact h4
theorem verB_is {x : DeedD} (h : tookB x = true) : verB x = (judB x || dropB x) := by unfold verB judB; rw [h]; simp
def VdS (l : List DeedD) (w wk : World) (k : Nat) (u o : Value) : Prop := wk.ownsRow w.heap.size 139 3 u (vds (inOrdK l k)).length (cellsV (vds (inOrdK l k))) ∧ wk.ownsRow w.heap.size 3 1 o (ordL l).length (cellsI2 (zOf (ordL l))) ∧ o.ownBlock ≠ u.ownBlock ∧ Below w.heap.size w wk
set_option maxHeartbeats 4000000 in
theorem specVerdicts (l : List DeedD) (S0 : Nat → Prop) (v0 : Value) (w : World) (h0 : LAt 20 deedR w S0 v0 l) (b0 : bulkL deedBulk l ≤ 1048576) :
    Calls Try.prog 34 #[v0] w fun e w' => ∃ v', e = .returned v' ∧ LOw 3 verdictO w' (Within w.heap.size w'.heap.size) v' (vds (inOrd l)) ∧ Below w.heap.size w w' := by
  obtain ⟨a, cap0, rfl⟩ := h0.form
  have hlen := bulkL_len deedBulk l
  have hol : (ordL l).length ≤ l.length := (ordL_ord l).len
  have HA := hide h0
  clear h0
  have hb1 := bnew w (.cells #[] 139)
  have how0 := World.ownsRow_made (base := w.heap.size) (e := 139) (size := 3) w #[] 0 (Nat.le_refl _) (by unfold maxLen; omega) rfl
  have hsz1 : (w.alloc (.cells #[] 139)).heap.size = w.heap.size + 1 := by simp
  have H0 := hide (And.intro how0 (And.intro hb1 hsz1))
  clear how0 hsz1
  go_enter Try.func34, Try.ntmps34
  go_wp2_with fail
  refine (specOrder l S0 _ _ ((unhide HA).keep deedR_keeps hb1) b0).mono ?_
  rintro e w2 ⟨vo, rfl, hro, hbo⟩
  have hf : ∃ ao co, vo = .slice ao (ordL l).length co := by
    rcases hro.2 with ⟨h1, h2⟩ | ⟨g, c, cur, h1, _⟩
    · exact ⟨none, 0, by rw [h2]; exact h1⟩
    · exact ⟨_, c, h1⟩
  obtain ⟨ao, co, rfl⟩ := hf
  have hst : Hid (VdS l w w2 0 (.slice (some ⟨w.heap.size, 0, none⟩) 0 0) (.slice ao (ordL l).length co)) := by
    obtain ⟨how0, hb1, hsz1⟩ := unhide H0
    have hne : (Value.slice ao (ordL l).length co).ownBlock ≠ (Value.slice (some ⟨w.heap.size, 0, none⟩) 0 0).ownBlock := fun e => by
      have h1 := (hro.lt w.heap.size (by rw [e]; rfl)).1
      omega
    have hr2 := owns_below how0 hbo
    refine hide ⟨?_, owns_base hro (by omega), hne, bthen hb1 hbo⟩
    simpa [inOrdK, vds, cellsV] using hr2
  clear hb1 hbo hro H0
  go_wp2
  go_loopw [3, 5] (fun u i wk => ∃ k : Nat, k ≤ (ordL l).length ∧ i = .int .i64 k ∧ Hid (VdS l w wk k u (.slice ao (ordL l).length co))) (fun _ i _ => (ordL l).length - (intOf i).toNat)
  case atStart => exact ⟨0, Nat.zero_le _, rfl, hst⟩
  case round =>
    obtain ⟨k, hk, rfl, hin0⟩ := hrel
    clear hst
    by_cases hlt : k < (ordL l).length
    · have hki : (k : Int) < ((ordL l).length : Int) := by omega
      obtain ⟨hrow, hro, hne, hbl⟩ := unhide hin0
      have hpre := inOrdK_len l k
      have hpre2 := vds_len (inOrdK l k)
      obtain ⟨g, rfl⟩ : ∃ g, ao = some ⟨g, 0, none⟩ := by
        rcases hro.2 with ⟨h1, h2⟩ | ⟨g, c, cur, h1, _⟩
        · omega
        · injection h1 with e1 e2 e3; exact ⟨g, e1⟩
      obtain ⟨z, X, b, o, cs, hz, hzl, hX, hstep, rfl, hin, hcs⟩ := ord_at (unhide HA) hbl hlt
      have cz := cell_z hlt (zcell hro k hlt) hz
      have hzi : (z : Int) < (l.length : Int) := by omega
      have HS := hide hstep
      have hrw : RowT Try.prog 130 cs.length := by rw [deedR_len hcs]; exact rowIDeed
      have HL1 := hide (deedR_len hcs)
      have on1 := deedR_one hcs
      have hA1 := Held.new wr cs 130
      have hbA := bnew wr (.cells cs.toArray 130)
      have HCS := hide hcs
      have HE0 := hide (And.intro (owns_below hrow hbA) (And.intro (owns_below hro hbA) (And.intro hne (bthen hbl hbA))))
      clear hstep hX hz hcs hrow hro hne hbl hin0 hbA
      go_upto_region 7 with (first | (refine wpl_load rfl 130 _ rfl _ _ rfl cs hin hrw ?_) | (refine wpl_store_new rfl _ _ _ rfl _ cs rfl rfl ?_ on1 hrw ?_; (rw [unhide HL1]; rfl)))
      generalize hWa : World.alloc wr _ = wa at *
      clear hWa hin on1
      have p0 := hA1.2 0 _ (deedR_c0 (unhide HCS))
      have p8 := hA1.2 8 _ (deedR_c8 (unhide HCS))
      have p9 := hA1.2 9 _ (deedR_c9 (unhide HCS))
      have p11 := hA1.2 11 _ (deedR_c11 (unhide HCS))
      have p12 := hA1.2 12 _ (deedR_c12 (unhide HCS))
      obtain ⟨hrow, hro, hne, hbl⟩ := unhide HE0
      clear hA1 HCS hrw
      by_cases e2 : X.op = 2
      · have q2 : (X.op == 2) = true := by simpa using e2
        have q3 : (X.op == 3) = false := by simp [e2]
        cases hvd : X.void
        · have hvb : verB X = true := by simp [verB, e2, hvd]
          rw [hvd] at p12
          clear e2 hvd
          have HF := hide (vds_yes (l := inOrdK l k) (x := X) hvb)
          clear hvb
          have hb2 := bnew wa (.cells #[.int .i64 X.trace, .int .i64 X.stamp, .bool X.keep] 139)
          have hrow2 := owns_below hrow hb2
          have hs2 : w.heap.size ≤ (wa.alloc (.cells #[.int .i64 X.trace, .int .i64 X.stamp, .bool X.keep] 139)).heap.size := by have := hb2.size; have := hbl.size; omega
          have HE := hide (And.intro hro (And.intro hne hbl))
          clear hro hne hbl hrow HE0
          go_wp2_with (first | (at_builtin; refine wpl_append2 rfl (.tmp 36) (.tmp 44) 49 rfl w.heap.size 139 _ 3 24 Try.underlying49 mInfoVerdict rfl (by decide) _ _ _ rfl hrow2 ⟨_, 0, none⟩ 1 1 [.int .i64 X.trace, .int .i64 X.stamp, .bool X.keep] rfl rfl (lit_cells4 wa [.int .i64 X.trace, .int .i64 X.stamp, .bool X.keep] 139) (by intro v hv; simp at hv; rcases hv with rfl | rfl | rfl <;> rfl) (by unfold maxLen; omega) (by omega) hs2 ?_))
          intro v' w' how hg hv
          obtain ⟨hro, hne, hbl⟩ := unhide HE
          have hro2 := owns_apart (owns_below hro hb2) hg hne
          have hne2 := ne_grown (u' := v') (w := wa) hne (fun q hq => (hro.lt q hq).2) (hv.imp_right (fun h => ⟨_, h, by first | (simp; omega) | omega | simp⟩))
          have bl1 := grown_below (bthen hbl hb2) hg (fun q hq => (hrow2.lt q hq).1) hs2
          rw [← cellsV_snoc, ← unhide HF, ← unhide HS] at how
          have hl1 : (vds (inOrdK l k)).length + 1 = (vds (inOrdK l (k + 1))).length := by rw [unhide HS, unhide HF]; simp
          rw [hl1] at how
          have HST := hide (show VdS l w w' (k + 1) v' (.slice (some ⟨g, 0, none⟩) (ordL l).length co) from ⟨how, hro2, hne2, bl1⟩)
          clear how hg hv hro2 hne2 bl1 hro hne hbl hrow2 HE hb2 cz hl1
          go_wp2
          go_roundw
          case rel => exact ⟨k + 1, by omega, by go_num, HST⟩
          case measure => simp [intOf]; omega
        · have hvb : verB X = false := by simp [verB, e2, hvd, dropB]
          rw [hvd] at p12
          clear e2 hvd
          have HF := hide (vds_no (l := inOrdK l k) (x := X) hvb)
          clear hvb
          have HST := hide (show VdS l w wa (k + 1) _ (.slice (some ⟨g, 0, none⟩) (ordL l).length co) from ⟨by rw [unhide HS, unhide HF]; exact hrow, hro, hne, hbl⟩)
          clear hrow hro hne hbl HE0
          go_wp2
          go_roundw
          case rel => exact ⟨k + 1, by omega, by go_num, HST⟩
          case measure => simp [intOf]; omega
      · have q2 : (X.op == 2) = false := by simpa using e2
        by_cases e3 : X.op = 3
        · have q3 : (X.op == 3) = true := by simpa using e3
          have hvb : verB X = true := by simp [verB, dropB, e3]
          clear e2 e3
          have HF := hide (vds_yes (l := inOrdK l k) (x := X) hvb)
          clear hvb
          have hb2 := bnew wa (.cells #[.int .i64 X.trace, .int .i64 X.stamp, .bool X.keep] 139)
          have hrow2 := owns_below hrow hb2
          have hs2 : w.heap.size ≤ (wa.alloc (.cells #[.int .i64 X.trace, .int .i64 X.stamp, .bool X.keep] 139)).heap.size := by have := hb2.size; have := hbl.size; omega
          have HE := hide (And.intro hro (And.intro hne hbl))
          clear hro hne hbl hrow HE0
          go_wp2_with (first | (at_builtin; refine wpl_append2 rfl (.tmp 36) (.tmp 44) 49 rfl w.heap.size 139 _ 3 24 Try.underlying49 mInfoVerdict rfl (by decide) _ _ _ rfl hrow2 ⟨_, 0, none⟩ 1 1 [.int .i64 X.trace, .int .i64 X.stamp, .bool X.keep] rfl rfl (lit_cells4 wa [.int .i64 X.trace, .int .i64 X.stamp, .bool X.keep] 139) (by intro v hv; simp at hv; rcases hv with rfl | rfl | rfl <;> rfl) (by unfold maxLen; omega) (by omega) hs2 ?_))
          intro v' w' how hg hv
          obtain ⟨hro, hne, hbl⟩ := unhide HE
          have hro2 := owns_apart (owns_below hro hb2) hg hne
          have hne2 := ne_grown (u' := v') (w := wa) hne (fun q hq => (hro.lt q hq).2) (hv.imp_right (fun h => ⟨_, h, by first | (simp; omega) | omega | simp⟩))
          have bl1 := grown_below (bthen hbl hb2) hg (fun q hq => (hrow2.lt q hq).1) hs2
          rw [← cellsV_snoc, ← unhide HF, ← unhide HS] at how
          have hl1 : (vds (inOrdK l k)).length + 1 = (vds (inOrdK l (k + 1))).length := by rw [unhide HS, unhide HF]; simp
          rw [hl1] at how
          have HST := hide (show VdS l w w' (k + 1) v' (.slice (some ⟨g, 0, none⟩) (ordL l).length co) from ⟨how, hro2, hne2, bl1⟩)
          clear how hg hv hro2 hne2 bl1 hro hne hbl hrow2 HE hb2 cz hl1
          go_wp2
          go_roundw
          case rel => exact ⟨k + 1, by omega, by go_num, HST⟩
          case measure => simp [intOf]; omega
        · have q3 : (X.op == 3) = false := by simpa using e3
          have hvb : verB X = false := by simp [verB, dropB, e2, e3]
          clear e2 e3
          have HF := hide (vds_no (l := inOrdK l k) (x := X) hvb)
          clear hvb
          have HST := hide (show VdS l w wa (k + 1) _ (.slice (some ⟨g, 0, none⟩) (ordL l).length co) from ⟨by rw [unhide HS, unhide HF]; exact hrow, hro, hne, hbl⟩)
          clear hrow hro hne hbl HE0
          go_wp2
          go_roundw
          case rel => exact ⟨k + 1, by omega, by go_num, HST⟩
          case measure => simp [intOf]; omega
    · have hki : ¬ (k : Int) < ((ordL l).length : Int) := by omega
      obtain rfl : k = (ordL l).length := by omega
      have h1 := (unhide hin0).1
      have h2 := (unhide hin0).2.2.2
      rw [inOrdK_all] at h1
      have hcn := vds_cnt0 l b0
      have HF := hide (And.intro (verds_done h1 (by omega)) h2)
      clear h1 h2 hin0
      go_wp2
      go_ret
      exact ⟨_, rfl, (unhide HF).1, (unhide HF).2⟩
def VdI (S : Nat → Prop) (d : List DeedD) (w wk : World) (k : Nat) (u v : Value) : Prop := wk.ownsRow w.heap.size 139 3 u (vds (d.take k)).length (cellsV (vds (d.take k))) ∧ LAt 20 deedR wk S v d ∧ (∀ q, S q → ¬ (u.ownBlock = some q)) ∧ (∀ q, S q → q < wk.heap.size) ∧ Below w.heap.size w wk
set_option maxHeartbeats 4000000 in
theorem implVerdicts (l : List DeedD) (S0 : Nat → Prop) (v0 : Value) (w : World) (h0 : LAt 20 deedR w S0 v0 l) (b0 : bulkL deedBulk l ≤ 1048576) :
    Calls Try.prog 35 #[v0] w fun e w' => ∃ v', e = .returned v' ∧ LOw 3 verdictO w' (Within w.heap.size w'.heap.size) v' (vds (inOrd l)) ∧ Below w.heap.size w w' := by
  obtain ⟨a, cap0, rfl⟩ := h0.form
  have hlen := bulkL_len deedBulk l
  have hol := inOrd_len l
  have HA := hide (deeds_old h0)
  clear h0
  have hb1 := bnew w (.cells #[] 139)
  have how0 := World.ownsRow_made (base := w.heap.size) (e := 139) (size := 3) w #[] 0 (Nat.le_refl _) (by unfold maxLen; omega) rfl
  have hsz1 : (w.alloc (.cells #[] 139)).heap.size = w.heap.size + 1 := by simp
  have H0 := hide (And.intro how0 (And.intro hb1 hsz1))
  go_enter Try.func35, Try.ntmps35
  go_wp2_with fail
  refine (implInOrder l (Old w) _ _ ((unhide HA).keep deedR_keeps hb1) (fun k hk => by unfold Old at hk; omega) b0).mono ?_
  clear how0 hsz1
  rintro e w2 ⟨vo, rfl, hro, hbo⟩
  obtain ⟨ao, co, rfl⟩ := hro.form
  obtain ⟨S, hSS⟩ : ∃ S : Nat → Prop, S = fun k => (Old w k ∨ w.heap.size + 1 ≤ k) ∧ k < w2.heap.size := ⟨_, rfl⟩
  have hst : Hid (VdI S (inOrd l) w w2 0 (.slice (some ⟨w.heap.size, 0, none⟩) 0 0) (.slice ao (inOrd l).length co)) := by
    obtain ⟨how0, hb1, hsz1⟩ := unhide H0
    have hr2 := owns_below how0 hbo
    have hd := deeds_in hro
    unfold Mine at hd
    rw [hsz1] at hd
    refine hide ⟨?_, by rw [hSS]; exact hd, fun q hq e => ?_, fun q hq => ?_, bthen hb1 hbo⟩
    · simpa [vds, cellsV] using hr2
    · rw [hSS] at hq
      have h1 := Option.some.inj e
      unfold Old at hq
      have h2 := hq.1
      have h3 : w.heap.size = q := h1
      omega
    · rw [hSS] at hq; exact hq.2
  have HSS := hide hSS
  clear hb1 hbo hro H0 hSS
  have HD := hide hol
  have hdl : (inOrd l).length ≤ 1048576 := by omega
  have hcn0 := vds_cnt0 l b0
  have HTK := hide (fun (x : DeedD) (hx : x ∈ inOrd l) => inOrd_took hx)
  have HXB := hide (fun (x : DeedD) (hx : x ∈ inOrd l) => (show deedBulk x ≤ 1048576 by have := bulkL_mem deedBulk (inOrd_mem hx); omega))
  generalize hD : inOrd l = d at *
  have HDD := hide hD
  clear hD
  go_wp2
  go_loopw [3, 10] (fun u i wk => ∃ k : Nat, k ≤ d.length ∧ i = .int .i64 k ∧ Hid (VdI S d w wk k u (.slice ao d.length co))) (fun _ i _ => d.length - (intOf i).toNat)
  case atStart => exact ⟨0, Nat.zero_le _, rfl, hst⟩
  case round =>
    obtain ⟨k, hk, rfl, hin0⟩ := hrel
    clear hst
    by_cases hlt : k < d.length
    · have hki : (k : Int) < (d.length : Int) := by omega
      obtain ⟨hrow, hda, hne, hSlt, hbl⟩ := unhide hin0
      have hpre2 := vds_len (d.take k)
      rw [List.length_take] at hpre2
      obtain ⟨b, o, cs, rfl, hbk, hSb, hcs, hin⟩ := hda.at k hlt
      have hrw : RowT Try.prog 130 cs.length := by rw [deedR_len hcs]; exact rowIDeed
      have HS := hide (take_snoc hlt)
      have htk : tookB d[k] = true := unhide HTK _ (List.getElem_mem hlt)
      have hXb : deedBulk d[k] ≤ 1048576 := unhide HXB _ (List.getElem_mem hlt)
      generalize d[k] = X at *
      have HL1 := hide (deedR_len hcs)
      have on1 := deedR_one hcs
      have hA1 := Held.new wr cs 130
      have hbA := bnew wr (.cells cs.toArray 130)
      have HCS := hide (deedR_keeps _ _ _ None1 _ _ (Below.turn hbA) none_off hcs)
      have hS1 : ∀ q, S q → q < (wr.alloc (.cells cs.toArray 130)).heap.size := fun q hq => Nat.lt_of_lt_of_le (hSlt q hq) hbA.size
      have HE0 := hide (And.intro (owns_below hrow hbA) (And.intro (hda.keep deedR_keeps hbA) (And.intro hne (And.intro hS1 (bthen hbl hbA)))))
      clear hrow hda hne hSlt hbl hS1 hcs hin0 hbA
      go_upto_region 5 with (first | (refine wpl_load rfl 130 _ rfl _ _ rfl cs hin hrw ?_) | (refine wpl_store_new rfl _ _ _ rfl _ cs rfl rfl ?_ on1 hrw ?_; (rw [unhide HL1]; rfl)))
      generalize hWa : World.alloc wr _ = wa at *
      clear hWa hin on1
      go_wp2_with (first | (refine wpl_load rfl 130 _ rfl _ 0 rfl cs hA1.inB hrw ?_))
      refine (implJudged X _ cs _ (unhide HCS) hXb).mono ?_
      rintro e w3 ⟨rfl, hb3⟩
      have hA3 := hA1.keep hb3
      have p0 := hA3.2 0 _ (deedR_c0 (unhide HCS))
      have p8 := hA3.2 8 _ (deedR_c8 (unhide HCS))
      have p9 := hA3.2 9 _ (deedR_c9 (unhide HCS))
      have p11 := hA3.2 11 _ (deedR_c11 (unhide HCS))
      obtain ⟨hrow0, hda0, hne, hSlt0, hbl0⟩ := unhide HE0
      have hrow := owns_below hrow0 hb3
      have hda := hda0.keep deedR_keeps hb3
      have hSlt : ∀ q, S q → q < w3.heap.size := fun q hq => Nat.lt_of_lt_of_le (hSlt0 q hq) hb3.size
      have hbl := bthen hbl0 hb3
      have HE := hide (And.intro hrow (And.intro hda (And.intro hne (And.intro hSlt hbl))))
      clear hrow0 hda0 hSlt0 hbl0
      clear hA1 hA3 HCS hrw HE0 hb3
      have hvi := verB_is htk
      clear htk
      by_cases ej : judB X = true
      · have hvb : verB X = true := by rw [hvi, ej]; rfl
        rw [ej]
        clear ej hvi
        have HF := hide (vds_yes (l := d.take k) (x := X) hvb)
        clear hvb
        have hb4 := bnew w3 (.cells #[.int .i64 X.trace, .int .i64 X.stamp, .bool X.keep] 139)
        have hrow2 := owns_below hrow hb4
        have hs2 : w.heap.size ≤ (w3.alloc (.cells #[.int .i64 X.trace, .int .i64 X.stamp, .bool X.keep] 139)).heap.size := by have := hb4.size; have := hbl.size; omega
        clear hda hne hSlt hbl hrow
        go_wp2_with (first | (at_builtin; refine wpl_append2 rfl (.tmp 21) (.tmp 29) 49 rfl w.heap.size 139 _ 3 24 Try.underlying49 mInfoVerdict rfl (by decide) _ _ _ rfl hrow2 ⟨_, 0, none⟩ 1 1 [.int .i64 X.trace, .int .i64 X.stamp, .bool X.keep] rfl rfl (lit_cells4 w3 [.int .i64 X.trace, .int .i64 X.stamp, .bool X.keep] 139) (by intro v hv; simp at hv; rcases hv with rfl | rfl | rfl <;> rfl) (by unfold maxLen; omega) (by omega) hs2 ?_))
        intro v' w' how hg hv
        obtain ⟨hrow, hda, hne, hSlt, hbl⟩ := unhide HE
        have hne2 : ∀ q, S q → ¬ (v'.ownBlock = some q) := fun q hq e2 => by
          rcases hv with h | h
          · rw [h] at e2; exact hne q hq e2
          · rw [h] at e2
            have h1 := hSlt q hq
            have h2 := hb4.size
            simp at e2
            omega
        have hda2 := (hda.keep deedR_keeps hb4).turn deedR_keeps (grown_turn hg) hne
        have bl1 := grown_below (bthen hbl hb4) hg (fun q hq => (hrow2.lt q hq).1) hs2
        have hgs := hg.size
        have hb4s := hb4.size
        rw [← cellsV_snoc, ← unhide HF, ← unhide HS] at how
        have hl1 : (vds (d.take k)).length + 1 = (vds (d.take (k + 1))).length := by rw [unhide HS, unhide HF]; simp
        rw [hl1] at how
        have HST := hide (show VdI S d w w' (k + 1) v' (.slice (some ⟨b, o, none⟩) d.length co) from ⟨how, hda2, hne2, fun q hq => by have := hSlt q hq; omega, bl1⟩)
        clear how hg hv hda2 hne2 bl1 hda hne hSlt hbl hrow hrow2 HE hb4 hl1
        go_wp2
        go_roundw
        case rel => exact ⟨k + 1, by omega, by go_num, HST⟩
        case measure => simp [intOf]; omega
      · have ej : judB X = false := by simpa using ej
        rw [ej]
        rw [ej, Bool.false_or] at hvi
        by_cases e3 : X.op = 3
        · have q3 : (X.op == 3) = true := by simpa using e3
          have hvb : verB X = true := by rw [hvi]; simp [dropB, e3]
          clear e3 hvi ej
          have HF := hide (vds_yes (l := d.take k) (x := X) hvb)
          clear hvb
          have hb4 := bnew w3 (.cells #[.int .i64 X.trace, .int .i64 X.stamp, .bool X.keep] 139)
          have hrow2 := owns_below hrow hb4
          have hs2 : w.heap.size ≤ (w3.alloc (.cells #[.int .i64 X.trace, .int .i64 X.stamp, .bool X.keep] 139)).heap.size := by have := hb4.size; have := hbl.size; omega
          clear hda hne hSlt hbl hrow
          go_wp2_with (first | (at_builtin; refine wpl_append2 rfl (.tmp 21) (.tmp 29) 49 rfl w.heap.size 139 _ 3 24 Try.underlying49 mInfoVerdict rfl (by decide) _ _ _ rfl hrow2 ⟨_, 0, none⟩ 1 1 [.int .i64 X.trace, .int .i64 X.stamp, .bool X.keep] rfl rfl (lit_cells4 w3 [.int .i64 X.trace, .int .i64 X.stamp, .bool X.keep] 139) (by intro v hv; simp at hv; rcases hv with rfl | rfl | rfl <;> rfl) (by unfold maxLen; omega) (by omega) hs2 ?_))
          intro v' w' how hg hv
          obtain ⟨hrow, hda, hne, hSlt, hbl⟩ := unhide HE
          have hne2 : ∀ q, S q → ¬ (v'.ownBlock = some q) := fun q hq e2 => by
            rcases hv with h | h
            · rw [h] at e2; exact hne q hq e2
            · rw [h] at e2
              have h1 := hSlt q hq
              have h2 := hb4.size
              simp at e2
              omega
          have hda2 := (hda.keep deedR_keeps hb4).turn deedR_keeps (grown_turn hg) hne
          have bl1 := grown_below (bthen hbl hb4) hg (fun q hq => (hrow2.lt q hq).1) hs2
          have hgs := hg.size
          have hb4s := hb4.size
          rw [← cellsV_snoc, ← unhide HF, ← unhide HS] at how
          have hl1 : (vds (d.take k)).length + 1 = (vds (d.take (k + 1))).length := by rw [unhide HS, unhide HF]; simp
          rw [hl1] at how
          have HST := hide (show VdI S d w w' (k + 1) v' (.slice (some ⟨b, o, none⟩) d.length co) from ⟨how, hda2, hne2, fun q hq => by have := hSlt q hq; omega, bl1⟩)
          clear how hg hv hda2 hne2 bl1 hda hne hSlt hbl hrow hrow2 HE hb4 hl1
          go_wp2
          go_roundw
          case rel => exact ⟨k + 1, by omega, by go_num, HST⟩
          case measure => simp [intOf]; omega
        · have q3 : (X.op == 3) = false := by simpa using e3
          have hvb : verB X = false := by rw [hvi]; simp [dropB, e3]
          clear e3 hvi ej
          have HF := hide (vds_no (l := d.take k) (x := X) hvb)
          clear hvb
          have HST := hide (show VdI S d w w3 (k + 1) _ (.slice (some ⟨b, o, none⟩) d.length co) from ⟨by rw [unhide HS, unhide HF]; exact hrow, hda, hne, hSlt, hbl⟩)
          clear hrow hda hne hSlt hbl HE
          go_wp2
          go_roundw
          case rel => exact ⟨k + 1, by omega, by go_num, HST⟩
          case measure => simp [intOf]; omega
    · have hki : ¬ (k : Int) < (d.length : Int) := by omega
      obtain rfl : k = d.length := by omega
      have h1 := (unhide hin0).1
      have h2 := (unhide hin0).2.2.2.2
      rw [List.take_length] at h1
      have HF := hide (And.intro (verds_done h1 (by omega)) h2)
      clear h1 h2 hin0
      go_wp2
      go_ret
      exact ⟨_, rfl, by rw [unhide HDD]; exact (unhide HF).1, (unhide HF).2⟩
end Go.Proofs.Ytopngelgpfjdeaa
namespace Go.Proofs.Ytopngelgpfjdeaa
open Go.ChangeShapes Go.WideShapes Go.ChangeAt Go.RowKit Go.Sort
set_option linter.unusedVariables false
set_option maxRecDepth 100000

def takB (x : DeedD) : Bool := offB 1 x || offB 2 x
def accB (st : Int) (x : DeedD) : Bool := decide (x.op = 1) && decide (x.stamp = st) && (decide (x.code = 1) || decide (x.code = 2))
def acc (l : List DeedD) (st : Int) : List SpanD := (l.filter (accB st)).map DeedD.s
theorem acc_snoc (l : List DeedD) (st : Int) (x : DeedD) : acc (l ++ [x]) st = acc l st ++ if accB st x then [x.s] else [] := by
  unfold acc
  rw [List.filter_append, List.map_append]
  congr 1
  by_cases e : accB st x = true
  · simp [e]
  · simp [e]
theorem acc_yes {l : List DeedD} {st : Int} {x : DeedD} (h : accB st x = true) : acc (l ++ [x]) st = acc l st ++ [x.s] := by rw [acc_snoc, if_pos h]
theorem acc_no {l : List DeedD} {st : Int} {x : DeedD} (h : accB st x = false) : acc (l ++ [x]) st = acc l st := by rw [acc_snoc, if_neg (by simp [h]), List.append_nil]
theorem acc_len (l : List DeedD) (st : Int) : (acc l st).length ≤ l.length := by
  unfold acc
  rw [List.length_map]
  exact List.length_filter_le _ _
theorem acc_len0 (l : List DeedD) (st : Int) (h : bulkL deedBulk l ≤ 1048576) : (acc (inOrd l) st).length ≤ 1048576 := by
  have := acc_len (inOrd l) st
  have := inOrd_len l
  have := bulkL_len deedBulk l
  omega
theorem acc_bulk (l : List DeedD) (st : Int) : bulkL spanBulk (acc l st) ≤ bulkL deedBulk l := by
  unfold bulkL acc
  induction l with
  | nil => simp
  | cons x r ih =>
    by_cases e : accB st x = true
    · rw [List.filter_cons_of_pos e]
      simp only [List.map_cons, List.sum_cons, List.length_cons]
      have : spanBulk x.s = deedBulk x := rfl
      omega
    · rw [List.filter_cons_of_neg e]
      simp only [List.map_cons, List.sum_cons, List.length_cons]
      omega
theorem places_take (l : List DeedD) : ∀ k, k ≤ l.length → (placesK l k).filterMap (l[·]?) = (l.take k).filter tookB
  | 0, _ => rfl
  | k + 1, h => by
    have ih := places_take l k (by omega)
    have hk : k < l.length := by omega
    rw [List.take_succ_eq_append_getElem hk, List.filter_append, ← ih]
    have ht := tookA_at l hk
    cases e : tookB l[k]
    · rw [e] at ht
      rw [placesK_no ht]
      simp [e]
    · rw [e] at ht
      rw [placesK_yes ht, List.filterMap_append]
      simp [e, hk]
theorem inOrd_perm (l : List DeedD) : (inOrd l).Perm (l.filter tookB) := by
  have h := ((ordL_ord l).perm.filterMap (l[·]?))
  rw [places_take l l.length (Nat.le_refl _), List.take_length] at h
  exact h
theorem bulk_filter (l : List DeedD) (p : DeedD → Bool) : bulkL deedBulk (l.filter p) ≤ bulkL deedBulk l := by
  unfold bulkL
  induction l with
  | nil => simp
  | cons x r ih =>
    by_cases e : p x = true
    · rw [List.filter_cons_of_pos e]
      simp only [List.map_cons, List.sum_cons, List.length_cons]
      omega
    · rw [List.filter_cons_of_neg e]
      simp only [List.map_cons, List.sum_cons, List.length_cons]
      omega
theorem bulk_perm {l m : List DeedD} (h : l.Perm m) : bulkL deedBulk l = bulkL deedBulk m := by
  unfold bulkL
  induction h with
  | nil => rfl
  | cons x _ ih => simp only [List.map_cons, List.sum_cons, List.length_cons]; omega
  | swap x y l => simp only [List.map_cons, List.sum_cons, List.length_cons]; omega
  | trans _ _ h1 h2 => omega
theorem inOrd_bulk (l : List DeedD) : bulkL deedBulk (inOrd l) ≤ bulkL deedBulk l := by
  rw [bulk_perm (inOrd_perm l)]
  exact bulk_filter l tookB
theorem acc_cnt (l : List DeedD) (st : Int) (h : bulkL deedBulk l ≤ 1048576) : cntL spanCnt (acc (inOrd l) st) ≤ 16777216 := by
  have := spanS_cnt (acc (inOrd l) st)
  have := acc_bulk (inOrd l) st
  have := inOrd_bulk l
  omega
end Go.Proofs.Ytopngelgpfjdeaa
namespace Go.Proofs.Ytopngelgpfjdeaa
open Go.ChangeShapes Go.WideShapes Go.ChangeAt Go.RowKit Go.Sort
set_option linter.unusedVariables false
set_option maxRecDepth 100000

def AcS (l : List DeedD) (st : Int) (w wk : World) (k : Nat) (u o : Value) : Prop := GrowL 6 spanO 111 w.heap.size wk u (acc (inOrdK l k) st) ∧ wk.ownsRow w.heap.size 3 1 o (ordL l).length (cellsI2 (zOf (ordL l))) ∧ o.ownBlock ≠ u.ownBlock ∧ Below w.heap.size w wk
theorem grow_row {w : World} {base : Nat} {v : Value} {l : List SpanD} (h : GrowL 6 spanO 111 base w v l) : ∀ q, v.ownBlock = some q → base ≤ q ∧ q < w.heap.size := by
  obtain ⟨css, T, gx⟩ := h
  exact gx.row.lt
set_option maxHeartbeats 4000000 in
theorem specAccepted (l : List DeedD) (st : Int) (S0 : Nat → Prop) (v0 : Value) (w : World) (h0 : LAt 20 deedR w S0 v0 l) (b0 : bulkL deedBulk l ≤ 1048576) :
    Calls Try.prog 32 #[v0, .int .i64 st] w fun e w' => ∃ v', e = .returned v' ∧ LOw 6 spanO w' (Within w.heap.size w'.heap.size) v' (acc (inOrd l) st) ∧ Below w.heap.size w w' := by
  obtain ⟨a, cap0, rfl⟩ := h0.form
  have hlen := bulkL_len deedBulk l
  have hol : (ordL l).length ≤ l.length := (ordL_ord l).len
  have HA := hide h0
  clear h0
  have hb1 := bnew w (.cells #[] 111)
  have how0 := GrowL.start (α := SpanD) (N := 6) (C := spanO) (t := 111) (Nat.le_refl w.heap.size)
  have hsz1 : (w.alloc (.cells #[] 111)).heap.size = w.heap.size + 1 := by simp
  have H0 := hide (And.intro how0 (And.intro hb1 hsz1))
  clear how0 hsz1
  go_enter Try.func32, Try.ntmps32
  go_wp2_with fail
  refine (specOrder l S0 _ _ ((unhide HA).keep deedR_keeps hb1) b0).mono ?_
  rintro e w2 ⟨vo, rfl, hro, hbo⟩
  have hf : ∃ ao co, vo = .slice ao (ordL l).length co := by
    rcases hro.2 with ⟨h1, h2⟩ | ⟨g, c, cur, h1, _⟩
    · exact ⟨none, 0, by rw [h2]; exact h1⟩
    · exact ⟨_, c, h1⟩
  obtain ⟨ao, co, rfl⟩ := hf
  have hst : Hid (AcS l st w w2 0 (.slice (some ⟨w.heap.size, 0, none⟩) 0 0) (.slice ao (ordL l).length co)) := by
    obtain ⟨how0, hb1, hsz1⟩ := unhide H0
    have hne : (Value.slice ao (ordL l).length co).ownBlock ≠ (Value.slice (some ⟨w.heap.size, 0, none⟩) 0 0).ownBlock := fun e => by
      have h1 := (hro.lt w.heap.size (by rw [e]; rfl)).1
      omega
    have hr2 := how0.keep spanO_keeps hbo
    refine hide ⟨?_, owns_base hro (by omega), hne, bthen hb1 hbo⟩
    simpa [inOrdK, acc] using hr2
  clear hb1 hbo hro H0
  go_wp2
  go_loopw [5, 7] (fun u i wk => ∃ k : Nat, k ≤ (ordL l).length ∧ i = .int .i64 k ∧ Hid (AcS l st w wk k u (.slice ao (ordL l).length co))) (fun _ i _ => (ordL l).length - (intOf i).toNat)
  case atStart => exact ⟨0, Nat.zero_le _, rfl, hst⟩
  case round =>
    obtain ⟨k, hk, rfl, hin0⟩ := hrel
    clear hst
    by_cases hlt : k < (ordL l).length
    · have hki : (k : Int) < ((ordL l).length : Int) := by omega
      obtain ⟨hrow, hro, hne, hbl⟩ := unhide hin0
      have hpre := inOrdK_len l k
      have hpre2 := acc_len (inOrdK l k) st
      obtain ⟨g, rfl⟩ : ∃ g, ao = some ⟨g, 0, none⟩ := by
        rcases hro.2 with ⟨h1, h2⟩ | ⟨g, c, cur, h1, _⟩
        · omega
        · injection h1 with e1 e2 e3; exact ⟨g, e1⟩
      obtain ⟨z, X, b, o, cs, hz, hzl, hX, hstep, rfl, hin, hcs⟩ := ord_at (unhide HA) hbl hlt
      have cz := cell_z hlt (zcell hro k hlt) hz
      have hzi : (z : Int) < (l.length : Int) := by omega
      have HS := hide hstep
      have hrw : RowT Try.prog 130 cs.length := by rw [deedR_len hcs]; exact rowIDeed
      have HL1 := hide (deedR_len hcs)
      have on1 := deedR_one hcs
      have hA1 := Held.new wr cs 130
      have hbA := bnew wr (.cells cs.toArray 130)
      have HCS := hide (deedR_keeps _ _ _ None1 _ _ (Below.turn hbA) none_off hcs)
      have hXb : deedBulk X ≤ 1048576 := by have := bulkL_mem deedBulk (List.mem_of_getElem? hX); omega
      have HE0 := hide (And.intro (hrow.keep spanO_keeps hbA) (And.intro (owns_below hro hbA) (And.intro hne (bthen hbl hbA))))
      clear hstep hX hz hcs hrow hro hne hbl hin0 hbA
      go_upto_region 7 with (first | (refine wpl_load rfl 130 _ rfl _ _ rfl cs hin hrw ?_) | (refine wpl_store_new rfl _ _ _ rfl _ cs rfl rfl ?_ on1 hrw ?_; (rw [unhide HL1]; rfl)))
      generalize hWa : World.alloc wr _ = wa at *
      clear hWa hin on1
      have p0 := hA1.2 0 _ (deedR_c0 (unhide HCS))
      have p9 := hA1.2 9 _ (deedR_c9 (unhide HCS))
      have p10 := hA1.2 10 _ (deedR_c10 (unhide HCS))
      obtain ⟨c1, hc1, hd1⟩ := deedR_sub_s (unhide HCS)
      have hl1 := spanR_len hc1
      have hrwS : RowT Try.prog 111 c1.length := by rw [hl1]; exact rowISpan
      have hin1 := inB_sub hA1.inB hd1
      rw [Nat.zero_add] at hin1
      have hXs : spanBulk X.s ≤ 1048576 := hXb
      have HC := hide (And.intro hc1 hXs)
      obtain ⟨hrow, hro, hne, hbl⟩ := unhide HE0
      clear hA1 HCS hrw hc1 hXs hXb hd1 hl1
      by_cases e1 : X.op = 1
      case neg =>
        have q1 : (X.op == 1) = false := by simpa using e1
        have hvb : accB st X = false := by simp [accB, e1]
        clear e1
        have HF := hide (acc_no (l := inOrdK l k) (st := st) (x := X) hvb)
        clear hvb
        have HST := hide (show AcS l st w wa (k + 1) _ (.slice (some ⟨g, 0, none⟩) (ordL l).length co) from ⟨by rw [unhide HS, unhide HF]; exact hrow, hro, hne, hbl⟩)
        clear hrow hro hne hbl HE0 hin1 HC
        go_wp2
        go_roundw
        case rel => exact ⟨k + 1, by omega, by go_num, HST⟩
        case measure => simp [intOf]; omega
      have q1 : (X.op == 1) = true := by simpa using e1
      by_cases e2 : X.stamp = st
      case neg =>
        have q2 : (X.stamp == st) = false := by simpa using e2
        have hvb : accB st X = false := by simp [accB, e2]
        clear e1 e2
        have HF := hide (acc_no (l := inOrdK l k) (st := st) (x := X) hvb)
        clear hvb
        have HST := hide (show AcS l st w wa (k + 1) _ (.slice (some ⟨g, 0, none⟩) (ordL l).length co) from ⟨by rw [unhide HS, unhide HF]; exact hrow, hro, hne, hbl⟩)
        clear hrow hro hne hbl HE0 hin1 HC
        go_wp2
        go_roundw
        case rel => exact ⟨k + 1, by omega, by go_num, HST⟩
        case measure => simp [intOf]; omega
      have q2 : (X.stamp == st) = true := by simpa using e2
      by_cases e3 : X.code = 1
      · have q3 : (X.code == 1) = true := by simpa using e3
        have q4 : (X.code == 2) = false := by simp [e3]
        have hvb : accB st X = true := by simp [accB, e1, e2, e3]
        clear e1 e2 e3
        have HF := hide (acc_yes (l := inOrdK l k) (st := st) (x := X) hvb)
        clear hvb
        go_wp2_with (first | (refine wpl_load rfl 111 _ rfl _ 2 rfl c1 hin1 hrwS ?_))
        refine (specL3Copy X.s _ c1 wa (unhide HC).1 (unhide HC).2).mono ?_
        rintro e w2 ⟨cs2, rfl, yy, hb2⟩
        obtain ⟨css, T, gx⟩ := hrow
        have HY := hide yy
        obtain ⟨s2, rfl, y2⟩ := yy
        obtain ⟨a2, k2, rfl⟩ := y2.form
        have hb3 := bthen hb2 (bnew w2 (.cells #[.int .i64 X.s.1, .int .i64 X.s.2.1, .int .i64 X.s.2.2.1, .int .i64 X.s.2.2.2.1, .bool X.s.2.2.2.2.1, .slice a2 X.s.2.2.2.2.2.length k2] 111))
        have hrowk := (gx.keep spanO_keeps hb3).row
        have hns := hb2.size
        have hbs := hbl.size
        have hs3 : w.heap.size ≤ (w2.alloc (.cells #[.int .i64 X.s.1, .int .i64 X.s.2.1, .int .i64 X.s.2.2.1, .int .i64 X.s.2.2.2.1, .bool X.s.2.2.2.2.1, .slice a2 X.s.2.2.2.2.2.length k2] 111)).heap.size := by have := hb3.size; omega
        have HB3 := hide (And.intro hb2 hb3)
        have HE := hide (And.intro hro (And.intro hne hbl))
        clear hro hne hbl HE0
        clear y2 p0 hin1 hb2 hb3 HC hrwS
        go_wp2_with (first | (at_builtin; refine wpl_append2 rfl (.tmp 44) (.tmp 48) 62 rfl w.heap.size 111 _ 6 64 Try.underlying62 infoSpan2 rfl (by decide) _ _ _ rfl hrowk ⟨_, 0, none⟩ 1 1 [.int .i64 X.s.1, .int .i64 X.s.2.1, .int .i64 X.s.2.2.1, .int .i64 X.s.2.2.2.1, .bool X.s.2.2.2.2.1, .slice a2 X.s.2.2.2.2.2.length k2] rfl rfl (lit_cells2 w2 [.int .i64 X.s.1, .int .i64 X.s.2.1, .int .i64 X.s.2.2.1, .int .i64 X.s.2.2.2.1, .bool X.s.2.2.2.2.1, .slice a2 X.s.2.2.2.2.2.length k2] 111) (by intro v hv; simp only [List.mem_cons, List.not_mem_nil, or_false] at hv; rcases hv with rfl | rfl | rfl | rfl | rfl | rfl <;> rfl) (by unfold maxLen; omega) (by omega) hs3 ?_))
        intro v' w' how hg hv
        obtain ⟨hb2, hb3⟩ := unhide HB3
        have hv2 := hv.imp_right (fun h => (show v'.ownBlock = some (w2.alloc (.cells #[.int .i64 X.s.1, .int .i64 X.s.2.1, .int .i64 X.s.2.2.1, .int .i64 X.s.2.2.2.1, .bool X.s.2.2.2.2.1, .slice a2 X.s.2.2.2.2.2.length k2] 111)).heap.size by rw [h]; simp))
        have st1 := GrowX.step spanO_keeps gx hbs hb3 (spanO_keeps _ _ _ None1 _ _ (Below.turn (bnew w2 (.cells #[.int .i64 X.s.1, .int .i64 X.s.2.1, .int .i64 X.s.2.2.1, .int .i64 X.s.2.2.2.1, .bool X.s.2.2.2.2.1, .slice a2 X.s.2.2.2.2.2.length k2] 111))) none_off (unhide HY)) (fun k hk => ⟨hk.1, by have := hk.2; simp; omega⟩) rfl how hg hv2
        obtain ⟨hro, hne, hbl⟩ := unhide HE
        have hro2 := owns_apart (owns_below hro hb3) hg hne
        have hne2 := ne_grown (u' := v') (w := wa) hne (fun q hq => (hro.lt q hq).2) (hv2.imp_right (fun h => ⟨_, h, hb3.size⟩))
        have bl1 := grown_below (bthen hbl hb3) hg (fun q hq => (gx.row.lt q hq).1) hs3
        rw [← unhide HF, ← unhide HS] at st1
        have HST := hide (show AcS l st w w' (k + 1) v' (.slice (some ⟨g, 0, none⟩) (ordL l).length co) from ⟨st1, hro2, hne2, bl1⟩)
        clear how hg hv hv2 hro2 hne2 bl1 hro hne hbl hrowk HE hb2 hb3 HB3 cz st1 gx HY
        go_wp2
        go_roundw
        case rel => exact ⟨k + 1, by omega, by go_num, HST⟩
        case measure => simp [intOf]; omega
      · have q3 : (X.code == 1) = false := by simpa using e3
        by_cases e4 : X.code = 2
        · have q4 : (X.code == 2) = true := by simpa using e4
          have hvb : accB st X = true := by simp [accB, e1, e2, e4]
          clear e1 e2 e3 e4
          have HF := hide (acc_yes (l := inOrdK l k) (st := st) (x := X) hvb)
          clear hvb
          go_wp2_with (first | (refine wpl_load rfl 111 _ rfl _ 2 rfl c1 hin1 hrwS ?_))
          refine (specL3Copy X.s _ c1 wa (unhide HC).1 (unhide HC).2).mono ?_
          rintro e w2 ⟨cs2, rfl, yy, hb2⟩
          obtain ⟨css, T, gx⟩ := hrow
          have HY := hide yy
          obtain ⟨s2, rfl, y2⟩ := yy
          obtain ⟨a2, k2, rfl⟩ := y2.form
          have hb3 := bthen hb2 (bnew w2 (.cells #[.int .i64 X.s.1, .int .i64 X.s.2.1, .int .i64 X.s.2.2.1, .int .i64 X.s.2.2.2.1, .bool X.s.2.2.2.2.1, .slice a2 X.s.2.2.2.2.2.length k2] 111))
          have hrowk := (gx.keep spanO_keeps hb3).row
          have hns := hb2.size
          have hbs := hbl.size
          have hs3 : w.heap.size ≤ (w2.alloc (.cells #[.int .i64 X.s.1, .int .i64 X.s.2.1, .int .i64 X.s.2.2.1, .int .i64 X.s.2.2.2.1, .bool X.s.2.2.2.2.1, .slice a2 X.s.2.2.2.2.2.length k2] 111)).heap.size := by have := hb3.size; omega
          have HB3 := hide (And.intro hb2 hb3)
          have HE := hide (And.intro hro (And.intro hne hbl))
          clear hro hne hbl HE0
          clear y2 p0 hin1 hb2 hb3 HC hrwS
          go_wp2_with (first | (at_builtin; refine wpl_append2 rfl (.tmp 44) (.tmp 48) 62 rfl w.heap.size 111 _ 6 64 Try.underlying62 infoSpan2 rfl (by decide) _ _ _ rfl hrowk ⟨_, 0, none⟩ 1 1 [.int .i64 X.s.1, .int .i64 X.s.2.1, .int .i64 X.s.2.2.1, .int .i64 X.s.2.2.2.1, .bool X.s.2.2.2.2.1, .slice a2 X.s.2.2.2.2.2.length k2] rfl rfl (lit_cells2 w2 [.int .i64 X.s.1, .int .i64 X.s.2.1, .int .i64 X.s.2.2.1, .int .i64 X.s.2.2.2.1, .bool X.s.2.2.2.2.1, .slice a2 X.s.2.2.2.2.2.length k2] 111) (by intro v hv; simp only [List.mem_cons, List.not_mem_nil, or_false] at hv; rcases hv with rfl | rfl | rfl | rfl | rfl | rfl <;> rfl) (by unfold maxLen; omega) (by omega) hs3 ?_))
          intro v' w' how hg hv
          obtain ⟨hb2, hb3⟩ := unhide HB3
          have hv2 := hv.imp_right (fun h => (show v'.ownBlock = some (w2.alloc (.cells #[.int .i64 X.s.1, .int .i64 X.s.2.1, .int .i64 X.s.2.2.1, .int .i64 X.s.2.2.2.1, .bool X.s.2.2.2.2.1, .slice a2 X.s.2.2.2.2.2.length k2] 111)).heap.size by rw [h]; simp))
          have st1 := GrowX.step spanO_keeps gx hbs hb3 (spanO_keeps _ _ _ None1 _ _ (Below.turn (bnew w2 (.cells #[.int .i64 X.s.1, .int .i64 X.s.2.1, .int .i64 X.s.2.2.1, .int .i64 X.s.2.2.2.1, .bool X.s.2.2.2.2.1, .slice a2 X.s.2.2.2.2.2.length k2] 111))) none_off (unhide HY)) (fun k hk => ⟨hk.1, by have := hk.2; simp; omega⟩) rfl how hg hv2
          obtain ⟨hro, hne, hbl⟩ := unhide HE
          have hro2 := owns_apart (owns_below hro hb3) hg hne
          have hne2 := ne_grown (u' := v') (w := wa) hne (fun q hq => (hro.lt q hq).2) (hv2.imp_right (fun h => ⟨_, h, hb3.size⟩))
          have bl1 := grown_below (bthen hbl hb3) hg (fun q hq => (gx.row.lt q hq).1) hs3
          rw [← unhide HF, ← unhide HS] at st1
          have HST := hide (show AcS l st w w' (k + 1) v' (.slice (some ⟨g, 0, none⟩) (ordL l).length co) from ⟨st1, hro2, hne2, bl1⟩)
          clear how hg hv hv2 hro2 hne2 bl1 hro hne hbl hrowk HE hb2 hb3 HB3 cz st1 gx HY
          go_wp2
          go_roundw
          case rel => exact ⟨k + 1, by omega, by go_num, HST⟩
          case measure => simp [intOf]; omega
        · have q4 : (X.code == 2) = false := by simpa using e4
          have hvb : accB st X = false := by simp [accB, e3, e4]
          clear e1 e2 e3 e4
          have HF := hide (acc_no (l := inOrdK l k) (st := st) (x := X) hvb)
          clear hvb
          have HST := hide (show AcS l st w wa (k + 1) _ (.slice (some ⟨g, 0, none⟩) (ordL l).length co) from ⟨by rw [unhide HS, unhide HF]; exact hrow, hro, hne, hbl⟩)
          clear hrow hro hne hbl HE0 hin1 HC
          go_wp2
          go_roundw
          case rel => exact ⟨k + 1, by omega, by go_num, HST⟩
          case measure => simp [intOf]; omega
    · have hki : ¬ (k : Int) < ((ordL l).length : Int) := by omega
      obtain rfl : k = (ordL l).length := by omega
      have h1 := (unhide hin0).1
      have h2 := (unhide hin0).2.2.2
      rw [inOrdK_all] at h1
      have hcn := acc_len0 l st b0
      have HF := hide (And.intro (h1.done (by omega)) h2)
      clear h1 h2 hin0
      go_wp2
      go_ret
      exact ⟨_, rfl, (unhide HF).1, (unhide HF).2⟩
end Go.Proofs.Ytopngelgpfjdeaa
namespace Go.Proofs.Ytopngelgpfjdeaa
open Go.ChangeShapes Go.WideShapes Go.ChangeAt Go.RowKit Go.Sort
set_option linter.unusedVariables false
set_option maxRecDepth 100000

theorem acc_is {st : Int} {x : DeedD} (h : tookB x = true) : accB st x = (takB x && decide (x.stamp = st)) := by
  unfold accB takB offB
  rw [h]
  by_cases e1 : x.op = 1 <;> by_cases e2 : x.stamp = st <;> by_cases e3 : x.code = 1 <;> by_cases e4 : x.code = 2 <;> simp [e1, e2, e3, e4]
set_option maxHeartbeats 2000000 in
theorem implTak (x : DeedD) (S0 : Nat → Prop) (c0 : List Value) (w : World) (h0 : deedR w S0 c0 x) (b0 : deedBulk x ≤ 1048576) :
    Calls Try.prog 89 #[.agg c0.toArray] w fun e w' => e = .returned (.bool (takB x)) ∧ Below w.heap.size w w' := by
  have P0 := Held.new w c0 130
  have B0 := bnew w (.cells c0.toArray 130)
  have r0 : RowT Try.prog 130 c0.length := by rw [deedR_len h0]; exact rowIDeed
  have HR := hide h0
  clear h0
  go_enter Try.func89, Try.ntmps89
  go_upto_region 1 with fail
  generalize World.alloc w _ = w0 at *
  go_wp2_with (first | (refine wpl_loadG (by rfl) 130 _ rfl _ 0 rfl c0 P0.inB r0 ?_) | (refine wpl_load rfl 130 _ rfl _ 0 rfl c0 P0.inB r0 ?_))
  have hc := implOffered x 1 S0 c0 _ (deedR_keeps _ _ _ None1 _ _ (Below.turn B0) none_off (unhide HR)) b0
  cases hp : offB 1 x
  · have HF := hide (show takB x = offB 2 x by simp [takB, hp])
    rw [hp] at hc
    refine hc.mono ?_
    rintro e w1 ⟨rfl, hb1⟩
    clear hc
    have P1 := P0.keep hb1
    go_wp2_with (first | (refine wpl_loadG (by rfl) 130 _ rfl _ 0 rfl c0 P1.inB r0 ?_) | (refine wpl_load rfl 130 _ rfl _ 0 rfl c0 P1.inB r0 ?_))
    refine (implOffered x 2 S0 c0 _ (deedR_keeps _ _ _ None1 _ _ (Below.turn (bthen B0 hb1)) none_off (unhide HR)) b0).mono ?_
    rintro e w2 ⟨rfl, hb2⟩
    go_wp2
    go_ret
    exact ⟨ret_bool (unhide HF).symm, bthen (bthen B0 hb1) hb2⟩
  · have HF := hide (show takB x = true by simp [takB, hp])
    rw [hp] at hc
    refine hc.mono ?_
    rintro e w1 ⟨rfl, hb1⟩
    clear hc
    go_wp2
    go_ret
    exact ⟨ret_bool (unhide HF).symm, bthen B0 hb1⟩
def AcI (S : Nat → Prop) (d : List DeedD) (st : Int) (w wk : World) (k : Nat) (u v : Value) : Prop := GrowL 6 spanO 111 w.heap.size wk u (acc (d.take k) st) ∧ LAt 20 deedR wk S v d ∧ (∀ q, S q → ¬ (u.ownBlock = some q)) ∧ (∀ q, S q → q < wk.heap.size) ∧ Below w.heap.size w wk
set_option maxHeartbeats 4000000 in
theorem implAccepted (l : List DeedD) (st : Int) (S0 : Nat → Prop) (v0 : Value) (w : World) (h0 : LAt 20 deedR w S0 v0 l) (b0 : bulkL deedBulk l ≤ 1048576) :
    Calls Try.prog 33 #[v0, .int .i64 st] w fun e w' => ∃ v', e = .returned v' ∧ LOw 6 spanO w' (Within w.heap.size w'.heap.size) v' (acc (inOrd l) st) ∧ Below w.heap.size w w' := by
  obtain ⟨a, cap0, rfl⟩ := h0.form
  have hlen := bulkL_len deedBulk l
  have hol := inOrd_len l
  have HA := hide (deeds_old h0)
  clear h0
  have hb1 := bnew w (.cells #[] 111)
  have how0 := GrowL.start (α := SpanD) (N := 6) (C := spanO) (t := 111) (Nat.le_refl w.heap.size)
  have hsz1 : (w.alloc (.cells #[] 111)).heap.size = w.heap.size + 1 := by simp
  have H0 := hide (And.intro how0 (And.intro hb1 hsz1))
  go_enter Try.func33, Try.ntmps33
  go_wp2_with fail
  refine (implInOrder l (Old w) _ _ ((unhide HA).keep deedR_keeps hb1) (fun k hk => by unfold Old at hk; omega) b0).mono ?_
  clear how0 hsz1
  rintro e w2 ⟨vo, rfl, hro, hbo⟩
  obtain ⟨ao, co, rfl⟩ := hro.form
  obtain ⟨S, hSS⟩ : ∃ S : Nat → Prop, S = fun k => (Old w k ∨ w.heap.size + 1 ≤ k) ∧ k < w2.heap.size := ⟨_, rfl⟩
  have hst : Hid (AcI S (inOrd l) st w w2 0 (.slice (some ⟨w.heap.size, 0, none⟩) 0 0) (.slice ao (inOrd l).length co)) := by
    obtain ⟨how0, hb1, hsz1⟩ := unhide H0
    have hr2 := how0.keep spanO_keeps hbo
    have hd := deeds_in hro
    unfold Mine at hd
    rw [hsz1] at hd
    refine hide ⟨?_, by rw [hSS]; exact hd, fun q hq e => ?_, fun q hq => ?_, bthen hb1 hbo⟩
    · simpa [acc] using hr2
    · rw [hSS] at hq
      have h1 := Option.some.inj e
      unfold Old at hq
      have h2 := hq.1
      have h3 : w.heap.size = q := h1
      omega
    · rw [hSS] at hq; exact hq.2
  have HSS := hide hSS
  clear hb1 hbo hro H0 hSS
  have HD := hide hol
  have hdl : (inOrd l).length ≤ 1048576 := by omega
  have hcn0 := acc_len0 l st b0
  have HTK := hide (fun (x : DeedD) (hx : x ∈ inOrd l) => inOrd_took hx)
  have HXB := hide (fun (x : DeedD) (hx : x ∈ inOrd l) => (show deedBulk x ≤ 1048576 by have := bulkL_mem deedBulk (inOrd_mem hx); omega))
  generalize hD : inOrd l = d at *
  have HDD := hide hD
  clear hD
  go_wp2
  go_loopw [5, 12] (fun u i wk => ∃ k : Nat, k ≤ d.length ∧ i = .int .i64 k ∧ Hid (AcI S d st w wk k u (.slice ao d.length co))) (fun _ i _ => d.length - (intOf i).toNat)
  case atStart => exact ⟨0, Nat.zero_le _, rfl, hst⟩
  case round =>
    obtain ⟨k, hk, rfl, hin0⟩ := hrel
    clear hst
    by_cases hlt : k < d.length
    · have hki : (k : Int) < (d.length : Int) := by omega
      obtain ⟨hrow, hda, hne, hSlt, hbl⟩ := unhide hin0
      have hpre2 := acc_len (d.take k) st
      rw [List.length_take] at hpre2
      obtain ⟨b, o, cs, rfl, hbk, hSb, hcs, hin⟩ := hda.at k hlt
      have hrw : RowT Try.prog 130 cs.length := by rw [deedR_len hcs]; exact rowIDeed
      have HS := hide (take_snoc hlt)
      have htk : tookB d[k] = true := unhide HTK _ (List.getElem_mem hlt)
      have hXb : deedBulk d[k] ≤ 1048576 := unhide HXB _ (List.getElem_mem hlt)
      generalize d[k] = X at *
      have HL1 := hide (deedR_len hcs)
      have on1 := deedR_one hcs
      have hA1 := Held.new wr cs 130
      have hbA := bnew wr (.cells cs.toArray 130)
      have HCS := hide (deedR_keeps _ _ _ None1 _ _ (Below.turn hbA) none_off hcs)
      have hS1 : ∀ q, S q → q < (wr.alloc (.cells cs.toArray 130)).heap.size := fun q hq => Nat.lt_of_lt_of_le (hSlt q hq) hbA.size
      have HE0 := hide (And.intro (hrow.keep spanO_keeps hbA) (And.intro (hda.keep deedR_keeps hbA) (And.intro hne (And.intro hS1 (bthen hbl hbA)))))
      clear hrow hda hne hSlt hbl hS1 hcs hin0 hbA
      go_upto_region 5 with (first | (refine wpl_load rfl 130 _ rfl _ _ rfl cs hin hrw ?_) | (refine wpl_store_new rfl _ _ _ rfl _ cs rfl rfl ?_ on1 hrw ?_; (rw [unhide HL1]; rfl)))
      generalize hWa : World.alloc wr _ = wa at *
      clear hWa hin on1
      go_wp2_with (first | (refine wpl_load rfl 130 _ rfl _ 0 rfl cs hA1.inB hrw ?_))
      refine (implTak X _ cs _ (unhide HCS) hXb).mono ?_
      rintro e w3 ⟨rfl, hb3⟩
      have hA3 := hA1.keep hb3
      have p0 := hA3.2 0 _ (deedR_c0 (unhide HCS))
      have p9 := hA3.2 9 _ (deedR_c9 (unhide HCS))
      have hcs3 := deedR_keeps _ _ _ None1 _ _ (Below.turn hb3) none_off (unhide HCS)
      obtain ⟨c1, hc1, hd1⟩ := deedR_sub_s hcs3
      have hl1 := spanR_len hc1
      have hrwS : RowT Try.prog 111 c1.length := by rw [hl1]; exact rowISpan
      have hin1 := inB_sub hA3.inB hd1
      rw [Nat.zero_add] at hin1
      have hXs : spanBulk X.s ≤ 1048576 := hXb
      have HC := hide (And.intro hc1 hXs)
      obtain ⟨hrow0, hda0, hne, hSlt0, hbl0⟩ := unhide HE0
      have hrow := hrow0.keep spanO_keeps hb3
      have hda := hda0.keep deedR_keeps hb3
      have hSlt : ∀ q, S q → q < w3.heap.size := fun q hq => Nat.lt_of_lt_of_le (hSlt0 q hq) hb3.size
      have hbl := bthen hbl0 hb3
      have HE := hide (And.intro hrow (And.intro hda (And.intro hne (And.intro hSlt hbl))))
      clear hrow0 hda0 hSlt0 hbl0
      clear hA1 hA3 HCS hrw HE0 hb3 hc1 hXs hXb hd1 hl1 hcs3
      have hvi := acc_is (st := st) htk
      clear htk
      by_cases ej : takB X = true
      · rw [ej]
        rw [ej, Bool.true_and] at hvi
        by_cases e2 : X.stamp = st
        · have q2 : (X.stamp == st) = true := by simpa using e2
          have hvb : accB st X = true := by rw [hvi]; simp [e2]
          clear e2 hvi ej
          have HF := hide (acc_yes (l := d.take k) (st := st) (x := X) hvb)
          clear hvb
          go_wp2_with (first | (refine wpl_load rfl 111 _ rfl _ 2 rfl c1 hin1 hrwS ?_))
          refine (implCopySpan X.s _ c1 w3 (unhide HC).1 (unhide HC).2).mono ?_
          rintro e w2 ⟨cs2, rfl, yy, hb2⟩
          obtain ⟨css, T, gx⟩ := hrow
          have HY := hide yy
          obtain ⟨s2, rfl, y2⟩ := yy
          obtain ⟨a2, k2, rfl⟩ := y2.form
          have hb5 := bthen hb2 (bnew w2 (.cells #[.int .i64 X.s.1, .int .i64 X.s.2.1, .int .i64 X.s.2.2.1, .int .i64 X.s.2.2.2.1, .bool X.s.2.2.2.2.1, .slice a2 X.s.2.2.2.2.2.length k2] 111))
          have hrowk := (gx.keep spanO_keeps hb5).row
          have hns := hb2.size
          have hbs := hbl.size
          have hs3 : w.heap.size ≤ (w2.alloc (.cells #[.int .i64 X.s.1, .int .i64 X.s.2.1, .int .i64 X.s.2.2.1, .int .i64 X.s.2.2.2.1, .bool X.s.2.2.2.2.1, .slice a2 X.s.2.2.2.2.2.length k2] 111)).heap.size := by have := hb5.size; omega
          have HB3 := hide (And.intro hb2 hb5)
          clear hda hne hSlt hbl
          clear y2 p0 hin1 hb2 hb5 HC hrwS
          go_wp2_with (first | (at_builtin; refine wpl_append2 rfl (.tmp 24) (.tmp 28) 62 rfl w.heap.size 111 _ 6 64 Try.underlying62 infoSpan2 rfl (by decide) _ _ _ rfl hrowk ⟨_, 0, none⟩ 1 1 [.int .i64 X.s.1, .int .i64 X.s.2.1, .int .i64 X.s.2.2.1, .int .i64 X.s.2.2.2.1, .bool X.s.2.2.2.2.1, .slice a2 X.s.2.2.2.2.2.length k2] rfl rfl (lit_cells2 w2 [.int .i64 X.s.1, .int .i64 X.s.2.1, .int .i64 X.s.2.2.1, .int .i64 X.s.2.2.2.1, .bool X.s.2.2.2.2.1, .slice a2 X.s.2.2.2.2.2.length k2] 111) (by intro v hv; simp only [List.mem_cons, List.not_mem_nil, or_false] at hv; rcases hv with rfl | rfl | rfl | rfl | rfl | rfl <;> rfl) (by unfold maxLen; omega) (by omega) hs3 ?_))
          intro v' w' how hg hv
          obtain ⟨hb2, hb5⟩ := unhide HB3
          have hv2 := hv.imp_right (fun h => (show v'.ownBlock = some (w2.alloc (.cells #[.int .i64 X.s.1, .int .i64 X.s.2.1, .int .i64 X.s.2.2.1, .int .i64 X.s.2.2.2.1, .bool X.s.2.2.2.2.1, .slice a2 X.s.2.2.2.2.2.length k2] 111)).heap.size by rw [h]; simp))
          have st1 := GrowX.step spanO_keeps gx hbs hb5 (spanO_keeps _ _ _ None1 _ _ (Below.turn (bnew w2 (.cells #[.int .i64 X.s.1, .int .i64 X.s.2.1, .int .i64 X.s.2.2.1, .int .i64 X.s.2.2.2.1, .bool X.s.2.2.2.2.1, .slice a2 X.s.2.2.2.2.2.length k2] 111))) none_off (unhide HY)) (fun k hk => ⟨hk.1, by have := hk.2; simp; omega⟩) rfl how hg hv2
          obtain ⟨_, hda, hne, hSlt, hbl⟩ := unhide HE
          have hb5s := hb5.size
          have hgs := hg.size
          have hne2 : ∀ q, S q → ¬ (v'.ownBlock = some q) := fun q hq e2 => by
            rcases hv2 with h | h
            · rw [h] at e2; exact hne q hq e2
            · rw [h] at e2
              have h1 := hSlt q hq
              have h2 := Option.some.inj e2
              omega
          have hda2 := (hda.keep deedR_keeps hb5).turn deedR_keeps (grown_turn hg) hne
          have bl1 := grown_below (bthen hbl hb5) hg (fun q hq => (gx.row.lt q hq).1) hs3
          rw [← unhide HF, ← unhide HS] at st1
          have HST := hide (show AcI S d st w w' (k + 1) v' (.slice (some ⟨b, o, none⟩) d.length co) from ⟨st1, hda2, hne2, fun q hq => by have := hSlt q hq; omega, bl1⟩)
          clear how hg hv hv2 hda2 hne2 bl1 hda hne hSlt hbl hrowk HE hb2 hb5 HB3 st1 gx HY
          go_wp2
          go_roundw
          case rel => exact ⟨k + 1, by omega, by go_num, HST⟩
          case measure => simp [intOf]; omega
        · have q2 : (X.stamp == st) = false := by simpa using e2
          have hvb : accB st X = false := by rw [hvi]; simp [e2]
          clear e2 hvi ej
          have HF := hide (acc_no (l := d.take k) (st := st) (x := X) hvb)
          clear hvb
          have HST := hide (show AcI S d st w w3 (k + 1) _ (.slice (some ⟨b, o, none⟩) d.length co) from ⟨by rw [unhide HS, unhide HF]; exact hrow, hda, hne, hSlt, hbl⟩)
          clear hrow hda hne hSlt hbl HE hin1 HC
          go_wp2
          go_roundw
          case rel => exact ⟨k + 1, by omega, by go_num, HST⟩
          case measure => simp [intOf]; omega
      · have ej : takB X = false := by simpa using ej
        rw [ej]
        have hvb : accB st X = false := by rw [hvi, ej]; rfl
        clear ej hvi
        have HF := hide (acc_no (l := d.take k) (st := st) (x := X) hvb)
        clear hvb
        have HST := hide (show AcI S d st w w3 (k + 1) _ (.slice (some ⟨b, o, none⟩) d.length co) from ⟨by rw [unhide HS, unhide HF]; exact hrow, hda, hne, hSlt, hbl⟩)
        clear hrow hda hne hSlt hbl HE hin1 HC
        go_wp2
        go_roundw
        case rel => exact ⟨k + 1, by omega, by go_num, HST⟩
        case measure => simp [intOf]; omega
    · have hki : ¬ (k : Int) < (d.length : Int) := by omega
      obtain rfl : k = d.length := by omega
      have h1 := (unhide hin0).1
      have h2 := (unhide hin0).2.2.2.2
      rw [List.take_length] at h1
      have HF := hide (And.intro (h1.done (by omega)) h2)
      clear h1 h2 hin0
      go_wp2
      go_ret
      exact ⟨_, rfl, by rw [unhide HDD]; exact (unhide HF).1, (unhide HF).2⟩
end Go.Proofs.Ytopngelgpfjdeaa
