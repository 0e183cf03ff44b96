/-
  A stable sort by blocks: what its steps do to a row of numbers of places (no program in this text).
-/
import Derived.Sort.LotA
namespace Go.Proofs.Ytopngelgpfjdeaa
open Go.Sort
set_option linter.unusedVariables false
set_option maxRecDepth 100000

def Lx (key : Nat → Int) (x y : Nat) : Prop := key x < key y ∨ key x = key y ∧ x < y
theorem Lx.trans {key : Nat → Int} {x y z : Nat} (h1 : Lx key x y) (h2 : Lx key y z) : Lx key x z := by unfold Lx at *; omega
def ltK (key : Nat → Int) (x y : Nat) : Bool := decide (key x < key y)
def ltX (key : Nat → Int) (x y : Nat) : Bool := decide (key x < key y) || (decide (key x = key y) && decide (x < y))
theorem ltX_iff (key : Nat → Int) (x y : Nat) : ltX key x y = true ↔ Lx key x y := by unfold ltX Lx; simp
theorem swoX (key : Nat → Int) : SWO (ltX key) where
  irrefl x := by unfold ltX; simp
  trans x y z h1 h2 := by rw [ltX_iff] at *; exact h1.trans h2
  ntrans x y z h1 h2 := by unfold ltX at *; simp only [Bool.or_eq_false_iff, Bool.and_eq_false_iff, decide_eq_false_iff_not] at *; omega
def Asc (key : Nat → Int) (a b : Nat) (d : Array Nat) : Prop := ∀ i j, a ≤ i → i < j → j < b → Lx key d[i]! d[j]!
def Low (a m b : Nat) (d : Array Nat) : Prop := ∀ i j, a ≤ i → i < m → m ≤ j → j < b → d[i]! < d[j]!

/-! insertion -/
theorem inner_same (key : Nat → Int) (a : Nat) : ∀ (j : Nat) (d : Array Nat), j < d.size → (∀ p, a ≤ p → p < j → d[p]! < d[j]!) → insInner (ltK key) a j d = insInner (ltX key) a j d
  | 0, d, _, _ => rfl
  | j + 1, d, hs, h => by
    unfold insInner
    have e : (decide (j + 1 > a) && ltK key d[j + 1]! d[j]!) = (decide (j + 1 > a) && ltX key d[j + 1]! d[j]!) := by
      by_cases hj : j + 1 > a
      · have := h j (by omega) (by omega)
        unfold ltK ltX
        have e2 : decide (d[j + 1]! < d[j]!) = false := decide_eq_false (by omega)
        rw [e2]; simp
      · simp [hj]
    rw [e]
    split
    · refine inner_same key a j _ (by rw [swp_size]; omega) (fun p hp1 hp2 => ?_)
      rw [swp_get d hs (show j < d.size by omega), swp_get d hs (show j < d.size by omega), if_neg (by omega), if_neg (by omega), if_pos rfl]
      exact h p hp1 (by omega)
    · rfl
theorem outer_same (key : Nat → Int) (a b : Nat) : ∀ (n i : Nat) (d : Array Nat), b - i = n → a < i → i ≤ b → b ≤ d.size → SortedIn (ltX key) a i d → (∀ p q, a ≤ p → p < q → i ≤ q → q < b → d[p]! < d[q]!) →
    insOuter (ltK key) a b i d = insOuter (ltX key) a b i d
  | 0, i, d, hn, _, _, _, _, _ => by
    rw [insOuter, if_neg (by omega), insOuter, if_neg (by omega)]
  | n + 1, i, d, hn, hai, hib, hb, hs, h => by
    have hlt : i < b := by omega
    rw [show insOuter (ltK key) a b i d = insOuter (ltK key) a b (i + 1) (insInner (ltK key) a i d) by rw [insOuter, if_pos hlt], show insOuter (ltX key) a b i d = insOuter (ltX key) a b (i + 1) (insInner (ltX key) a i d) by rw [insOuter, if_pos hlt], inner_same key a i d (by omega) (fun p h1 h2 => h p i h1 h2 (Nat.le_refl _) hlt)]
    have h1 := insInner_spec (swoX key) swp_permIn permIn_refl permIn_trans a (i + 1) i (by omega) i d (by omega) (Nat.le_refl _) (by omega) ⟨fun p q hap hpq hqi _ hq => hs p q hap hpq (by omega), fun q h1 h2 => by omega⟩
    refine outer_same key a b n (i + 1) _ (by omega) (by omega) (by omega) (by rw [h1.1.1]; exact hb) h1.2 (fun p q hp hpq hiq hqb => ?_)
    rw [h1.1.2.1 q (Or.inr hiq)]
    by_cases hpi : p < i + 1
    · exact permIn_all d _ a (i + 1) (fun x => x < d[q]!) (by omega) h1.1 (fun r hr1 hr2 => h r q hr1 (by omega) (by omega) hqb) p hp hpi
    · rw [h1.1.2.1 p (Or.inr (by omega))]
      exact h p q hp hpq (by omega) hqb
theorem block_sorted (key : Nat → Int) (a b : Nat) (d : Array Nat) (hab : a ≤ b) (hb : b ≤ d.size) (h : ∀ i, a ≤ i → i < b → d[i]! = i) :
    PermIn a b d (insertionSort (ltK key) d a b) ∧ Asc key a b (insertionSort (ltK key) d a b) := by
  have e : insertionSort (ltK key) d a b = insertionSort (ltX key) d a b := by
    unfold insertionSort
    by_cases hab' : a = b
    · subst hab'; rw [insOuter, if_neg (by omega), insOuter, if_neg (by omega)]
    · exact outer_same key a b _ (a + 1) d rfl (by omega) (by omega) hb (fun i j h1 h2 h3 => by omega) (fun p q h1 h2 h3 h4 => by rw [h p h1 (by omega), h q (by omega) h4]; exact h2)
  obtain ⟨h1, h2⟩ := insertionSort_holds (swoX key) d a b hab hb
  rw [e]
  refine ⟨h1, fun i j hi hij hj => ?_⟩
  have h3 := h2 i j hi hij hj
  have h4 : (insertionSort (ltX key) d a b)[i]! ≠ (insertionSort (ltX key) d a b)[j]! := by
    intro he
    have hnd : (insertionSort (ltX key) d a b).size = d.size := h1.1
    have hp := h1.2.2
    have ex : (d.extract a b).toList.Nodup := by
      rw [extract_toList d a b hb]
      rw [List.map_congr_left (g := id) (fun x hx => by have := List.mem_range'_1.1 hx; exact h x (by omega) (by omega)), List.map_id]
      exact List.nodup_range'
    have ex2 := hp.nodup_iff.2 ex
    rw [extract_toList _ a b (by omega)] at ex2
    have h5 := List.pairwise_iff_getElem.1 ex2 (i - a) (j - a) (by simp; omega) (by simp; omega) (by omega)
    simp only [List.getElem_map, List.getElem_range', Nat.one_mul] at h5
    rw [show a + (i - a) = i by omega, show a + (j - a) = j by omega] at h5
    exact h5 he
  generalize (insertionSort (ltX key) d a b)[i]! = x at *
  generalize (insertionSort (ltX key) d a b)[j]! = y at *
  unfold ltX at h3
  simp only [Bool.or_eq_false_iff, Bool.and_eq_false_iff, decide_eq_false_iff_not] at h3
  unfold Lx
  omega

/-! what lies where behind a turn of two neighbours -/
def rotI (a m b x : Nat) : Nat := if a ≤ x ∧ x < b then (if x < a + (b - m) then x + (m - a) else x - (b - m)) else x
def Rot (a m b : Nat) (d d' : Array Nat) : Prop := d'.size = d.size ∧ ∀ x, d'[x]! = d[rotI a m b x]!
def Swapped (a b n : Nat) (d d' : Array Nat) : Prop := d'.size = d.size ∧ ∀ x, d'[x]! = d[if a ≤ x ∧ x < a + n then b + (x - a) else if b ≤ x ∧ x < b + n then a + (x - b) else x]!
theorem Swapped.start (a b : Nat) (d : Array Nat) : Swapped a b 0 d d := ⟨rfl, fun x => by rw [if_neg (by omega), if_neg (by omega)]⟩
theorem Swapped.step {a b n : Nat} {d d' : Array Nat} (h : Swapped a b n d d') (h1 : a + n < b) (h2 : b + n < d.size) : Swapped a b (n + 1) d (swp d' (a + n) (b + n)) := by
  obtain ⟨hs, h⟩ := h
  refine ⟨by rw [swp_size]; exact hs, fun x => ?_⟩
  rw [swp_get d' (show a + n < d'.size by omega) (show b + n < d'.size by omega), h, h, h]
  have e : ∀ y z : Nat, y = z → d[y]! = d[z]! := fun y z h => by rw [h]
  split
  · exact e _ _ (by (repeat' split) <;> omega)
  · split
    · exact e _ _ (by (repeat' split) <;> omega)
    · exact e _ _ (by (repeat' split) <;> omega)
theorem Rot.one {m i : Nat} {d d' : Array Nat} (h : Swapped (m - i) m i d d') (hi : i ≤ m) : Rot (m - i) m (m + i) d d' :=
  ⟨h.1, fun x => by
    rw [h.2]
    have e : ∀ y z : Nat, y = z → d[y]! = d[z]! := fun y z h => by rw [h]
    refine e _ _ ?_
    unfold rotI
    (repeat' split) <;> omega⟩
theorem Rot.big {m i j : Nat} {d d1 d2 : Array Nat} (h : Swapped (m - i) m j d d1) (hi : i ≤ m) (hij : j < i) (hr : Rot (m - (i - j)) m (m + j) d1 d2) : Rot (m - i) m (m + j) d d2 :=
  ⟨hr.1.trans h.1, fun x => by
    rw [hr.2, h.2]
    have e : ∀ y z : Nat, y = z → d[y]! = d[z]! := fun y z h => by rw [h]
    refine e _ _ ?_
    unfold rotI
    (repeat' split) <;> omega⟩
theorem Rot.small {m i j : Nat} {d d1 d2 : Array Nat} (h : Swapped (m - i) (m + j - i) i d d1) (hi : i ≤ m) (hij : i < j) (hr : Rot (m - i) m (m + (j - i)) d1 d2) : Rot (m - i) m (m + j) d d2 :=
  ⟨hr.1.trans h.1, fun x => by
    rw [hr.2, h.2]
    have e : ∀ y z : Nat, y = z → d[y]! = d[z]! := fun y z h => by rw [h]
    refine e _ _ ?_
    unfold rotI
    (repeat' split) <;> omega⟩
theorem Rot.upStart (a : Nat) (d : Array Nat) : Rot a (a + 1) (a + 1) d d := ⟨rfl, fun x => by
  have e : ∀ y z : Nat, y = z → d[y]! = d[z]! := fun y z h => by rw [h]
  refine e _ _ ?_
  unfold rotI
  (repeat' split) <;> omega⟩
theorem Rot.up {a k : Nat} {d d' : Array Nat} (h : Rot a (a + 1) (k + 1) d d') (hak : a ≤ k) (hk : k + 1 < d.size) : Rot a (a + 1) (k + 2) d (swp d' k (k + 1)) :=
  ⟨by rw [swp_size]; exact h.1, fun x => by
    have hs := h.1
    rw [swp_get d' (show k < d'.size by omega) (show k + 1 < d'.size by omega), h.2, h.2, h.2]
    have e : ∀ y z : Nat, y = z → d[y]! = d[z]! := fun y z h => by rw [h]
    unfold rotI
    split
    · exact e _ _ (by (repeat' split) <;> omega)
    · split
      · exact e _ _ (by (repeat' split) <;> omega)
      · exact e _ _ (by (repeat' split) <;> omega)⟩
theorem Rot.downStart (m : Nat) (d : Array Nat) : Rot m m (m + 1) d d := ⟨rfl, fun x => by
  have e : ∀ y z : Nat, y = z → d[y]! = d[z]! := fun y z h => by rw [h]
  refine e _ _ ?_
  unfold rotI
  (repeat' split) <;> omega⟩
theorem Rot.down {m k : Nat} {d d' : Array Nat} (h : Rot (k + 1) m (m + 1) d d') (hkm : k + 1 ≤ m) (hm : m < d.size) : Rot k m (m + 1) d (swp d' (k + 1) k) :=
  ⟨by rw [swp_size]; exact h.1, fun x => by
    have hs := h.1
    rw [swp_get d' (show k + 1 < d'.size by omega) (show k < d'.size by omega), h.2, h.2, h.2]
    have e : ∀ y z : Nat, y = z → d[y]! = d[z]! := fun y z h => by rw [h]
    unfold rotI
    split
    · exact e _ _ (by (repeat' split) <;> omega)
    · split
      · exact e _ _ (by (repeat' split) <;> omega)
      · exact e _ _ (by (repeat' split) <;> omega)⟩
theorem Rot.none {a m b : Nat} {d : Array Nat} (h : a = m ∨ m = b) (h1 : a ≤ m) (h2 : m ≤ b) : Rot a m b d d := ⟨rfl, fun x => by
  have e : ∀ y z : Nat, y = z → d[y]! = d[z]! := fun y z h => by rw [h]
  refine e _ _ ?_
  unfold rotI
  (repeat' split) <;> omega⟩

/-! two runs, parted -/
structure Parted (key : Nat → Int) (a m b s e : Nat) (d : Array Nat) : Prop where
  h1 : Asc key a m d
  h2 : Asc key m b d
  lo : Low a m b d
  as : a ≤ s
  sm : s ≤ m
  me : m ≤ e
  eb : e ≤ b
  c1 : s = a ∨ e = b ∨ Lx key d[s - 1]! d[e]!
  c2 : s = m ∨ e = m ∨ Lx key d[e - 1]! d[s]!
variable {key : Nat → Int} {a m b s e : Nat} {d d' : Array Nat}
theorem Asc.le (h : Asc key a b d) {i j : Nat} (h1 : a ≤ i) (h2 : i ≤ j) (h3 : j < b) {z : Nat} (hz : Lx key d[j]! z) : Lx key d[i]! z := by
  by_cases e : i = j
  · rw [e]; exact hz
  · exact (h i j h1 (by omega) h3).trans hz
theorem Asc.ge (h : Asc key a b d) {i j : Nat} (h1 : a ≤ i) (h2 : i ≤ j) (h3 : j < b) {z : Nat} (hz : Lx key z d[i]!) : Lx key z d[j]! := by
  by_cases e : i = j
  · rw [← e]; exact hz
  · exact hz.trans (h i j h1 (by omega) h3)
theorem Parted.across (P : Parted key a m b s e d) (hr : Rot s m e d d') : ∀ x y, a ≤ x → x < s + (e - m) → s + (e - m) ≤ y → y < b → Lx key d'[x]! d'[y]! := by
  intro x y hx1 hx2 hy1 hy2
  obtain ⟨h1, h2, lo, as, sm, me, eb, c1, c2⟩ := P
  rw [hr.2, hr.2]
  have ex : rotI s m e x = if x < s then x else x + (m - s) := by unfold rotI; (repeat' split) <;> omega
  have ey : rotI s m e y = if y < e then y - (e - m) else y := by unfold rotI; (repeat' split) <;> omega
  rw [ex, ey]
  by_cases hxs : x < s
  · rw [if_pos hxs]
    by_cases hye : y < e
    · rw [if_pos hye]; exact h1 _ _ hx1 (by omega) (by omega)
    · rw [if_neg hye]
      rcases c1 with c | c | c
      · omega
      · omega
      · exact h1.le hx1 (show x ≤ s - 1 by omega) (by omega) (h2.ge (by omega) (show e ≤ y by omega) hy2 c)
  · rw [if_neg hxs]
    by_cases hye : y < e
    · rw [if_pos hye]
      rcases c2 with c | c | c
      · omega
      · omega
      · exact h2.le (by omega) (show x + (m - s) ≤ e - 1 by omega) (by omega) (h1.ge (by omega) (show s ≤ y - (e - m) by omega) (by omega) c)
    · rw [if_neg hye]
      exact h2 _ _ (by omega) (by omega) hy2
theorem Parted.left (P : Parted key a m b s e d) (hr : Rot s m e d d') : Asc key a s d' ∧ Asc key s (s + (e - m)) d' ∧ Low a s (s + (e - m)) d' := by
  obtain ⟨h1, h2, lo, as, sm, me, eb, c1, c2⟩ := P
  refine ⟨fun i j hi hij hj => ?_, fun i j hi hij hj => ?_, fun i j hi hij hj hj2 => ?_⟩ <;> rw [hr.2, hr.2]
  · rw [show rotI s m e i = i by unfold rotI; (repeat' split) <;> omega, show rotI s m e j = j by unfold rotI; (repeat' split) <;> omega]
    exact h1 _ _ hi hij (by omega)
  · rw [show rotI s m e i = i + (m - s) by unfold rotI; (repeat' split) <;> omega, show rotI s m e j = j + (m - s) by unfold rotI; (repeat' split) <;> omega]
    exact h2 _ _ (by omega) (by omega) (by omega)
  · rw [show rotI s m e i = i by unfold rotI; (repeat' split) <;> omega, show rotI s m e j = j + (m - s) by unfold rotI; (repeat' split) <;> omega]
    exact lo _ _ hi (by omega) (by omega) (by omega)
theorem Parted.right (P : Parted key a m b s e d) (hr : Rot s m e d d') : Asc key (s + (e - m)) e d' ∧ Asc key e b d' ∧ Low (s + (e - m)) e b d' := by
  obtain ⟨h1, h2, lo, as, sm, me, eb, c1, c2⟩ := P
  refine ⟨fun i j hi hij hj => ?_, fun i j hi hij hj => ?_, fun i j hi hij hj hj2 => ?_⟩ <;> rw [hr.2, hr.2]
  · rw [show rotI s m e i = i - (e - m) by unfold rotI; (repeat' split) <;> omega, show rotI s m e j = j - (e - m) by unfold rotI; (repeat' split) <;> omega]
    exact h1 _ _ (by omega) (by omega) (by omega)
  · rw [show rotI s m e i = i by unfold rotI; (repeat' split) <;> omega, show rotI s m e j = j by unfold rotI; (repeat' split) <;> omega]
    exact h2 _ _ (by omega) hij hj
  · rw [show rotI s m e i = i - (e - m) by unfold rotI; (repeat' split) <;> omega, show rotI s m e j = j by unfold rotI; (repeat' split) <;> omega]
    exact lo _ _ (by omega) (by omega) (by omega) hj2
/-- Each half in order, all of the one ahead of all of the other: all in order. -/
theorem Asc.join {c : Nat} {d1 d2 : Array Nat} (hac : a ≤ c) (hcb : c ≤ b) (hb : b ≤ d.size) (hx : ∀ x y, a ≤ x → x < c → c ≤ y → y < b → Lx key d[x]! d[y]!) (p1 : PermIn a c d d1) (p2 : PermIn c b d1 d2) (h1 : Asc key a c d1) (h2 : Asc key c b d2) : Asc key a b d2 := by
  have hs1 := p1.1
  have hx1 : ∀ x y, a ≤ x → x < c → c ≤ y → y < b → Lx key d1[x]! d1[y]! := fun x y hx1 hx2 hy1 hy2 => by
    rw [p1.2.1 y (Or.inr hy1)]
    exact permIn_all d d1 a c (fun z => Lx key z d[y]!) (by omega) p1 (fun i hi1 hi2 => hx i y hi1 hi2 hy1 hy2) x hx1 hx2
  have hx2 : ∀ x y, a ≤ x → x < c → c ≤ y → y < b → Lx key d2[x]! d2[y]! := fun x y hx hx' hy1 hy2 => by
    rw [p2.2.1 x (Or.inl hx')]
    exact permIn_all d1 d2 c b (fun z => Lx key d1[x]! z) (by omega) p2 (fun i hi1 hi2 => hx1 x i hx hx' hi1 hi2) y hy1 hy2
  intro i j hi hij hj
  by_cases hjc : j < c
  · rw [p2.2.1 i (Or.inl (by omega)), p2.2.1 j (Or.inl hjc)]
    exact h1 i j hi hij hjc
  · by_cases hic : i < c
    · exact hx2 i j hi hic (by omega) hj
    · exact h2 i j (by omega) hij hj
/-- A run of one ahead of a run. -/
theorem Parted.first (P : Parted key a (a + 1) b a e d) (hr : Rot a (a + 1) e d d') (hb : b ≤ d.size) (he : e = b ∨ Lx key d[a]! d[e]!) : Asc key a b d' := by
  have hl := P.left hr
  have hg := P.right hr
  have hx := P.across hr
  have me := P.me
  have eb := P.eb
  have hs := hr.1
  refine Asc.join (c := a + (e - (a + 1))) (d := d') (by omega) (by omega) (by omega) hx (permIn_refl _ _ _) (permIn_refl _ _ _) hl.2.1 ?_
  intro i j hi hij hj
  by_cases hje : j < e
  · omega
  · by_cases hie : i < e
    · rw [hr.2, hr.2, show rotI a (a + 1) e i = a by unfold rotI; (repeat' split) <;> omega, show rotI a (a + 1) e j = j by unfold rotI; (repeat' split) <;> omega]
      rcases he with h | h
      · omega
      · exact P.h2.ge (by omega) (show e ≤ j by omega) hj h
    · exact hg.2.1 i j (by omega) hij hj
/-- A run of one behind a run. -/
theorem Parted.last (P : Parted key a m (m + 1) s (m + 1) d) (hr : Rot s m (m + 1) d d') (hb : m + 1 ≤ d.size) (he : s = a ∨ Lx key d[s - 1]! d[m]!) : Asc key a (m + 1) d' := by
  have hl := P.left hr
  have hg := P.right hr
  have hx := P.across hr
  have as := P.as
  have sm := P.sm
  have hs := hr.1
  rw [show s + (m + 1 - m) = s + 1 by omega] at hl hg hx
  refine Asc.join (c := s + 1) (d := d') (by omega) (by omega) (by omega) hx (permIn_refl _ _ _) (permIn_refl _ _ _) ?_ hg.1
  intro i j hi hij hj
  by_cases hjs : j < s
  · exact hl.1 i j hi hij hjs
  · rw [hr.2, hr.2, show rotI s m (m + 1) i = i by unfold rotI; (repeat' split) <;> omega, show rotI s m (m + 1) j = m by unfold rotI; (repeat' split) <;> omega]
    rcases he with h | h
    · omega
    · exact P.h1.le hi (show i ≤ s - 1 by omega) (by omega) h

theorem firstDone {a m b e : Nat} (hma : m = a + 1) (h1 : Asc key a m d) (h2 : Asc key m b d) (lo : Low a m b d) (hme : m ≤ e) (heb : e ≤ b) (c2 : e = m ∨ key d[e - 1]! < key d[a]!) (c1 : e = b ∨ ¬ key d[e]! < key d[a]!) (hr : Rot a m e d d') (hb : b ≤ d.size) : Asc key a b d' := by
  subst hma
  refine Parted.first (e := e) ⟨h1, h2, lo, Nat.le_refl _, by omega, hme, heb, Or.inl rfl, ?_⟩ hr hb ?_
  · rcases c2 with c | c
    · exact Or.inr (Or.inl c)
    · exact Or.inr (Or.inr (Or.inl c))
  · rcases c1 with c | c
    · exact Or.inl c
    · by_cases he : e = b
      · exact Or.inl he
      · have := lo a e (Nat.le_refl _) (by omega) hme (by omega)
        refine Or.inr ?_
        unfold Lx; omega
theorem lastDone {a m b s : Nat} (hmb : b = m + 1) (h1 : Asc key a m d) (h2 : Asc key m b d) (lo : Low a m b d) (has : a ≤ s) (hsm : s ≤ m) (c1 : s = a ∨ ¬ key d[m]! < key d[s - 1]!) (c2 : s = m ∨ key d[m]! < key d[s]!) (hr : Rot s m b d d') (hb : b ≤ d.size) : Asc key a b d' := by
  subst hmb
  have k1 : s = a ∨ Lx key d[s - 1]! d[m]! := by
    rcases c1 with c | c
    · exact Or.inl c
    · by_cases he : s = a
      · exact Or.inl he
      · have := lo (s - 1) m (by omega) (by omega) (Nat.le_refl _) (by omega)
        refine Or.inr ?_
        unfold Lx; omega
  refine Parted.last (s := s) ⟨h1, h2, lo, has, hsm, by omega, Nat.le_refl _, ?_, ?_⟩ hr hb k1
  · exact Or.inr (Or.inl rfl)
  · rcases c2 with c | c
    · exact Or.inl c
    · exact Or.inr (Or.inr (Or.inl (by rw [show m + 1 - 1 = m by omega]; exact c)))
def Ends (a m b mid s0 r0 : Nat) : Prop := (mid < m ∧ s0 + b = mid + m ∧ r0 = mid) ∨ (m ≤ mid ∧ s0 = a ∧ r0 = m)
theorem splitDone {a m b mid s0 r0 s : Nat} (h1 : Asc key a m d) (h2 : Asc key m b d) (lo : Low a m b d) (ham : a < m) (hmb : m < b) (hmid : mid = (a + b) / 2) (hE : Ends a m b mid s0 r0) (hss : s0 ≤ s) (hsr : s ≤ r0) (c1 : s = s0 ∨ ¬ key d[mid + m - s]! < key d[s - 1]!) (c2 : s = r0 ∨ key d[mid + m - 1 - s]! < key d[s]!) : Parted key a m b s (mid + m - s) d := by
  unfold Ends at hE
  refine ⟨h1, h2, lo, by omega, by omega, by omega, by omega, ?_, ?_⟩
  · by_cases e1 : s = a
    · exact Or.inl e1
    · by_cases e2 : mid + m - s = b
      · exact Or.inr (Or.inl e2)
      · rcases c1 with c | c
        · omega
        · have := lo (s - 1) (mid + m - s) (by omega) (by omega) (by omega) (by omega)
          refine Or.inr (Or.inr ?_)
          unfold Lx; omega
  · by_cases e1 : s = m
    · exact Or.inl e1
    · by_cases e2 : mid + m - s = m
      · exact Or.inr (Or.inl e2)
      · rcases c2 with c | c
        · omega
        · refine Or.inr (Or.inr (Or.inl ?_))
          rw [show mid + m - s - 1 = mid + m - 1 - s by omega]; exact c

/-! blocks -/
def Blk (key : Nat → Int) (n lo hi : Nat) (d : Array Nat) : Prop := Asc key lo (min hi n) d ∧ ∀ i, lo ≤ i → i < min hi n → lo ≤ d[i]! ∧ d[i]! < hi
theorem Blk.far {n lo hi : Nat} (h : n ≤ lo) : Blk key n lo hi d := ⟨fun i j h1 h2 h3 => by omega, fun i h1 h2 => by omega⟩
theorem Blk.wide {n lo hi hi' : Nat} (h : Blk key n lo hi d) (h1 : n ≤ hi) (h2 : hi ≤ hi') : Blk key n lo hi' d := by
  obtain ⟨h3, h4⟩ := h
  rw [show min hi n = n by omega] at h3 h4
  refine ⟨?_, ?_⟩ <;> rw [show min hi' n = n by omega]
  · exact h3
  · intro i hi1 hi2; have := h4 i hi1 hi2; omega
theorem Blk.same {n lo hi : Nat} (h : Blk key n lo hi d) (he : ∀ i, lo ≤ i → i < hi → d'[i]! = d[i]!) : Blk key n lo hi d' :=
  ⟨fun i j h1 h2 h3 => by rw [he i h1 (by omega), he j (by omega) (by omega)]; exact h.1 i j h1 h2 h3, fun i h1 h2 => by rw [he i h1 (by omega)]; exact h.2 i h1 h2⟩
theorem Blk.low {n lo m hi : Nat} (h1 : Blk key n lo m d) (h2 : Blk key n m hi d) (hm : m ≤ n) : Low lo m (min hi n) d := fun i j hi1 hi2 hj1 hj2 => by
  have a1 := h1.2 i hi1 (by omega)
  have a2 := h2.2 j hj1 hj2
  omega
theorem Blk.merged {n lo m hi : Nat} (h1 : Blk key n lo m d) (h2 : Blk key n m hi d) (hm : m ≤ n) (hmh : m ≤ hi) (hlm : lo ≤ m) (hn : n ≤ d.size) (hp : PermIn lo (min hi n) d d') (ha : Asc key lo (min hi n) d') : Blk key n lo hi d' :=
  ⟨ha, permIn_all d d' lo (min hi n) (fun x => lo ≤ x ∧ x < hi) (by omega) hp (fun i hi1 hi2 => by
    by_cases him : i < m
    · have := h1.2 i hi1 (by omega); omega
    · have := h2.2 i (by omega) hi2; omega)⟩
/-- Behind the first rounds: blocks of size s up to q of them twice as great, the others as they were. -/
def Runs (key : Nat → Int) (n s a : Nat) (d : Array Nat) : Prop := (∀ r, r * (2 * s) + 2 * s ≤ a → Blk key n (r * (2 * s)) (r * (2 * s) + 2 * s) d) ∧ ∀ r, a ≤ r * s → Blk key n (r * s) (r * s + s) d
def AllRuns (key : Nat → Int) (n s : Nat) (d : Array Nat) : Prop := ∀ r, Blk key n (r * s) (r * s + s) d
theorem AllRuns.start {n s : Nat} (h : AllRuns key n s d) (hs : 0 < s) : Runs key n s 0 d := ⟨fun r hr => by omega, fun r _ => h r⟩
theorem mulEq (q s : Nat) : q * (2 * s) = 2 * (q * s) ∧ 2 * q * s = 2 * (q * s) ∧ (2 * q + 1) * s = 2 * (q * s) + s ∧ (q + 1) * (2 * s) = 2 * (q * s) + 2 * s := by
  refine ⟨by rw [Nat.mul_left_comm], by rw [Nat.mul_assoc], by rw [Nat.succ_mul, Nat.mul_assoc], by rw [Nat.succ_mul, Nat.mul_left_comm]⟩
theorem Runs.pair {n s q : Nat} (h : Runs key n s (q * (2 * s)) d) : Blk key n (q * (2 * s)) (q * (2 * s) + s) d ∧ Blk key n (q * (2 * s) + s) (q * (2 * s) + 2 * s) d := by
  obtain ⟨e1, e2, e3, e4⟩ := mulEq q s
  have h1 := h.2 (2 * q) (by omega)
  have h2 := h.2 (2 * q + 1) (by omega)
  rw [e2] at h1
  rw [e3] at h2
  rw [e1]
  exact ⟨h1, by rw [show 2 * (q * s) + 2 * s = 2 * (q * s) + s + s by omega]; exact h2⟩
theorem mul_lt_of {r q s : Nat} (hs : 0 < s) (h : r * s < q * s) : r < q := Nat.lt_of_mul_lt_mul_right h
theorem Runs.next {n s q : Nat} (hs : 0 < s) (h : Runs key n s (q * (2 * s)) d) (hB : Blk key n (q * (2 * s)) (q * (2 * s) + 2 * s) d') (he : ∀ i, i < q * (2 * s) ∨ q * (2 * s) + 2 * s ≤ i → d'[i]! = d[i]!) : Runs key n s ((q + 1) * (2 * s)) d' := by
  obtain ⟨e1, e2, e3, e4⟩ := mulEq q s
  refine ⟨fun r hr => ?_, fun r hr => ?_⟩
  · by_cases hrq : r = q
    · subst hrq; exact hB
    · have : r < q := by
        have h1 : (r + 1) * (2 * s) ≤ (q + 1) * (2 * s) := by rw [Nat.succ_mul]; exact hr
        have := Nat.le_of_mul_le_mul_right h1 (by omega)
        omega
      have h2 : (r + 1) * (2 * s) ≤ q * (2 * s) := Nat.mul_le_mul_right _ this
      rw [Nat.succ_mul] at h2
      exact (h.1 r h2).same (fun i hi1 hi2 => he i (Or.inl (by omega)))
  · exact (h.2 r (by omega)).same (fun i hi1 hi2 => he i (Or.inr (by omega)))
theorem Runs.done {n s q : Nat} (hs : 0 < s) (h : Runs key n s (q * (2 * s)) d) (hq : n ≤ q * (2 * s)) : AllRuns key n (2 * s) d := fun r => by
  by_cases hr : r * (2 * s) + 2 * s ≤ q * (2 * s)
  · exact h.1 r hr
  · have : q ≤ r := by
      by_cases hqr : q ≤ r
      · exact hqr
      · exfalso
        have h2 : (r + 1) * (2 * s) ≤ q * (2 * s) := Nat.mul_le_mul_right _ (by omega)
        rw [Nat.succ_mul] at h2
        omega
    have h3 : q * (2 * s) ≤ r * (2 * s) := Nat.mul_le_mul_right _ this
    exact Blk.far (by omega)
theorem AllRuns.end {n s : Nat} (h : AllRuns key n s d) (hn : n ≤ s) : Asc key 0 n d := by
  have := (h 0).1
  rw [Nat.zero_mul, show min (0 + s) n = n by omega] at this
  exact this
end Go.Proofs.Ytopngelgpfjdeaa
