/-
  Whether two rules are the same, of the program: two walks, step by step.
-/
import Derived.Test.YtlhjhnjpmafceaaWk6
namespace Go.Proofs.Ytlhjhnjpmafceaa
open Go.ChangeShapes Go.WideShapes Go.ChangeAt Go.RowKit
set_option linter.unusedVariables false
set_option maxRecDepth 100000

def Two (P : TypeId × TypeId) (n : Nat) (w : World) (Ba Bb : Nat) (sta stb : List (List PolD)) (ba bb : BasD) : Prop :=
  ∃ Sa Sb Ta Tb : Nat → Prop, WalkS P w Sa Ta Ba sta ba ∧ WalkS P w Sb Tb Bb stb bb ∧ (∀ k, Ta k → ¬ Tb k) ∧ (∀ k, Sa k → ¬ Tb k) ∧ (∀ k, Sb k → ¬ Ta k) ∧ (∀ k, Ta k → n ≤ k) ∧ (∀ k, Tb k → n ≤ k)
theorem WalkS.tl {P : TypeId × TypeId} {w : World} {S T : Nat → Prop} {B : Nat} {st : List (List PolD)} {b : BasD} (h : WalkS P w S T B st b) : ∀ k, T k → k < w.heap.size := by
  obtain ⟨_, _, _, _, h⟩ := h; exact h.tl
theorem WalkS.sl {P : TypeId × TypeId} {w : World} {S T : Nat → Prop} {B : Nat} {st : List (List PolD)} {b : BasD} (h : WalkS P w S T B st b) : ∀ k, S k → k < w.heap.size := by
  obtain ⟨_, _, _, _, h⟩ := h; exact h.sl
theorem WalkS.here {P : TypeId × TypeId} {w : World} {S T : Nat → Prop} {B : Nat} {st : List (List PolD)} {b : BasD} (h : WalkS P w S T B st b) : InB w B 1 (basC b) := by
  obtain ⟨_, _, _, _, h⟩ := h
  intro i v hv
  rw [Nat.add_comm]
  exact h.cellB (i + 1) v (by simpa using hv)
theorem wpo_load {P : Program} {op : Oper} {a : Act} {w : World} {K : Act → World → Prop} {Q : Exit → Act → World → Prop} (ty : TypeId) (x : Operand) (ho : op.op = .load ty x) (b o : Nat) (hx : a.eval x = .pointer (some ⟨b, o, none⟩)) (cs : List Value) (hh : InB w b o cs) (ht : RowT P ty cs.length)
    (h : K (a.put op.dst (.agg cs.toArray)) w) : Oper.wp P op a w K Q := by
  obtain ⟨d, hu, hd, hi⟩ := ht
  exact wp_load_mid ty x ho b o hx cs d hh hu hd hi h
set_option maxHeartbeats 2000000 in
theorem implSamePol (x0 x1 : PolD) (S0 : Nat → Prop) (c0 : List Value) (S1 : Nat → Prop) (c1 : List Value) (w : World) (h0 : polX w S0 c0 x0) (b0 : polBulk x0 ≤ 1048576) (h1 : polX w S1 c1 x1) (b1 : polBulk x1 ≤ 1048576) :
    Calls Try.prog 17 #[.agg c0.toArray, .agg c1.toArray] w fun e w' => e = .returned (.bool (@decide (x0 = x1) (Classical.propDecidable _))) ∧ Below w.heap.size w w' := by
  have HX := hide (And.intro h0 h1)
  have P0 := (Held.new w c0 29).keep (bnew (w.alloc (.cells c0.toArray 29)) (.cells c1.toArray 29))
  have P1 := Held.new (w.alloc (.cells c0.toArray 29)) c1 29
  have B0 := bthen (bnew w (.cells c0.toArray 29)) (bnew (w.alloc (.cells c0.toArray 29)) (.cells c1.toArray 29))
  have rx0 : RowT Try.prog 29 c0.length := by rw [polX_len h0]; exact rowIPol
  have rx1 : RowT Try.prog 29 c1.length := by rw [polX_len h1]; exact rowIPol
  have hs0 : ((w.alloc (.cells c0.toArray 29)).alloc (.cells c1.toArray 29)).heap.size = w.heap.size + 2 := by simp
  rw [show (w.alloc (.cells c0.toArray 29)).heap.size = w.heap.size + 1 by simp] at P1
  clear h0 h1
  go_enter Try.func17, Try.ntmps17
  go_upto_region 1 with fail
  generalize (w.alloc (.cells c0.toArray 29)).alloc (.cells c1.toArray 29) = w0 at *
  refine wp_region_held_drew (S := fun w' => Below w0.heap.size w0 w') (by kernel_rfl) (Below.drew (Below.refl _ _)) (fun hHeld => ?_)
  refine wpAnyH_take (i := 0) (oi := ?oo1) (v := .agg c0.toArray) ?hi1 (by kernel_rfl) (by kernel_rfl) (by kernel_rfl) ?hQ1 ?hy1 (by assumption) ?rest1
  case hi1 => (simp only [List.getElem?_toArray, List.getElem?_cons_zero]; rfl)
  case hQ1 => exact fun _ _ _ h => h
  case hy1 => exact yld_load (by rfl) _ _ rfl _ 0 rfl c0 (fun w' hS => (P0.keep hS).inB) rx0
  try simp only [Act.put, List.setIfInBounds_toArray, List.set_cons_zero, List.set_cons_succ]
  refine wpAnyH_take (i := 2) (oi := ?oo2) (v := .agg c1.toArray) ?hi2 (by kernel_rfl) (by kernel_rfl) (by kernel_rfl) ?hQ2 ?hy2 (by assumption) ?rest2
  case hi2 => (simp only [List.getElem?_toArray, List.getElem?_cons_zero, List.getElem?_cons_succ]; rfl)
  case hQ2 => exact fun _ _ _ h => h
  case hy2 => exact yld_load (by rfl) _ _ rfl _ 0 rfl c1 (fun w' hS => (P1.keep hS).inB) rx1
  try simp only [Act.put, List.setIfInBounds_toArray, List.set_cons_zero, List.set_cons_succ]
  refine wpAnyH_ready (rs := [1]) (by kernel_rfl) (by simp) ?_
  refine (AllReadyH.cons (o := ?bo3n1) ?bh3n1 (fun K hK => ?br3n1) AllReadyH.nil)
  case bh3n1 => (simp only [List.getElem?_toArray, List.getElem?_cons_zero, List.getElem?_cons_succ]; rfl)
  case br3n1 =>
    go_simp
    have hB1 := bthen B0 hHeld
    have hz1 := hB1.size
    refine (implWalkOf x0 (fun k => S0 k ∧ k < w.heap.size) c0 _ (polX_keeps _ _ _ _ _ _ (Below.turn hB1) none_off (polX_lt (unhide HX).1)) b0 (fun k hk => by have := hk.2; omega)).mono ?_
    rintro e w1 ⟨rfl, hs1, hb1, hw1⟩
    have hH1 := bthen hHeld hb1
    go_wp2_with fail
    refine hK.out _ _ (hH1) (fun hHeld => ?_)
    clear hK
    refine wpAnyH_ready (rs := [3]) (by kernel_rfl) (by simp) ?_
    refine (AllReadyH.cons (o := ?bo4n3) ?bh4n3 (fun K hK => ?br4n3) AllReadyH.nil)
    case bh4n3 => (simp only [List.getElem?_toArray, List.getElem?_cons_zero, List.getElem?_cons_succ]; rfl)
    case br4n3 =>
      go_simp
      have hB2 := bthen B0 hHeld
      have hz2 := hB2.size
      refine (implWalkOf x1 (fun k => S1 k ∧ k < w.heap.size) c1 _ (polX_keeps _ _ _ _ _ _ (Below.turn hB2) none_off (polX_lt (unhide HX).2)) b1 (fun k hk => by have := hk.2; omega)).mono ?_
      rintro e w2 ⟨rfl, hs2, hb2, hw2⟩
      have hH2 := bthen hHeld hb2
      go_wp2_with fail
      refine hK.out _ _ (hH2) (fun hHeld => ?_)
      clear hK
      refine wpAnyH_take (i := 4) (oi := ?oo5) (v := ?vv5) ?hi5 (by kernel_rfl) (by kernel_rfl) (by kernel_rfl) ?hQ5 ?hy5 (by assumption) ?rest5
      case hi5 => (simp only [List.getElem?_toArray, List.getElem?_cons_zero, List.getElem?_cons_succ]; rfl)
      case hQ5 => exact fun _ _ _ h => h
      case hy5 => exact Or.inl ⟨by rfl, by intro wS hSw; (try dsimp only at hSw); go_simp; try first | (with_reducible rfl) | (simp only [*]; done) | omega⟩
      try simp only [Act.put, List.setIfInBounds_toArray, List.set_cons_zero, List.set_cons_succ]
      refine wpAnyH_take (i := 5) (oi := ?oo6) (v := ?vv6) ?hi6 (by kernel_rfl) (by kernel_rfl) (by kernel_rfl) ?hQ6 ?hy6 (by assumption) ?rest6
      case hi6 => (simp only [List.getElem?_toArray, List.getElem?_cons_zero, List.getElem?_cons_succ]; rfl)
      case hQ6 => exact fun _ _ _ h => h
      case hy6 => exact Or.inl ⟨by rfl, by intro wS hSw; (try dsimp only at hSw); go_simp; try first | (with_reducible rfl) | (simp only [*]; done) | omega⟩
      try simp only [Act.put, List.setIfInBounds_toArray, List.set_cons_zero, List.set_cons_succ]
      refine wpAnyH_done (by kernel_rfl) ?_ _
      have w1k := hw1.keep (U := None1) (Below.turn hb2) (fun _ _ e => e) (fun _ _ e => e)
      have z0 : w0.drew.heap.size = w0.heap.size := rfl
      have BF : Below w.heap.size w w2 := bthen B0 (bthen hHeld (Below.refl _ _))
      have HT : Hid (Two (60, 27) w.heap.size w2 (w0.heap.size + 3) (w1.heap.size + 3) [[x0]] [[x1]] basN basN) := hide ⟨_, _, _, _, w1k, hw2, fun k h e => by rw [z0] at h; omega, fun k h e => by rw [z0] at h; rcases h with h | h; (· have := h.2; omega); (· omega), fun k h e => by rw [z0] at e; rcases h with h | h; (· have := h.2; omega); (· omega), fun k h => by rw [z0] at h; omega, fun k h => by omega⟩
      have HSQ : Hid (x0 = x1 ↔ (leftS [[x0]]).map basD = (leftS [[x1]]).map basD) := hide (by simp only [leftS, leftR, polPres, List.map_cons, List.map_nil, List.flatten_cons, List.flatten_nil, List.append_nil]; exact (pre_inj x0 x1).symm)
      have HLN : Hid ((leftS [[x0]]).length = (polPre x0).length) := hide (by simp [leftS, leftR, polPres])
      have e0 : w0.heap.size + 3 = w.heap.size + 2 + 3 := by omega
      have e1 : w1.heap.size + 3 = w.heap.size + 2 + 4 + 3 := by rw [z0] at hs1; omega
      rw [e0, e1] at HT
      clear hHeld hB1 hB2 hw1 hw2 hb1 hb2 hz1 hz2 w1k hH1 P0 P1 rx0 rx1 B0 hH2
      go_wp2
      clear e0 e1 hs0 hs1 z0
      generalize w.heap.size + 2 + 4 + 3 = Bb at *
      generalize w.heap.size + 2 + 3 = Ba at *
      go_loopg [] (polPre x0).length (fun m wr => ∃ (sta stb : List (List PolD)) (ba bb : BasD), (leftS sta).length = m ∧ Hid (x0 = x1 ↔ (leftS sta).map basD = (leftS stb).map basD) ∧ Hid (Two (60, 27) w.heap.size wr Ba Bb sta stb ba bb) ∧ Below w.heap.size w wr)
      case atStart => exact ⟨_, _, _, _, unhide HLN, HSQ, HT, BF⟩
      case round =>
        skip
        obtain ⟨sta, stb, ba, bb, hm, hsq, htw, hbl⟩ := hrel
        obtain ⟨Sa, Sb, Ta, Tb, ha, hb, d1, d2, d3, n1, n2⟩ := unhide htw
        clear HT HSQ HLN BF
        have HM := hide hm
        have hal := ha.tl
        have hbl2 := hb.tl
        have hsb := hb.sl
        have hsa := ha.sl
        cases hla : leftS sta with
        | nil =>
          have HN := hide (implNextEnd ha hla)
          have HD := hide (And.intro d1 (And.intro d2 (And.intro d3 (And.intro n1 (And.intro n2 (And.intro hb (And.intro hal (And.intro hbl2 hsb))))))))
          have HQ : Hid (x0 = x1 ↔ leftS stb = []) := hide (by rw [unhide hsq, hla, List.map_nil]; exact ⟨fun h => List.map_eq_nil_iff.1 h.symm, fun h => by rw [h]; rfl⟩)
          clear ha hb d1 d2 d3 n1 n2 hal hbl2 hsb hsa htw hsq hm hla
          go_wp2_with fail
          refine (unhide HN).mono ?_
          rintro e wn ⟨rfl, ht⟩
          obtain ⟨d1, d2, d3, n1, n2, hb, hal, hbl2, hsb⟩ := unhide HD
          have hbk := hb.keep ht (fun k h e => d1 k e h) (fun k h e => d3 k h e)
          have bn : Below w.heap.size w wn := hbl.trans (ht.belowFrom hbl.size n1)
          have hbs := bn.size
          cases hlb : leftS stb with
          | nil =>
            have HE := hide (implNextEnd hbk hlb)
            have HV : Hid (@decide (x0 = x1) (Classical.propDecidable _) = true) := hide (@decide_eq_true _ (Classical.propDecidable _) ((unhide HQ).2 hlb))
            have HN2 := hide n2
            clear hbk hb d1 d2 d3 n1 n2 hal hbl2 hsb ht HQ hlb hbl HD HN
            go_wp2_with fail
            refine (unhide HE).mono ?_
            rintro e wm ⟨rfl, ht2⟩
            have bm : Below w.heap.size w wm := bn.trans (ht2.belowFrom hbs (unhide HN2))
            go_wp2
            go_ret
            exact ⟨ret_bool (unhide HV).symm, bm⟩
          | cons q rb =>
            have HE := hide (implNextGo hbk hlb)
            have HV : Hid (@decide (x0 = x1) (Classical.propDecidable _) = false) := hide (@decide_eq_false _ (Classical.propDecidable _) (fun e => by have := (unhide HQ).1 e; rw [hlb] at this; cases this))
            have HN2 := hide n2
            clear hbk hb d1 d2 d3 n1 n2 hal hbl2 hsb ht HQ hlb hbl HD HN
            go_wp2_with fail
            refine (unhide HE).mono ?_
            rintro e wm ⟨rfl, ht2, _⟩
            have bm : Below w.heap.size w wm := bn.trans (ht2.belowFrom hbs (unhide HN2))
            go_wp2
            go_ret
            exact ⟨ret_bool (unhide HV).symm, bm⟩
        | cons p ra =>
          have HN := hide (implNextGo ha hla)
          have HBa : Hid (Ba < wr.heap.size) := hide (by obtain ⟨_, _, _, _, h⟩ := ha; exact h.tl Ba h.tB)
          have HTa : Hid (Ta Ba) := hide (by obtain ⟨_, _, _, _, h⟩ := ha; exact h.tB)
          have HD := hide (And.intro d1 (And.intro d2 (And.intro d3 (And.intro n1 (And.intro n2 (And.intro hb (And.intro hal (And.intro hbl2 (And.intro hsb hsa)))))))))
          have HQ : Hid (x0 = x1 ↔ basD p :: ra.map basD = (leftS stb).map basD) := hide (by rw [unhide hsq, hla]; rfl)
          have HWR := hide hbl.size
          have HR : Hid (ra.length + 1 = gk) := hide (by rw [← unhide HM, hla]; rfl)
          clear ha hb d1 d2 d3 n1 n2 hal hbl2 hsb hsa htw hsq hm hla HM
          go_wp2_with fail
          refine (unhide HN).mono ?_
          rintro e wn ⟨rfl, ht, sta2, hl1, hw1⟩
          obtain ⟨d1, d2, d3, n1, n2, hb, hal, hbl2, hsb, hsa⟩ := unhide HD
          have HBK := hide (hb.keep (ht.trans ((Below.turn (Below.drew (Below.refl wn.heap.size wn))).mono (fun _ e => e.elim))) (fun k h e => d1 k e h) (fun k h e => d3 k h e))
          have bn : Below w.heap.size w wn := hbl.trans (ht.belowFrom hbl.size n1)
          have hbs := bn.size
          have hts := ht.size
          have HnBa : Hid (¬ Tb Ba) := hide (d1 Ba (unhide HTa))
          replace HBa : Hid (Ba < wn.heap.size) := hide (Nat.lt_of_lt_of_le (unhide HBa) ht.size)
          have hX : InB wn Ba 1 (basC (basD p)) := hw1.here
          have HW1 := hide hw1
          have HL1 := hide hl1
          have HN2 := hide n2
          clear hw1 hl1 hb d1 d2 d3 n1 n2 hal hbl2 hsb hsa ht hbl HN
          cases hlb : leftS stb with
          | nil =>
            have HLB := hide hlb
            have HV : Hid (@decide (x0 = x1) (Classical.propDecidable _) = false) := hide (@decide_eq_false _ (Classical.propDecidable _) (fun e => by have := (unhide HQ).1 e; rw [hlb] at this; cases this))
            clear hlb HQ
            go_upto_region 3 with fail
            refine wp_region_held_drew (S := fun _ => True) (by kernel_rfl) trivial (fun hHeld => ?_)
            refine wpAnyH_take (i := 0) (oi := ?oo7) (v := ?vv7) ?hi7 (by kernel_rfl) (by kernel_rfl) (by kernel_rfl) ?hQ7 ?hy7 (by assumption) ?rest7
            case hi7 => (simp only [List.getElem?_toArray, List.getElem?_cons_zero]; rfl)
            case hQ7 => exact fun _ _ _ h => h
            case hy7 => exact Or.inl ⟨by rfl, by intro wS hSw; (try dsimp only at hSw); go_simp; try first | (with_reducible rfl) | (simp only [*]; done) | omega⟩
            try simp only [Act.put, List.setIfInBounds_toArray, List.set_cons_zero, List.set_cons_succ]
            refine wpAnyH_ready (rs := [1]) (by kernel_rfl) (by simp) ?_
            refine (AllReadyH.cons (o := ?bo8n1) ?bh8n1 (fun K hK => ?br8n1) AllReadyH.nil)
            case bh8n1 => (simp only [List.getElem?_toArray, List.getElem?_cons_zero, List.getElem?_cons_succ]; rfl)
            case br8n1 =>
              go_simp
              refine (implNextEnd (unhide HBK) (unhide HLB)).mono ?_
              rintro e wm ⟨rfl, ht2⟩
              go_wp2_with fail
              refine hK.out _ _ (trivial) (fun hHeld => ?_)
              clear hK
              refine wpAnyH_take (i := 2) (oi := ?oo9) (v := ?vv9) ?hi9 (by kernel_rfl) (by kernel_rfl) (by kernel_rfl) ?hQ9 ?hy9 (by assumption) ?rest9
              case hi9 => (simp only [List.getElem?_toArray, List.getElem?_cons_zero, List.getElem?_cons_succ]; rfl)
              case hQ9 => exact fun _ _ _ h => h
              case hy9 => exact Or.inl ⟨by rfl, by intro wS hSw; (try dsimp only at hSw); go_simp; try first | (with_reducible rfl) | (simp only [*]; done) | omega⟩
              try simp only [Act.put, List.setIfInBounds_toArray, List.set_cons_zero, List.set_cons_succ]
              refine wpAnyH_take (i := 3) (oi := ?oo10) (v := ?vv10) ?hi10 (by kernel_rfl) (by kernel_rfl) (by kernel_rfl) ?hQ10 ?hy10 (by assumption) ?rest10
              case hi10 => (simp only [List.getElem?_toArray, List.getElem?_cons_zero, List.getElem?_cons_succ]; rfl)
              case hQ10 => exact fun _ _ _ h => h
              case hy10 => exact Or.inl ⟨by rfl, by intro wS hSw; (try dsimp only at hSw); go_simp; try first | (with_reducible rfl) | (simp only [*]; done) | omega⟩
              try simp only [Act.put, List.setIfInBounds_toArray, List.set_cons_zero, List.set_cons_succ]
              refine wpAnyH_take (i := 4) (oi := ?oo11) (v := undef) ?hi11 (by kernel_rfl) (by kernel_rfl) (by kernel_rfl) ?hQ11 ?hy11 (by assumption) ?rest11
              case hi11 => (simp only [List.getElem?_toArray, List.getElem?_cons_zero, List.getElem?_cons_succ]; rfl)
              case hQ11 => exact fun _ _ _ h => h
              case hy11 => exact Or.inr ⟨by rfl, rfl⟩
              try simp only [Act.put, List.setIfInBounds_toArray, List.set_cons_zero, List.set_cons_succ]
              refine wpAnyH_take (i := 5) (oi := ?oo12) (v := undef) ?hi12 (by kernel_rfl) (by kernel_rfl) (by kernel_rfl) ?hQ12 ?hy12 (by assumption) ?rest12
              case hi12 => (simp only [List.getElem?_toArray, List.getElem?_cons_zero, List.getElem?_cons_succ]; rfl)
              case hQ12 => exact fun _ _ _ h => h
              case hy12 => exact Or.inr ⟨by rfl, rfl⟩
              try simp only [Act.put, List.setIfInBounds_toArray, List.set_cons_zero, List.set_cons_succ]
              refine wpAnyH_take (i := 6) (oi := ?oo13) (v := undef) ?hi13 (by kernel_rfl) (by kernel_rfl) (by kernel_rfl) ?hQ13 ?hy13 (by assumption) ?rest13
              case hi13 => (simp only [List.getElem?_toArray, List.getElem?_cons_zero, List.getElem?_cons_succ]; rfl)
              case hQ13 => exact fun _ _ _ h => h
              case hy13 => exact Or.inr ⟨by rfl, rfl⟩
              try simp only [Act.put, List.setIfInBounds_toArray, List.set_cons_zero, List.set_cons_succ]
              refine wpAnyH_take (i := 7) (oi := ?oo14) (v := undef) ?hi14 (by kernel_rfl) (by kernel_rfl) (by kernel_rfl) ?hQ14 ?hy14 (by assumption) ?rest14
              case hi14 => (simp only [List.getElem?_toArray, List.getElem?_cons_zero, List.getElem?_cons_succ]; rfl)
              case hQ14 => exact fun _ _ _ h => h
              case hy14 => exact Or.inr ⟨by rfl, rfl⟩
              try simp only [Act.put, List.setIfInBounds_toArray, List.set_cons_zero, List.set_cons_succ]
              refine wpAnyH_take (i := 8) (oi := ?oo15) (v := undef) ?hi15 (by kernel_rfl) (by kernel_rfl) (by kernel_rfl) ?hQ15 ?hy15 (by assumption) ?rest15
              case hi15 => (simp only [List.getElem?_toArray, List.getElem?_cons_zero, List.getElem?_cons_succ]; rfl)
              case hQ15 => exact fun _ _ _ h => h
              case hy15 => exact Or.inr ⟨by rfl, rfl⟩
              try simp only [Act.put, List.setIfInBounds_toArray, List.set_cons_zero, List.set_cons_succ]
              refine wpAnyH_take (i := 9) (oi := ?oo16) (v := undef) ?hi16 (by kernel_rfl) (by kernel_rfl) (by kernel_rfl) ?hQ16 ?hy16 (by assumption) ?rest16
              case hi16 => (simp only [List.getElem?_toArray, List.getElem?_cons_zero, List.getElem?_cons_succ]; rfl)
              case hQ16 => exact fun _ _ _ h => h
              case hy16 => exact Or.inr ⟨by rfl, rfl⟩
              try simp only [Act.put, List.setIfInBounds_toArray, List.set_cons_zero, List.set_cons_succ]
              refine wpAnyH_take (i := 10) (oi := ?oo17) (v := undef) ?hi17 (by kernel_rfl) (by kernel_rfl) (by kernel_rfl) ?hQ17 ?hy17 (by assumption) ?rest17
              case hi17 => (simp only [List.getElem?_toArray, List.getElem?_cons_zero, List.getElem?_cons_succ]; rfl)
              case hQ17 => exact fun _ _ _ h => h
              case hy17 => exact Or.inr ⟨by rfl, rfl⟩
              try simp only [Act.put, List.setIfInBounds_toArray, List.set_cons_zero, List.set_cons_succ]
              refine wpAnyH_take (i := 11) (oi := ?oo18) (v := undef) ?hi18 (by kernel_rfl) (by kernel_rfl) (by kernel_rfl) ?hQ18 ?hy18 (by assumption) ?rest18
              case hi18 => (simp only [List.getElem?_toArray, List.getElem?_cons_zero, List.getElem?_cons_succ]; rfl)
              case hQ18 => exact fun _ _ _ h => h
              case hy18 => exact Or.inr ⟨by rfl, rfl⟩
              try simp only [Act.put, List.setIfInBounds_toArray, List.set_cons_zero, List.set_cons_succ]
              refine wpAnyH_take (i := 12) (oi := ?oo19) (v := undef) ?hi19 (by kernel_rfl) (by kernel_rfl) (by kernel_rfl) ?hQ19 ?hy19 (by assumption) ?rest19
              case hi19 => (simp only [List.getElem?_toArray, List.getElem?_cons_zero, List.getElem?_cons_succ]; rfl)
              case hQ19 => exact fun _ _ _ h => h
              case hy19 => exact Or.inr ⟨by rfl, rfl⟩
              try simp only [Act.put, List.setIfInBounds_toArray, List.set_cons_zero, List.set_cons_succ]
              refine wpAnyH_take (i := 13) (oi := ?oo20) (v := ?vv20) ?hi20 (by kernel_rfl) (by kernel_rfl) (by kernel_rfl) ?hQ20 ?hy20 (by assumption) ?rest20
              case hi20 => (simp only [List.getElem?_toArray, List.getElem?_cons_zero, List.getElem?_cons_succ]; rfl)
              case hQ20 => exact fun _ _ _ h => h
              case hy20 => exact Or.inl ⟨by rfl, by intro wS hSw; (try dsimp only at hSw); go_simp; try first | (with_reducible rfl) | (simp only [*]; done) | omega⟩
              try simp only [Act.put, List.setIfInBounds_toArray, List.set_cons_zero, List.set_cons_succ]
              refine wpAnyH_done (by kernel_rfl) ?_ _
              have bm : Below w.heap.size w wm := bn.trans ((Below.drew (Below.refl _ _)).trans (ht2.belowFrom hbs (unhide HN2)))
              go_wp2
              go_ret
              exact ⟨ret_bool (unhide HV).symm, bm⟩
          | cons q rb =>
            have HLB := hide hlb
            have HQ2 : Hid (x0 = x1 ↔ basD p = basD q ∧ ra.map basD = rb.map basD) := hide (by rw [unhide HQ, hlb]; simp)
            clear hlb HQ
            by_cases hq : basD p = basD q
            · have heq : ∀ w, (Op.equalIn 10000 57 (.agg (basC (basD p)).toArray) (.agg (basC (basD q)).toArray)).run Try.prog w = .ok true w := fun w => by rw [eqBas, (basB_iff _ _).2 hq]
              have HV : Hid (x0 = x1 ↔ ra.map basD = rb.map basD) := hide (by rw [unhide HQ2]; exact ⟨fun h => h.2, fun h => ⟨hq, h⟩⟩)
              clear HQ2 hq
              go_upto_region 3 with fail
              refine wp_region_held_drew (S := fun w' => InB w' Ba 1 (basC (basD p))) (by kernel_rfl) hX (fun hHeld => ?_)
              refine wpAnyH_take (i := 0) (oi := ?oo21) (v := ?vv21) ?hi21 (by kernel_rfl) (by kernel_rfl) (by kernel_rfl) ?hQ21 ?hy21 (by assumption) ?rest21
              case hi21 => (simp only [List.getElem?_toArray, List.getElem?_cons_zero]; rfl)
              case hQ21 => exact fun _ _ _ h => h
              case hy21 => exact Or.inl ⟨by rfl, by intro wS hSw; (try dsimp only at hSw); go_simp; try first | (with_reducible rfl) | (simp only [*]; done) | omega⟩
              try simp only [Act.put, List.setIfInBounds_toArray, List.set_cons_zero, List.set_cons_succ]
              refine wpAnyH_ready (rs := [1]) (by kernel_rfl) (by simp) ?_
              refine (AllReadyH.cons (o := ?bo22n1) ?bh22n1 (fun K hK => ?br22n1) AllReadyH.nil)
              case bh22n1 => (simp only [List.getElem?_toArray, List.getElem?_cons_zero, List.getElem?_cons_succ]; rfl)
              case br22n1 =>
                go_simp
                refine (implNextGo ((unhide HBK)) (unhide HLB)).mono ?_
                rintro e wm ⟨rfl, ht2, stb2, hl2, hw2⟩
                have hXm : InB wm Ba 1 (basC (basD p)) := hHeld.turn (unhide HBa) ht2 (unhide HnBa)
                have hYm := hw2.here
                have HW2 := hide hw2
                clear hw2
                go_wp2_with fail
                refine hK.out _ _ (hXm) (fun hHeld => ?_)
                clear hK
                refine wpAnyH_take (i := 2) (oi := ?oo23) (v := ?vv23) ?hi23 (by kernel_rfl) (by kernel_rfl) (by kernel_rfl) ?hQ23 ?hy23 (by assumption) ?rest23
                case hi23 => (simp only [List.getElem?_toArray, List.getElem?_cons_zero, List.getElem?_cons_succ]; rfl)
                case hQ23 => exact fun _ _ _ h => h
                case hy23 => exact Or.inl ⟨by rfl, by intro wS hSw; (try dsimp only at hSw); go_simp; try first | (with_reducible rfl) | (simp only [*]; done) | omega⟩
                try simp only [Act.put, List.setIfInBounds_toArray, List.set_cons_zero, List.set_cons_succ]
                refine wpAnyH_take (i := 3) (oi := ?oo24) (v := ?vv24) ?hi24 (by kernel_rfl) (by kernel_rfl) (by kernel_rfl) ?hQ24 ?hy24 (by assumption) ?rest24
                case hi24 => (simp only [List.getElem?_toArray, List.getElem?_cons_zero, List.getElem?_cons_succ]; rfl)
                case hQ24 => exact fun _ _ _ h => h
                case hy24 => exact Or.inl ⟨by rfl, by intro wS hSw; (try dsimp only at hSw); go_simp; try first | (with_reducible rfl) | (simp only [*]; done) | omega⟩
                try simp only [Act.put, List.setIfInBounds_toArray, List.set_cons_zero, List.set_cons_succ]
                refine wpAnyH_take (i := 4) (oi := ?oo25) (v := ?vv25) ?hi25 (by kernel_rfl) (by kernel_rfl) (by kernel_rfl) ?hQ25 ?hy25 (by assumption) ?rest25
                case hi25 => (simp only [List.getElem?_toArray, List.getElem?_cons_zero, List.getElem?_cons_succ]; rfl)
                case hQ25 => exact fun _ _ _ h => h
                case hy25 => exact Or.inl ⟨by rfl, by intro wS hSw; (try dsimp only at hSw); go_simp; try first | (with_reducible rfl) | (simp only [*]; done) | omega⟩
                try simp only [Act.put, List.setIfInBounds_toArray, List.set_cons_zero, List.set_cons_succ]
                refine wpAnyH_take (i := 5) (oi := ?oo26) (v := ?vv26) ?hi26 (by kernel_rfl) (by kernel_rfl) (by kernel_rfl) ?hQ26 ?hy26 (by assumption) ?rest26
                case hi26 => (simp only [List.getElem?_toArray, List.getElem?_cons_zero, List.getElem?_cons_succ]; rfl)
                case hQ26 => exact fun _ _ _ h => h
                case hy26 => exact Or.inl ⟨by rfl, by intro wS hSw; (try dsimp only at hSw); go_simp; try first | (with_reducible rfl) | (simp only [*]; done) | omega⟩
                try simp only [Act.put, List.setIfInBounds_toArray, List.set_cons_zero, List.set_cons_succ]
                refine wpAnyH_take (i := 6) (oi := ?oo27) (v := ?vv27) ?hi27 (by kernel_rfl) (by kernel_rfl) (by kernel_rfl) ?hQ27 ?hy27 (by assumption) ?rest27
                case hi27 => (simp only [List.getElem?_toArray, List.getElem?_cons_zero, List.getElem?_cons_succ]; rfl)
                case hQ27 => exact fun _ _ _ h => h
                case hy27 => exact Or.inl ⟨by rfl, by intro wS hSw; (try dsimp only at hSw); go_simp; try first | (with_reducible rfl) | (simp only [*]; done) | omega⟩
                try simp only [Act.put, List.setIfInBounds_toArray, List.set_cons_zero, List.set_cons_succ]
                refine wpAnyH_take (i := 7) (oi := ?oo28) (v := .agg (basC (basD p)).toArray) ?hi28 (by kernel_rfl) (by kernel_rfl) (by kernel_rfl) ?hQ28 ?hy28 (by assumption) ?rest28
                case hi28 => (simp only [List.getElem?_toArray, List.getElem?_cons_zero, List.getElem?_cons_succ]; rfl)
                case hQ28 => exact fun _ _ _ h => h
                case hy28 => exact yld_load (by rfl) _ _ rfl _ 1 rfl (basC (basD p)) (fun w' hS => hS) rowIBasic
                try simp only [Act.put, List.setIfInBounds_toArray, List.set_cons_zero, List.set_cons_succ]
                refine wpAnyH_take (i := 8) (oi := ?oo29) (v := ?vv29) ?hi29 (by kernel_rfl) (by kernel_rfl) (by kernel_rfl) ?hQ29 ?hy29 (by assumption) ?rest29
                case hi29 => (simp only [List.getElem?_toArray, List.getElem?_cons_zero, List.getElem?_cons_succ]; rfl)
                case hQ29 => exact fun _ _ _ h => h
                case hy29 => exact Or.inl ⟨by rfl, by intro wS hSw; (try dsimp only at hSw); go_simp; try first | (with_reducible rfl) | (simp only [*]; done) | omega⟩
                try simp only [Act.put, List.setIfInBounds_toArray, List.set_cons_zero, List.set_cons_succ]
                refine wpAnyH_take (i := 9) (oi := ?oo30) (v := ?vv30) ?hi30 (by kernel_rfl) (by kernel_rfl) (by kernel_rfl) ?hQ30 ?hy30 (by assumption) ?rest30
                case hi30 => (simp only [List.getElem?_toArray, List.getElem?_cons_zero, List.getElem?_cons_succ]; rfl)
                case hQ30 => exact fun _ _ _ h => h
                case hy30 => exact Or.inl ⟨by rfl, by intro wS hSw; (try dsimp only at hSw); go_simp; try first | (with_reducible rfl) | (simp only [*]; done) | omega⟩
                try simp only [Act.put, List.setIfInBounds_toArray, List.set_cons_zero, List.set_cons_succ]
                refine wpAnyH_take (i := 10) (oi := ?oo31) (v := ?vv31) ?hi31 (by kernel_rfl) (by kernel_rfl) (by kernel_rfl) ?hQ31 ?hy31 (by assumption) ?rest31
                case hi31 => (simp only [List.getElem?_toArray, List.getElem?_cons_zero, List.getElem?_cons_succ]; rfl)
                case hQ31 => exact fun _ _ _ h => h
                case hy31 => exact Or.inl ⟨by rfl, by intro wS hSw; (try dsimp only at hSw); go_simp; try first | (with_reducible rfl) | (simp only [*]; done) | omega⟩
                try simp only [Act.put, List.setIfInBounds_toArray, List.set_cons_zero, List.set_cons_succ]
                refine wpAnyH_ready (rs := [11]) (by kernel_rfl) (by simp) ?_
                refine (AllReadyH.cons (o := ?bo32n11) ?bh32n11 (fun K hK => ?br32n11) AllReadyH.nil)
                case bh32n11 => (simp only [List.getElem?_toArray, List.getElem?_cons_zero, List.getElem?_cons_succ]; rfl)
                case br32n11 =>
                  rw [if_pos (by rfl)]
                  refine wpo_load 57 _ (by rfl) Bb 1 (by rfl) (basC (basD q)) hYm rowIBasic ?_
                  refine hK.out _ _ (hHeld) (fun hHeld => ?_)
                  clear hK
                  refine wpAnyH_take (i := 12) (oi := ?oo33) (v := ?vv33) ?hi33 (by kernel_rfl) (by kernel_rfl) (by kernel_rfl) ?hQ33 ?hy33 (by assumption) ?rest33
                  case hi33 => (simp only [List.getElem?_toArray, List.getElem?_cons_zero, List.getElem?_cons_succ]; rfl)
                  case hQ33 => exact fun _ _ _ h => h
                  case hy33 => exact Or.inl ⟨by rfl, by intro wS hSw; (try dsimp only at hSw); go_simp; try first | (with_reducible rfl) | (simp only [*]; done) | omega⟩
                  try simp only [Act.put, List.setIfInBounds_toArray, List.set_cons_zero, List.set_cons_succ]
                  refine wpAnyH_take (i := 13) (oi := ?oo34) (v := ?vv34) ?hi34 (by kernel_rfl) (by kernel_rfl) (by kernel_rfl) ?hQ34 ?hy34 (by assumption) ?rest34
                  case hi34 => (simp only [List.getElem?_toArray, List.getElem?_cons_zero, List.getElem?_cons_succ]; rfl)
                  case hQ34 => exact fun _ _ _ h => h
                  case hy34 => exact Or.inl ⟨by rfl, by intro wS hSw; (try dsimp only at hSw); go_simp; try first | (with_reducible rfl) | (simp only [*]; done) | omega⟩
                  try simp only [Act.put, List.setIfInBounds_toArray, List.set_cons_zero, List.set_cons_succ]
                  refine wpAnyH_done (by kernel_rfl) ?_ _
                  have bm : Below w.heap.size w wm := bn.trans ((Below.drew (Below.refl _ _)).trans (ht2.belowFrom hbs (unhide HN2)))
                  obtain ⟨d1, d2, d3, n1, n2, hb, hal, hbl2, hsb, hsa⟩ := unhide HD
                  have ht2s := ht2.size
                  have hds : wn.drew.heap.size = wn.heap.size := rfl
                  have HTW : Hid (Two (60, 27) w.heap.size wm Ba Bb sta2 stb2 (basD p) (basD q)) := by
                    rw [hds] at ht2s
                    have htd : Turn Tb wn wm := ((Below.turn (Below.drew (Below.refl wn.heap.size wn))).mono (fun _ e => e.elim)).trans ht2
                    refine hide ⟨_, _, _, _, (unhide HW1).keep htd (fun k h e => h.elim (fun h => d1 k h e) (fun h => by have := hbl2 k e; omega)) (fun k h e => d2 k h e), unhide HW2, ?_, ?_, ?_, ?_, ?_⟩
                    · exact fun k h e => h.elim (fun h => e.elim (fun e => d1 k h e) (fun e => by have := hal k h; have := e.1; omega)) (fun h => e.elim (fun e => by have := hbl2 k e; omega) (fun e => by have := h.2; have := e.1; omega))
                    · exact fun k h e => e.elim (fun e => d2 k h e) (fun e => by have := hsa k h; have := e.1; omega)
                    · exact fun k h e => e.elim (fun e => d3 k h e) (fun e => by have := hsb k h; omega)
                    · exact fun k h => h.elim (n1 k) (fun h => by have := h.1; have := (unhide HWR); omega)
                    · exact fun k h => h.elim (n2 k) (fun h => by have := h.1; omega)
                  clear d1 d2 d3 n1 n2 hb hal hbl2 hsb hsa ht2
                  go_wp2
                  go_roundg ra.length
                  case measure => have := unhide HR; omega
                  case rel => exact ⟨sta2, stb2, basD p, basD q, by rw [unhide HL1], hide (by rw [unhide HL1, hl2]; exact unhide HV), HTW, bm⟩
            · have heq : ∀ w, (Op.equalIn 10000 57 (.agg (basC (basD p)).toArray) (.agg (basC (basD q)).toArray)).run Try.prog w = .ok false w := fun w => by rw [eqBas, Bool.eq_false_iff.2 (fun e => hq ((basB_iff _ _).1 e))]
              have HV : Hid (@decide (x0 = x1) (Classical.propDecidable _) = false) := hide (@decide_eq_false _ (Classical.propDecidable _) (fun e => hq ((unhide HQ2).1 e).1))
              clear HQ2 hq
              go_upto_region 3 with fail
              refine wp_region_held_drew (S := fun w' => InB w' Ba 1 (basC (basD p))) (by kernel_rfl) hX (fun hHeld => ?_)
              refine wpAnyH_take (i := 0) (oi := ?oo35) (v := ?vv35) ?hi35 (by kernel_rfl) (by kernel_rfl) (by kernel_rfl) ?hQ35 ?hy35 (by assumption) ?rest35
              case hi35 => (simp only [List.getElem?_toArray, List.getElem?_cons_zero]; rfl)
              case hQ35 => exact fun _ _ _ h => h
              case hy35 => exact Or.inl ⟨by rfl, by intro wS hSw; (try dsimp only at hSw); go_simp; try first | (with_reducible rfl) | (simp only [*]; done) | omega⟩
              try simp only [Act.put, List.setIfInBounds_toArray, List.set_cons_zero, List.set_cons_succ]
              refine wpAnyH_ready (rs := [1]) (by kernel_rfl) (by simp) ?_
              refine (AllReadyH.cons (o := ?bo36n1) ?bh36n1 (fun K hK => ?br36n1) AllReadyH.nil)
              case bh36n1 => (simp only [List.getElem?_toArray, List.getElem?_cons_zero, List.getElem?_cons_succ]; rfl)
              case br36n1 =>
                go_simp
                refine (implNextGo ((unhide HBK)) (unhide HLB)).mono ?_
                rintro e wm ⟨rfl, ht2, stb2, hl2, hw2⟩
                have hXm : InB wm Ba 1 (basC (basD p)) := hHeld.turn (unhide HBa) ht2 (unhide HnBa)
                have hYm := hw2.here
                have HW2 := hide hw2
                clear hw2
                go_wp2_with fail
                refine hK.out _ _ (hXm) (fun hHeld => ?_)
                clear hK
                refine wpAnyH_take (i := 2) (oi := ?oo37) (v := ?vv37) ?hi37 (by kernel_rfl) (by kernel_rfl) (by kernel_rfl) ?hQ37 ?hy37 (by assumption) ?rest37
                case hi37 => (simp only [List.getElem?_toArray, List.getElem?_cons_zero, List.getElem?_cons_succ]; rfl)
                case hQ37 => exact fun _ _ _ h => h
                case hy37 => exact Or.inl ⟨by rfl, by intro wS hSw; (try dsimp only at hSw); go_simp; try first | (with_reducible rfl) | (simp only [*]; done) | omega⟩
                try simp only [Act.put, List.setIfInBounds_toArray, List.set_cons_zero, List.set_cons_succ]
                refine wpAnyH_take (i := 3) (oi := ?oo38) (v := ?vv38) ?hi38 (by kernel_rfl) (by kernel_rfl) (by kernel_rfl) ?hQ38 ?hy38 (by assumption) ?rest38
                case hi38 => (simp only [List.getElem?_toArray, List.getElem?_cons_zero, List.getElem?_cons_succ]; rfl)
                case hQ38 => exact fun _ _ _ h => h
                case hy38 => exact Or.inl ⟨by rfl, by intro wS hSw; (try dsimp only at hSw); go_simp; try first | (with_reducible rfl) | (simp only [*]; done) | omega⟩
                try simp only [Act.put, List.setIfInBounds_toArray, List.set_cons_zero, List.set_cons_succ]
                refine wpAnyH_take (i := 4) (oi := ?oo39) (v := ?vv39) ?hi39 (by kernel_rfl) (by kernel_rfl) (by kernel_rfl) ?hQ39 ?hy39 (by assumption) ?rest39
                case hi39 => (simp only [List.getElem?_toArray, List.getElem?_cons_zero, List.getElem?_cons_succ]; rfl)
                case hQ39 => exact fun _ _ _ h => h
                case hy39 => exact Or.inl ⟨by rfl, by intro wS hSw; (try dsimp only at hSw); go_simp; try first | (with_reducible rfl) | (simp only [*]; done) | omega⟩
                try simp only [Act.put, List.setIfInBounds_toArray, List.set_cons_zero, List.set_cons_succ]
                refine wpAnyH_take (i := 5) (oi := ?oo40) (v := ?vv40) ?hi40 (by kernel_rfl) (by kernel_rfl) (by kernel_rfl) ?hQ40 ?hy40 (by assumption) ?rest40
                case hi40 => (simp only [List.getElem?_toArray, List.getElem?_cons_zero, List.getElem?_cons_succ]; rfl)
                case hQ40 => exact fun _ _ _ h => h
                case hy40 => exact Or.inl ⟨by rfl, by intro wS hSw; (try dsimp only at hSw); go_simp; try first | (with_reducible rfl) | (simp only [*]; done) | omega⟩
                try simp only [Act.put, List.setIfInBounds_toArray, List.set_cons_zero, List.set_cons_succ]
                refine wpAnyH_take (i := 6) (oi := ?oo41) (v := ?vv41) ?hi41 (by kernel_rfl) (by kernel_rfl) (by kernel_rfl) ?hQ41 ?hy41 (by assumption) ?rest41
                case hi41 => (simp only [List.getElem?_toArray, List.getElem?_cons_zero, List.getElem?_cons_succ]; rfl)
                case hQ41 => exact fun _ _ _ h => h
                case hy41 => exact Or.inl ⟨by rfl, by intro wS hSw; (try dsimp only at hSw); go_simp; try first | (with_reducible rfl) | (simp only [*]; done) | omega⟩
                try simp only [Act.put, List.setIfInBounds_toArray, List.set_cons_zero, List.set_cons_succ]
                refine wpAnyH_take (i := 7) (oi := ?oo42) (v := .agg (basC (basD p)).toArray) ?hi42 (by kernel_rfl) (by kernel_rfl) (by kernel_rfl) ?hQ42 ?hy42 (by assumption) ?rest42
                case hi42 => (simp only [List.getElem?_toArray, List.getElem?_cons_zero, List.getElem?_cons_succ]; rfl)
                case hQ42 => exact fun _ _ _ h => h
                case hy42 => exact yld_load (by rfl) _ _ rfl _ 1 rfl (basC (basD p)) (fun w' hS => hS) rowIBasic
                try simp only [Act.put, List.setIfInBounds_toArray, List.set_cons_zero, List.set_cons_succ]
                refine wpAnyH_take (i := 8) (oi := ?oo43) (v := ?vv43) ?hi43 (by kernel_rfl) (by kernel_rfl) (by kernel_rfl) ?hQ43 ?hy43 (by assumption) ?rest43
                case hi43 => (simp only [List.getElem?_toArray, List.getElem?_cons_zero, List.getElem?_cons_succ]; rfl)
                case hQ43 => exact fun _ _ _ h => h
                case hy43 => exact Or.inl ⟨by rfl, by intro wS hSw; (try dsimp only at hSw); go_simp; try first | (with_reducible rfl) | (simp only [*]; done) | omega⟩
                try simp only [Act.put, List.setIfInBounds_toArray, List.set_cons_zero, List.set_cons_succ]
                refine wpAnyH_take (i := 9) (oi := ?oo44) (v := ?vv44) ?hi44 (by kernel_rfl) (by kernel_rfl) (by kernel_rfl) ?hQ44 ?hy44 (by assumption) ?rest44
                case hi44 => (simp only [List.getElem?_toArray, List.getElem?_cons_zero, List.getElem?_cons_succ]; rfl)
                case hQ44 => exact fun _ _ _ h => h
                case hy44 => exact Or.inl ⟨by rfl, by intro wS hSw; (try dsimp only at hSw); go_simp; try first | (with_reducible rfl) | (simp only [*]; done) | omega⟩
                try simp only [Act.put, List.setIfInBounds_toArray, List.set_cons_zero, List.set_cons_succ]
                refine wpAnyH_take (i := 10) (oi := ?oo45) (v := ?vv45) ?hi45 (by kernel_rfl) (by kernel_rfl) (by kernel_rfl) ?hQ45 ?hy45 (by assumption) ?rest45
                case hi45 => (simp only [List.getElem?_toArray, List.getElem?_cons_zero, List.getElem?_cons_succ]; rfl)
                case hQ45 => exact fun _ _ _ h => h
                case hy45 => exact Or.inl ⟨by rfl, by intro wS hSw; (try dsimp only at hSw); go_simp; try first | (with_reducible rfl) | (simp only [*]; done) | omega⟩
                try simp only [Act.put, List.setIfInBounds_toArray, List.set_cons_zero, List.set_cons_succ]
                refine wpAnyH_ready (rs := [11]) (by kernel_rfl) (by simp) ?_
                refine (AllReadyH.cons (o := ?bo46n11) ?bh46n11 (fun K hK => ?br46n11) AllReadyH.nil)
                case bh46n11 => (simp only [List.getElem?_toArray, List.getElem?_cons_zero, List.getElem?_cons_succ]; rfl)
                case br46n11 =>
                  rw [if_pos (by rfl)]
                  refine wpo_load 57 _ (by rfl) Bb 1 (by rfl) (basC (basD q)) hYm rowIBasic ?_
                  refine hK.out _ _ (hHeld) (fun hHeld => ?_)
                  clear hK
                  refine wpAnyH_take (i := 12) (oi := ?oo47) (v := ?vv47) ?hi47 (by kernel_rfl) (by kernel_rfl) (by kernel_rfl) ?hQ47 ?hy47 (by assumption) ?rest47
                  case hi47 => (simp only [List.getElem?_toArray, List.getElem?_cons_zero, List.getElem?_cons_succ]; rfl)
                  case hQ47 => exact fun _ _ _ h => h
                  case hy47 => exact Or.inl ⟨by rfl, by intro wS hSw; (try dsimp only at hSw); go_simp; try first | (with_reducible rfl) | (simp only [*]; done) | omega⟩
                  try simp only [Act.put, List.setIfInBounds_toArray, List.set_cons_zero, List.set_cons_succ]
                  refine wpAnyH_take (i := 13) (oi := ?oo48) (v := ?vv48) ?hi48 (by kernel_rfl) (by kernel_rfl) (by kernel_rfl) ?hQ48 ?hy48 (by assumption) ?rest48
                  case hi48 => (simp only [List.getElem?_toArray, List.getElem?_cons_zero, List.getElem?_cons_succ]; rfl)
                  case hQ48 => exact fun _ _ _ h => h
                  case hy48 => exact Or.inl ⟨by rfl, by intro wS hSw; (try dsimp only at hSw); go_simp; try first | (with_reducible rfl) | (simp only [*]; done) | omega⟩
                  try simp only [Act.put, List.setIfInBounds_toArray, List.set_cons_zero, List.set_cons_succ]
                  refine wpAnyH_done (by kernel_rfl) ?_ _
                  have bm : Below w.heap.size w wm := bn.trans ((Below.drew (Below.refl _ _)).trans (ht2.belowFrom hbs (unhide HN2)))
                  go_wp2
                  go_ret
                  exact ⟨ret_bool (unhide HV).symm, bm⟩
end Go.Proofs.Ytlhjhnjpmafceaa
