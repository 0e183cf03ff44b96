/-
  Whether two rules are the same, of the specification.
-/
import Derived.Test.YtlhjhnjpmafceaaWk8
import Derived.Deep.CutRange
import Derived.Deep.RegionHeld3
namespace Go.Proofs.Ytlhjhnjpmafceaa
open Go.ChangeShapes Go.WideShapes Go.ChangeAt Go.RowKit
set_option linter.unusedVariables false
set_option maxRecDepth 100000

theorem plainPolS : PlainT Try.prog 27 := fun w a v h => by simp [loadVar, go_sem, h]
theorem bytes_neq {a b : ByteArray} (h : ¬ a = b) : ¬ a.toList = b.toList := fun e => h (ByteArray.ext (Array.toList_inj.mp (by rw [ByteArray.toList_eq, ByteArray.toList_eq] at e; exact e)))
def SamP (d : Nat) : Prop := ∀ (x y : PolD) (S0 : Nat → Prop) (c0 : List Value) (S1 : Nat → Prop) (c1 : List Value) (w : World), polRd d w S0 c0 x → polRd d w S1 c1 y →
    Calls Try.prog 16 #[.agg c0.toArray, .agg c1.toArray] w fun e w' => e = .returned (.bool (@decide (x = y) (Classical.propDecidable _))) ∧ Below w.heap.size w w'
set_option maxHeartbeats 2000000 in
theorem dSamP (d : Nat) (ih : SamP d) : SamP (d + 1) := by
  intro x y S0 c0 S1 c1 w h0 h1
  obtain ⟨xkind, xn, xkey, xtext, xl⟩ := x
  obtain ⟨ykind, yn, ykey, ytext, yl⟩ := y
  obtain ⟨s0, rfl, q0, q1, g0⟩ := h0
  obtain ⟨a0, k0, rfl⟩ := g0.form
  obtain ⟨s1, rfl, q2, q3, g1⟩ := h1
  obtain ⟨a1, k1, rfl⟩ := g1.form
  have b1 := bnew w (.cells #[.int .i64 xkind, .int .i64 xn, .string xkey, .string xtext, .slice a0 xl.length k0] 29)
  have b2 := bnew (w.alloc (.cells #[.int .i64 xkind, .int .i64 xn, .string xkey, .string xtext, .slice a0 xl.length k0] 29)) (.cells #[.int .i64 ykind, .int .i64 yn, .string ykey, .string ytext, .slice a1 yl.length k1] 29)
  have P0 := (Held.new w [.int .i64 xkind, .int .i64 xn, .string xkey, .string xtext, .slice a0 xl.length k0] 29).keep b2
  have P1 := Held.new (w.alloc (.cells #[.int .i64 xkind, .int .i64 xn, .string xkey, .string xtext, .slice a0 xl.length k0] 29)) [.int .i64 ykind, .int .i64 yn, .string ykey, .string ytext, .slice a1 yl.length k1] 29
  rw [show (w.alloc (.cells #[.int .i64 xkind, .int .i64 xn, .string xkey, .string xtext, .slice a0 xl.length k0] 29)).heap.size = w.heap.size + 1 by simp] at P1
  have B0 := bthen b1 b2
  have HG0 := hide (g0.keep (polRd_keeps d) B0)
  have HG1 := hide (g1.keep (polRd_keeps d) B0)
  have hl0 := g0.len
  have hl1 := g1.len
  clear g0 g1 b1 b2
  by_cases e0 : xkind = ykind
  case neg =>
    have d0 : (xkind != ykind) = true := by simpa using e0
    have HV : Hid (@decide ((⟨xkind, xn, xkey, xtext, xl⟩ : PolD) = ⟨ykind, yn, ykey, ytext, yl⟩) (Classical.propDecidable _) = false) := hide (@decide_eq_false _ (Classical.propDecidable _) (fun h => e0 (congrArg PolD.kind h)))
    clear e0
    go_enter Try.func16, Try.ntmps16
    go_upto_region 1 with fail
    generalize World.alloc (World.alloc w _) _ = w0 at *
    have p0 := P0.2 0 _ rfl
    have p1 := P0.2 1 _ rfl
    have p2 := P0.2 2 _ rfl
    have p3 := P0.2 3 _ rfl
    have p4 := P0.2 4 _ rfl
    have r0 := P1.2 0 _ rfl
    have r1 := P1.2 1 _ rfl
    have r2 := P1.2 2 _ rfl
    have r3 := P1.2 3 _ rfl
    have r4 := P1.2 4 _ rfl
    go_wp2
    go_ret
    exact ⟨ret_bool (unhide HV).symm, B0⟩
  subst e0
  by_cases e1 : xn = yn
  case neg =>
    have d1 : (xn != yn) = true := by simpa using e1
    have HV : Hid (@decide ((⟨xkind, xn, xkey, xtext, xl⟩ : PolD) = ⟨xkind, yn, ykey, ytext, yl⟩) (Classical.propDecidable _) = false) := hide (@decide_eq_false _ (Classical.propDecidable _) (fun h => e1 (congrArg PolD.n h)))
    clear e1
    go_enter Try.func16, Try.ntmps16
    go_upto_region 1 with fail
    generalize World.alloc (World.alloc w _) _ = w0 at *
    have p0 := P0.2 0 _ rfl
    have p1 := P0.2 1 _ rfl
    have p2 := P0.2 2 _ rfl
    have p3 := P0.2 3 _ rfl
    have p4 := P0.2 4 _ rfl
    have r0 := P1.2 0 _ rfl
    have r1 := P1.2 1 _ rfl
    have r2 := P1.2 2 _ rfl
    have r3 := P1.2 3 _ rfl
    have r4 := P1.2 4 _ rfl
    go_wp2
    go_ret
    exact ⟨ret_bool (unhide HV).symm, B0⟩
  subst e1
  by_cases e2 : xkey = ykey
  case neg =>
    have t2 := bytes_neq e2
    have HV : Hid (@decide ((⟨xkind, xn, xkey, xtext, xl⟩ : PolD) = ⟨xkind, xn, ykey, ytext, yl⟩) (Classical.propDecidable _) = false) := hide (@decide_eq_false _ (Classical.propDecidable _) (fun h => e2 (congrArg PolD.key h)))
    clear e2
    go_enter Try.func16, Try.ntmps16
    go_upto_region 1 with fail
    generalize World.alloc (World.alloc w _) _ = w0 at *
    have p0 := P0.2 0 _ rfl
    have p1 := P0.2 1 _ rfl
    have p2 := P0.2 2 _ rfl
    have p3 := P0.2 3 _ rfl
    have p4 := P0.2 4 _ rfl
    have r0 := P1.2 0 _ rfl
    have r1 := P1.2 1 _ rfl
    have r2 := P1.2 2 _ rfl
    have r3 := P1.2 3 _ rfl
    have r4 := P1.2 4 _ rfl
    go_wp2
    go_ret
    exact ⟨ret_bool (unhide HV).symm, B0⟩
  subst e2
  by_cases e3 : xtext = ytext
  case neg =>
    have t3 := bytes_neq e3
    have HV : Hid (@decide ((⟨xkind, xn, xkey, xtext, xl⟩ : PolD) = ⟨xkind, xn, xkey, ytext, yl⟩) (Classical.propDecidable _) = false) := hide (@decide_eq_false _ (Classical.propDecidable _) (fun h => e3 (congrArg PolD.text h)))
    clear e3
    go_enter Try.func16, Try.ntmps16
    go_upto_region 1 with fail
    generalize World.alloc (World.alloc w _) _ = w0 at *
    have p0 := P0.2 0 _ rfl
    have p1 := P0.2 1 _ rfl
    have p2 := P0.2 2 _ rfl
    have p3 := P0.2 3 _ rfl
    have p4 := P0.2 4 _ rfl
    have r0 := P1.2 0 _ rfl
    have r1 := P1.2 1 _ rfl
    have r2 := P1.2 2 _ rfl
    have r3 := P1.2 3 _ rfl
    have r4 := P1.2 4 _ rfl
    go_wp2
    go_ret
    exact ⟨ret_bool (unhide HV).symm, B0⟩
  subst e3
  by_cases e4 : xl.length = yl.length
  case neg =>
    have d4 : ((xl.length : Int) != (yl.length : Int)) = true := by simp; omega
    have HV : Hid (@decide ((⟨xkind, xn, xkey, xtext, xl⟩ : PolD) = ⟨xkind, xn, xkey, xtext, yl⟩) (Classical.propDecidable _) = false) := hide (@decide_eq_false _ (Classical.propDecidable _) (fun h => e4 (congrArg (fun p => p.l.length) h)))
    clear e4
    go_enter Try.func16, Try.ntmps16
    go_upto_region 1 with fail
    generalize World.alloc (World.alloc w _) _ = w0 at *
    have p0 := P0.2 0 _ rfl
    have p1 := P0.2 1 _ rfl
    have p2 := P0.2 2 _ rfl
    have p3 := P0.2 3 _ rfl
    have p4 := P0.2 4 _ rfl
    have r0 := P1.2 0 _ rfl
    have r1 := P1.2 1 _ rfl
    have r2 := P1.2 2 _ rfl
    have r3 := P1.2 3 _ rfl
    have r4 := P1.2 4 _ rfl
    go_wp2
    go_ret
    exact ⟨ret_bool (unhide HV).symm, B0⟩
  have d4 : ((xl.length : Int) != (yl.length : Int)) = false := by simp; omega
  have E4 := hide e4
  clear e4
  have HXY : Hid ((⟨xkind, xn, xkey, xtext, xl⟩ : PolD) = ⟨xkind, xn, xkey, xtext, yl⟩ ↔ xl = yl) := hide ⟨fun h => by injection h, fun h => by rw [h]⟩
  go_enter Try.func16, Try.ntmps16
  go_upto_region 1 with fail
  generalize World.alloc (World.alloc w _) _ = w0 at *
  have p0 := P0.2 0 _ rfl
  have p1 := P0.2 1 _ rfl
  have p2 := P0.2 2 _ rfl
  have p3 := P0.2 3 _ rfl
  have p4 := P0.2 4 _ rfl
  have r0 := P1.2 0 _ rfl
  have r1 := P1.2 1 _ rfl
  have r2 := P1.2 2 _ rfl
  have r3 := P1.2 3 _ rfl
  have r4 := P1.2 4 _ rfl
  go_wp2
  clear p0 p1 p2 p3 p4 r0 r1 r2 r3 r4 d4
  go_loopw [5] (fun i wk => ∃ k : Nat, k ≤ xl.length ∧ i = .int .i64 k ∧ Hid (xl.take k = yl.take k) ∧ Below w0.heap.size w0 wk) (fun i _ => xl.length - (intOf i).toNat)
  case atStart => exact ⟨0, Nat.zero_le _, rfl, hide rfl, Below.refl _ _⟩
  case round =>
    obtain ⟨k, hk, rfl, hsm, hbl⟩ := hrel
    have hbs := hbl.size
    have Q0 := P0.keep hbl
    have Q1 := P1.keep hbl
    have p4 := Q0.2 4 _ rfl
    have r4 := Q1.2 4 _ rfl
    by_cases hlt : k < xl.length
    · have hki : (k : Int) < (xl.length : Int) := by omega
      have hlt2 : k < yl.length := by have := unhide E4; omega
      have hki2 : (k : Int) < (yl.length : Int) := by omega
      have hk0 : (0 : Int) ≤ (k : Int) := by omega
      have hs0 := List.take_succ_eq_append_getElem hlt
      have hs1 := List.take_succ_eq_append_getElem hlt2
      obtain ⟨b0, o0, c0, rfl, hbk0, hSb0, hc0, hin0⟩ := (unhide HG0).at1.at k hlt
      have hc0 := polRd_keeps d _ _ S0 None1 c0 _ (Below.turn hbl) none_off hc0
      have hin0 := hin0.turn hbk0 (Below.turn hbl) (fun e => e)
      have hrw0 : RowT Try.prog 29 c0.length := by rw [polRd_len hc0]; exact rowIPol
      replace hbk0 : b0 < wr.heap.size := Nat.lt_of_lt_of_le hbk0 hbs
      obtain ⟨b1, o1, c1, rfl, hbk1, hSb1, hc1, hin1⟩ := (unhide HG1).at1.at k hlt2
      have hc1 := polRd_keeps d _ _ S1 None1 c1 _ (Below.turn hbl) none_off hc1
      have hin1 := hin1.turn hbk1 (Below.turn hbl) (fun e => e)
      have hrw1 : RowT Try.prog 29 c1.length := by rw [polRd_len hc1]; exact rowIPol
      replace hbk1 : b1 < wr.heap.size := Nat.lt_of_lt_of_le hbk1 hbs
      have hgx := List.getElem?_eq_getElem hlt
      have hgy := List.getElem?_eq_getElem hlt2
      generalize xl[k] = X at *
      generalize yl[k] = Y at *
      have HC := hide (And.intro hc0 hc1)
      clear hc0 hc1
      by_cases hXY : X = Y
      · have HD : Hid (@decide (X = Y) (Classical.propDecidable _) = true) := hide (@decide_eq_true _ (Classical.propDecidable _) hXY)
        have HST : Hid (xl.take (k + 1) = yl.take (k + 1)) := hide (by rw [hs0, hs1, unhide hsm, hXY])
        clear hs0 hs1 hXY hgx hgy
        go_upto_region 6 with fail
        refine wp_region_held_drew (S := fun w' => Below wr.heap.size wr w') (by kernel_rfl) (Below.drew (Below.refl _ _)) (fun hHeld => ?_)
        refine wpAnyH_take (i := 0) (oi := ?oo1) (v := ?vv1) ?hi1 (by kernel_rfl) (by kernel_rfl) (by kernel_rfl) ?hQ1 ?hy1 (by assumption) ?rest1
        case hi1 => (simp only [List.getElem?_toArray, List.getElem?_cons_zero]; rfl)
        case hQ1 => exact fun _ _ _ h => h
        case hy1 => exact Or.inl ⟨by rfl, by intro wS hSw; (try dsimp only at hSw); go_simp; try first | (with_reducible rfl) | (simp only [*]; done) | omega⟩
        try simp only [Act.put, List.setIfInBounds_toArray, List.set_cons_zero, List.set_cons_succ]
        refine wpAnyH_take (i := 1) (oi := ?oo2) (v := .slice (some ⟨b0, o0, none⟩) xl.length k0) ?hi2 (by kernel_rfl) (by kernel_rfl) (by kernel_rfl) ?hQ2 ?hy2 (by assumption) ?rest2
        case hi2 => (simp only [List.getElem?_toArray, List.getElem?_cons_zero, List.getElem?_cons_succ]; rfl)
        case hQ2 => exact fun _ _ _ h => h
        case hy2 => exact yld_cell (by rfl) 27 _ rfl w.heap.size 4 rfl _ (fun w' hS => (Q0.keep hS).2 4 _ rfl) plainPolS
        try simp only [Act.put, List.setIfInBounds_toArray, List.set_cons_zero, List.set_cons_succ]
        refine wpAnyH_take (i := 2) (oi := ?oo3) (v := ?vv3) ?hi3 (by kernel_rfl) (by kernel_rfl) (by kernel_rfl) ?hQ3 ?hy3 (by assumption) ?rest3
        case hi3 => (simp only [List.getElem?_toArray, List.getElem?_cons_zero, List.getElem?_cons_succ]; rfl)
        case hQ3 => exact fun _ _ _ h => h
        case hy3 => exact Or.inl ⟨by rfl, by intro wS hSw; (try dsimp only at hSw); go_simp; try first | (with_reducible rfl) | (simp only [*]; done) | omega⟩
        try simp only [Act.put, List.setIfInBounds_toArray, List.set_cons_zero, List.set_cons_succ]
        refine wpAnyH_take (i := 3) (oi := ?oo4) (v := ?vv4) ?hi4 (by kernel_rfl) (by kernel_rfl) (by kernel_rfl) ?hQ4 ?hy4 (by assumption) ?rest4
        case hi4 => (simp only [List.getElem?_toArray, List.getElem?_cons_zero, List.getElem?_cons_succ]; rfl)
        case hQ4 => exact fun _ _ _ h => h
        case hy4 => exact Or.inl ⟨by rfl, by intro wS hSw; (try dsimp only at hSw); go_simp; try first | (with_reducible rfl) | (simp only [*]; done) | omega⟩
        try simp only [Act.put, List.setIfInBounds_toArray, List.set_cons_zero, List.set_cons_succ]
        refine wpAnyH_take (i := 4) (oi := ?oo5) (v := .agg c0.toArray) ?hi5 (by kernel_rfl) (by kernel_rfl) (by kernel_rfl) ?hQ5 ?hy5 (by assumption) ?rest5
        case hi5 => (simp only [List.getElem?_toArray, List.getElem?_cons_zero, List.getElem?_cons_succ]; rfl)
        case hQ5 => exact fun _ _ _ h => h
        case hy5 => exact yld_load (by rfl) _ _ rfl _ _ rfl c0 (fun w' hS => hin0.turn hbk0 (Below.turn hS) (fun e => e)) hrw0
        try simp only [Act.put, List.setIfInBounds_toArray, List.set_cons_zero, List.set_cons_succ]
        refine wpAnyH_take (i := 5) (oi := ?oo6) (v := ?vv6) ?hi6 (by kernel_rfl) (by kernel_rfl) (by kernel_rfl) ?hQ6 ?hy6 (by assumption) ?rest6
        case hi6 => (simp only [List.getElem?_toArray, List.getElem?_cons_zero, List.getElem?_cons_succ]; rfl)
        case hQ6 => exact fun _ _ _ h => h
        case hy6 => exact Or.inl ⟨by rfl, by intro wS hSw; (try dsimp only at hSw); go_simp; try first | (with_reducible rfl) | (simp only [*]; done) | omega⟩
        try simp only [Act.put, List.setIfInBounds_toArray, List.set_cons_zero, List.set_cons_succ]
        refine wpAnyH_take (i := 6) (oi := ?oo7) (v := .slice (some ⟨b1, o1, none⟩) yl.length k1) ?hi7 (by kernel_rfl) (by kernel_rfl) (by kernel_rfl) ?hQ7 ?hy7 (by assumption) ?rest7
        case hi7 => (simp only [List.getElem?_toArray, List.getElem?_cons_zero, List.getElem?_cons_succ]; rfl)
        case hQ7 => exact fun _ _ _ h => h
        case hy7 => exact yld_cell (by rfl) 27 _ rfl (w.heap.size + 1) 4 rfl _ (fun w' hS => (Q1.keep hS).2 4 _ rfl) plainPolS
        try simp only [Act.put, List.setIfInBounds_toArray, List.set_cons_zero, List.set_cons_succ]
        refine wpAnyH_take (i := 7) (oi := ?oo8) (v := ?vv8) ?hi8 (by kernel_rfl) (by kernel_rfl) (by kernel_rfl) ?hQ8 ?hy8 (by assumption) ?rest8
        case hi8 => (simp only [List.getElem?_toArray, List.getElem?_cons_zero, List.getElem?_cons_succ]; rfl)
        case hQ8 => exact fun _ _ _ h => h
        case hy8 => exact Or.inl ⟨by rfl, by intro wS hSw; (try dsimp only at hSw); go_simp; try first | (with_reducible rfl) | (simp only [*]; done) | omega⟩
        try simp only [Act.put, List.setIfInBounds_toArray, List.set_cons_zero, List.set_cons_succ]
        refine wpAnyH_take (i := 8) (oi := ?oo9) (v := ?vv9) ?hi9 (by kernel_rfl) (by kernel_rfl) (by kernel_rfl) ?hQ9 ?hy9 (by assumption) ?rest9
        case hi9 => (simp only [List.getElem?_toArray, List.getElem?_cons_zero, List.getElem?_cons_succ]; rfl)
        case hQ9 => exact fun _ _ _ h => h
        case hy9 => exact Or.inl ⟨by rfl, by intro wS hSw; (try dsimp only at hSw); go_simp; try first | (with_reducible rfl) | (simp only [*]; done) | omega⟩
        try simp only [Act.put, List.setIfInBounds_toArray, List.set_cons_zero, List.set_cons_succ]
        refine wpAnyH_take (i := 9) (oi := ?oo10) (v := .agg c1.toArray) ?hi10 (by kernel_rfl) (by kernel_rfl) (by kernel_rfl) ?hQ10 ?hy10 (by assumption) ?rest10
        case hi10 => (simp only [List.getElem?_toArray, List.getElem?_cons_zero, List.getElem?_cons_succ]; rfl)
        case hQ10 => exact fun _ _ _ h => h
        case hy10 => exact yld_load (by rfl) _ _ rfl _ _ rfl c1 (fun w' hS => hin1.turn hbk1 (Below.turn hS) (fun e => e)) hrw1
        try simp only [Act.put, List.setIfInBounds_toArray, List.set_cons_zero, List.set_cons_succ]
        refine wpAnyH_ready (rs := [10]) (by kernel_rfl) (by simp) ?_
        refine (AllReadyH.cons (o := ?bo11n10) ?bh11n10 (fun K hK => ?br11n10) AllReadyH.nil)
        case bh11n10 => (simp only [List.getElem?_toArray, List.getElem?_cons_zero, List.getElem?_cons_succ]; rfl)
        case br11n10 =>
          go_simp
          refine (ih X Y S0 c0 S1 c1 _ (polRd_keeps d _ _ S0 None1 c0 _ (Below.turn hHeld) none_off (unhide HC).1) (polRd_keeps d _ _ S1 None1 c1 _ (Below.turn hHeld) none_off (unhide HC).2)).mono ?_
          rintro e w2 ⟨rfl, hb2⟩
          rw [unhide HD]
          have hH2 := bthen hHeld hb2
          go_wp2_with fail
          refine hK.out _ _ (hH2) (fun hHeld => ?_)
          clear hK
          refine wpAnyH_take (i := 11) (oi := ?oo12) (v := ?vv12) ?hi12 (by kernel_rfl) (by kernel_rfl) (by kernel_rfl) ?hQ12 ?hy12 (by assumption) ?rest12
          case hi12 => (simp only [List.getElem?_toArray, List.getElem?_cons_zero, List.getElem?_cons_succ]; rfl)
          case hQ12 => exact fun _ _ _ h => h
          case hy12 => exact Or.inl ⟨by rfl, by intro wS hSw; (try dsimp only at hSw); go_simp; try first | (with_reducible rfl) | (simp only [*]; done) | omega⟩
          try simp only [Act.put, List.setIfInBounds_toArray, List.set_cons_zero, List.set_cons_succ]
          refine wpAnyH_done (by kernel_rfl) ?_ _
          have hH3 := hbl.trans (hHeld.mono hbs)
          go_wp2
          go_roundw
          case rel => exact ⟨k + 1, by omega, by go_num, HST, hH3⟩
          case measure => simp [intOf]; omega
      · have HD : Hid (@decide (X = Y) (Classical.propDecidable _) = false) := hide (@decide_eq_false _ (Classical.propDecidable _) hXY)
        have HV : Hid (@decide ((⟨xkind, xn, xkey, xtext, xl⟩ : PolD) = ⟨xkind, xn, xkey, xtext, yl⟩) (Classical.propDecidable _) = false) := hide (@decide_eq_false _ (Classical.propDecidable _) (fun h => hXY (by rw [(unhide HXY).1 h, hgy] at hgx; injection hgx with hgx; exact hgx.symm)))
        clear hs0 hs1 hXY hgx hgy
        go_upto_region 6 with fail
        refine wp_region_held_drew (S := fun w' => Below wr.heap.size wr w') (by kernel_rfl) (Below.drew (Below.refl _ _)) (fun hHeld => ?_)
        refine wpAnyH_take (i := 0) (oi := ?oo13) (v := ?vv13) ?hi13 (by kernel_rfl) (by kernel_rfl) (by kernel_rfl) ?hQ13 ?hy13 (by assumption) ?rest13
        case hi13 => (simp only [List.getElem?_toArray, List.getElem?_cons_zero]; rfl)
        case hQ13 => exact fun _ _ _ h => h
        case hy13 => exact Or.inl ⟨by rfl, by intro wS hSw; (try dsimp only at hSw); go_simp; try first | (with_reducible rfl) | (simp only [*]; done) | omega⟩
        try simp only [Act.put, List.setIfInBounds_toArray, List.set_cons_zero, List.set_cons_succ]
        refine wpAnyH_take (i := 1) (oi := ?oo14) (v := .slice (some ⟨b0, o0, none⟩) xl.length k0) ?hi14 (by kernel_rfl) (by kernel_rfl) (by kernel_rfl) ?hQ14 ?hy14 (by assumption) ?rest14
        case hi14 => (simp only [List.getElem?_toArray, List.getElem?_cons_zero, List.getElem?_cons_succ]; rfl)
        case hQ14 => exact fun _ _ _ h => h
        case hy14 => exact yld_cell (by rfl) 27 _ rfl w.heap.size 4 rfl _ (fun w' hS => (Q0.keep hS).2 4 _ rfl) plainPolS
        try simp only [Act.put, List.setIfInBounds_toArray, List.set_cons_zero, List.set_cons_succ]
        refine wpAnyH_take (i := 2) (oi := ?oo15) (v := ?vv15) ?hi15 (by kernel_rfl) (by kernel_rfl) (by kernel_rfl) ?hQ15 ?hy15 (by assumption) ?rest15
        case hi15 => (simp only [List.getElem?_toArray, List.getElem?_cons_zero, List.getElem?_cons_succ]; rfl)
        case hQ15 => exact fun _ _ _ h => h
        case hy15 => exact Or.inl ⟨by rfl, by intro wS hSw; (try dsimp only at hSw); go_simp; try first | (with_reducible rfl) | (simp only [*]; done) | omega⟩
        try simp only [Act.put, List.setIfInBounds_toArray, List.set_cons_zero, List.set_cons_succ]
        refine wpAnyH_take (i := 3) (oi := ?oo16) (v := ?vv16) ?hi16 (by kernel_rfl) (by kernel_rfl) (by kernel_rfl) ?hQ16 ?hy16 (by assumption) ?rest16
        case hi16 => (simp only [List.getElem?_toArray, List.getElem?_cons_zero, List.getElem?_cons_succ]; rfl)
        case hQ16 => exact fun _ _ _ h => h
        case hy16 => exact Or.inl ⟨by rfl, by intro wS hSw; (try dsimp only at hSw); go_simp; try first | (with_reducible rfl) | (simp only [*]; done) | omega⟩
        try simp only [Act.put, List.setIfInBounds_toArray, List.set_cons_zero, List.set_cons_succ]
        refine wpAnyH_take (i := 4) (oi := ?oo17) (v := .agg c0.toArray) ?hi17 (by kernel_rfl) (by kernel_rfl) (by kernel_rfl) ?hQ17 ?hy17 (by assumption) ?rest17
        case hi17 => (simp only [List.getElem?_toArray, List.getElem?_cons_zero, List.getElem?_cons_succ]; rfl)
        case hQ17 => exact fun _ _ _ h => h
        case hy17 => exact yld_load (by rfl) _ _ rfl _ _ rfl c0 (fun w' hS => hin0.turn hbk0 (Below.turn hS) (fun e => e)) hrw0
        try simp only [Act.put, List.setIfInBounds_toArray, List.set_cons_zero, List.set_cons_succ]
        refine wpAnyH_take (i := 5) (oi := ?oo18) (v := ?vv18) ?hi18 (by kernel_rfl) (by kernel_rfl) (by kernel_rfl) ?hQ18 ?hy18 (by assumption) ?rest18
        case hi18 => (simp only [List.getElem?_toArray, List.getElem?_cons_zero, List.getElem?_cons_succ]; rfl)
        case hQ18 => exact fun _ _ _ h => h
        case hy18 => exact Or.inl ⟨by rfl, by intro wS hSw; (try dsimp only at hSw); go_simp; try first | (with_reducible rfl) | (simp only [*]; done) | omega⟩
        try simp only [Act.put, List.setIfInBounds_toArray, List.set_cons_zero, List.set_cons_succ]
        refine wpAnyH_take (i := 6) (oi := ?oo19) (v := .slice (some ⟨b1, o1, none⟩) yl.length k1) ?hi19 (by kernel_rfl) (by kernel_rfl) (by kernel_rfl) ?hQ19 ?hy19 (by assumption) ?rest19
        case hi19 => (simp only [List.getElem?_toArray, List.getElem?_cons_zero, List.getElem?_cons_succ]; rfl)
        case hQ19 => exact fun _ _ _ h => h
        case hy19 => exact yld_cell (by rfl) 27 _ rfl (w.heap.size + 1) 4 rfl _ (fun w' hS => (Q1.keep hS).2 4 _ rfl) plainPolS
        try simp only [Act.put, List.setIfInBounds_toArray, List.set_cons_zero, List.set_cons_succ]
        refine wpAnyH_take (i := 7) (oi := ?oo20) (v := ?vv20) ?hi20 (by kernel_rfl) (by kernel_rfl) (by kernel_rfl) ?hQ20 ?hy20 (by assumption) ?rest20
        case hi20 => (simp only [List.getElem?_toArray, List.getElem?_cons_zero, List.getElem?_cons_succ]; rfl)
        case hQ20 => exact fun _ _ _ h => h
        case hy20 => exact Or.inl ⟨by rfl, by intro wS hSw; (try dsimp only at hSw); go_simp; try first | (with_reducible rfl) | (simp only [*]; done) | omega⟩
        try simp only [Act.put, List.setIfInBounds_toArray, List.set_cons_zero, List.set_cons_succ]
        refine wpAnyH_take (i := 8) (oi := ?oo21) (v := ?vv21) ?hi21 (by kernel_rfl) (by kernel_rfl) (by kernel_rfl) ?hQ21 ?hy21 (by assumption) ?rest21
        case hi21 => (simp only [List.getElem?_toArray, List.getElem?_cons_zero, List.getElem?_cons_succ]; rfl)
        case hQ21 => exact fun _ _ _ h => h
        case hy21 => exact Or.inl ⟨by rfl, by intro wS hSw; (try dsimp only at hSw); go_simp; try first | (with_reducible rfl) | (simp only [*]; done) | omega⟩
        try simp only [Act.put, List.setIfInBounds_toArray, List.set_cons_zero, List.set_cons_succ]
        refine wpAnyH_take (i := 9) (oi := ?oo22) (v := .agg c1.toArray) ?hi22 (by kernel_rfl) (by kernel_rfl) (by kernel_rfl) ?hQ22 ?hy22 (by assumption) ?rest22
        case hi22 => (simp only [List.getElem?_toArray, List.getElem?_cons_zero, List.getElem?_cons_succ]; rfl)
        case hQ22 => exact fun _ _ _ h => h
        case hy22 => exact yld_load (by rfl) _ _ rfl _ _ rfl c1 (fun w' hS => hin1.turn hbk1 (Below.turn hS) (fun e => e)) hrw1
        try simp only [Act.put, List.setIfInBounds_toArray, List.set_cons_zero, List.set_cons_succ]
        refine wpAnyH_ready (rs := [10]) (by kernel_rfl) (by simp) ?_
        refine (AllReadyH.cons (o := ?bo23n10) ?bh23n10 (fun K hK => ?br23n10) AllReadyH.nil)
        case bh23n10 => (simp only [List.getElem?_toArray, List.getElem?_cons_zero, List.getElem?_cons_succ]; rfl)
        case br23n10 =>
          go_simp
          refine (ih X Y S0 c0 S1 c1 _ (polRd_keeps d _ _ S0 None1 c0 _ (Below.turn hHeld) none_off (unhide HC).1) (polRd_keeps d _ _ S1 None1 c1 _ (Below.turn hHeld) none_off (unhide HC).2)).mono ?_
          rintro e w2 ⟨rfl, hb2⟩
          rw [unhide HD]
          have hH2 := bthen hHeld hb2
          go_wp2_with fail
          refine hK.out _ _ (hH2) (fun hHeld => ?_)
          clear hK
          refine wpAnyH_take (i := 11) (oi := ?oo24) (v := ?vv24) ?hi24 (by kernel_rfl) (by kernel_rfl) (by kernel_rfl) ?hQ24 ?hy24 (by assumption) ?rest24
          case hi24 => (simp only [List.getElem?_toArray, List.getElem?_cons_zero, List.getElem?_cons_succ]; rfl)
          case hQ24 => exact fun _ _ _ h => h
          case hy24 => exact Or.inl ⟨by rfl, by intro wS hSw; (try dsimp only at hSw); go_simp; try first | (with_reducible rfl) | (simp only [*]; done) | omega⟩
          try simp only [Act.put, List.setIfInBounds_toArray, List.set_cons_zero, List.set_cons_succ]
          refine wpAnyH_done (by kernel_rfl) ?_ _
          have hH3 := bthen B0 (hbl.trans (hHeld.mono hbs))
          go_wp2
          go_ret
          exact ⟨ret_bool (unhide HV).symm, hH3⟩
    · have hki : ¬ (k : Int) < (xl.length : Int) := by omega
      have HV : Hid (@decide ((⟨xkind, xn, xkey, xtext, xl⟩ : PolD) = ⟨xkind, xn, xkey, xtext, yl⟩) (Classical.propDecidable _) = true) := hide (@decide_eq_true _ (Classical.propDecidable _) ((unhide HXY).2 (by have := unhide hsm; rwa [List.take_of_length_le (by omega), List.take_of_length_le (by have := unhide E4; omega)] at this)))
      go_wp2
      go_ret
      exact ⟨ret_bool (unhide HV).symm, bthen B0 hbl⟩
theorem samP : ∀ d, SamP d
  | 0 => fun _ _ _ _ _ _ _ h => h.elim
  | d + 1 => dSamP d (samP d)
theorem specSamePol (x0 x1 : PolD) (S0 : Nat → Prop) (c0 : List Value) (S1 : Nat → Prop) (c1 : List Value) (w : World) (h0 : polR w S0 c0 x0) (b0 : polBulk x0 ≤ 1048576) (h1 : polR w S1 c1 x1) (b1 : polBulk x1 ≤ 1048576) :
    Calls Try.prog 16 #[.agg c0.toArray, .agg c1.toArray] w fun e w' => e = .returned (.bool (@decide (x0 = x1) (Classical.propDecidable _))) ∧ Below w.heap.size w w' := by
  obtain ⟨d, h⟩ := h0
  obtain ⟨d', h'⟩ := h1
  exact samP (max d d') x0 x1 S0 c0 S1 c1 w (polRd_le (Nat.le_max_left _ _) h) (polRd_le (Nat.le_max_right _ _) h')
end Go.Proofs.Ytlhjhnjpmafceaa
