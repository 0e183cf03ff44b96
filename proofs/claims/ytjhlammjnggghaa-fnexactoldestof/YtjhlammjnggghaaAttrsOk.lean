/-
  Contracts of chapter 2's AttrsOk, of the program and of the specification.
-/
import Derived.Test.YtjhlammjnggghaaAttrs2
import Derived.Deep.RegionHeld3
import Derived.Laws.Cover1
namespace Go.Proofs.Ytjhlammjnggghaa
open Go.ChangeShapes Go.WideShapes Go.ChangeAt Go.RowKit
set_option linter.unusedVariables false
set_option maxRecDepth 100000

def attrD (x : AttrD) : Bool := attrB x.1 x.2.1 x.2.2.1 x.2.2.2
/-- What AttrsOk looks at, at place i: the Attr there is right, and its key is behind the one ahead of it. -/
def stepOk (l : List AttrD) (i : Nat) : Bool := attrD (l.getD i dA) && (decide (i = 0) || Op.bytesLess (l.getD (i - 1) dA).1.toList (l.getD i dA).1.toList)
def allOk (l : List AttrD) (k : Nat) : Bool := (List.range k).all (stepOk l)
def attrsB (l : List AttrD) : Bool := allOk l l.length && decide (l.length ≤ 4)
theorem allOk_succ (l : List AttrD) (k : Nat) : allOk l (k + 1) = (allOk l k && stepOk l k) := by
  simp [allOk, List.range_succ, List.all_append]
theorem allOk_false {l : List AttrD} {k n : Nat} (hk : k < n) (h : stepOk l k = false) : allOk l n = false := by
  unfold allOk
  rw [List.all_eq_false]
  exact ⟨k, List.mem_range.2 hk, by simp [h]⟩

set_option maxHeartbeats 4000000 in
theorem specAttrsOk (l : List AttrD) (v : Value) (w : World) (ha : AttrsAt w v l) :
    Calls Try.prog 204 #[v] w fun e w' => e = .returned (.bool (attrsB l)) ∧ Below w.heap.size w w' := by
  obtain ⟨a, cap, rfl⟩ := ha.form
  have hl := ha.len
  have HA := hide ha
  clear ha
  go_enter Try.func204, Try.ntmps204
  go_wp2
  go_loopw [3] (fun i wk => ∃ k : Nat, k ≤ l.length ∧ i = .int .i64 k ∧ Hid (allOk l k = true) ∧ Below w.heap.size w wk) (fun i _ => l.length - (intOf i).toNat)
  case atStart => exact ⟨0, Nat.zero_le _, rfl, hide rfl, Below.refl _ _⟩
  case round =>
    obtain ⟨k, hk, rfl, hok, hbl⟩ := hrel
    have hbs := hbl.size
    by_cases hlt : k < l.length
    · obtain ⟨b, o, rfl, hbk, c0, c1, c2, c3⟩ := (unhide HA).at k hlt
      obtain ⟨hw1, hw2⟩ := (unhide HA).wf k hlt
      generalize hX : l.getD k dA = x at *
      obtain ⟨kk, bb, nn, tt⟩ := x
      simp only at c0 c1 c2 c3 hw1 hw2
      have HX := hide hX
      clear hX
      rw [← hbl.cell hbk] at c0 c1 c2 c3
      have hki : (k : Int) < (l.length : Int) := by omega
      cases hA : attrB kk bb nn tt
      · go_wp2_with fail
        refine wp_region_held_drew (S := fun w' => w'.cell? ⟨b, o + k * 4, none⟩ = some (.string kk) ∧ w'.cell? ⟨b, o + k * 4 + 1, none⟩ = some (.bool bb) ∧ w'.cell? ⟨b, o + k * 4 + 2, none⟩ = some (.int .i64 nn) ∧ w'.cell? ⟨b, o + k * 4 + 3, none⟩ = some (.string tt)) (by kernel_rfl) ?_ (fun hHeld => ?_)
        · (try dsimp only); go_keep
        refine wpAnyH_take (i := 0) (oi := ?oo0n1) (v := ?vv0n1) ?hi0n1 (by kernel_rfl) (by kernel_rfl) (by kernel_rfl) ?hQ0n1 ?hy0n1 (by assumption) ?rest0n1
        case hi0n1 => (simp only [List.getElem?_toArray, List.getElem?_cons_zero]; rfl)
        case hQ0n1 => exact fun _ _ _ h => h
        case hy0n1 => exact Or.inl ⟨by rfl, by intro wS hSw; (try dsimp only at hSw); go_simp; try first | (with_reducible rfl) | (simp only [*]; done) | omega⟩
        try simp only [Act.put, List.setIfInBounds_toArray, List.set_cons_zero, List.set_cons_succ]
        refine wpAnyH_take (i := 1) (oi := ?oo1n2) (v := ?vv1n2) ?hi1n2 (by kernel_rfl) (by kernel_rfl) (by kernel_rfl) ?hQ1n2 ?hy1n2 (by assumption) ?rest1n2
        case hi1n2 => (simp only [List.getElem?_toArray, List.getElem?_cons_zero, List.getElem?_cons_succ]; rfl)
        case hQ1n2 => exact fun _ _ _ h => h
        case hy1n2 => exact Or.inl ⟨by rfl, by intro wS hSw; (try dsimp only at hSw); go_simp; try first | (with_reducible rfl) | (simp only [*]; done) | omega⟩
        try simp only [Act.put, List.setIfInBounds_toArray, List.set_cons_zero, List.set_cons_succ]
        refine wpAnyH_take (i := 2) (oi := ?oo2n3) (v := ?vv2n3) ?hi2n3 (by kernel_rfl) (by kernel_rfl) (by kernel_rfl) ?hQ2n3 ?hy2n3 (by assumption) ?rest2n3
        case hi2n3 => (simp only [List.getElem?_toArray, List.getElem?_cons_zero, List.getElem?_cons_succ]; rfl)
        case hQ2n3 => exact fun _ _ _ h => h
        case hy2n3 => exact Or.inl ⟨by rfl, by intro wS hSw; (try dsimp only at hSw); go_simp; try first | (with_reducible rfl) | (simp only [*]; done) | omega⟩
        try simp only [Act.put, List.setIfInBounds_toArray, List.set_cons_zero, List.set_cons_succ]
        refine wpAnyH_take (i := 3) (oi := ?oo3n4) (v := ?vv3n4) ?hi3n4 (by kernel_rfl) (by kernel_rfl) (by kernel_rfl) ?hQ3n4 ?hy3n4 (by assumption) ?rest3n4
        case hi3n4 => (simp only [List.getElem?_toArray, List.getElem?_cons_zero, List.getElem?_cons_succ]; rfl)
        case hQ3n4 => exact fun _ _ _ h => h
        case hy3n4 => exact Or.inl ⟨by rfl, by intro wS hSw; (try dsimp only at hSw); go_simp; try first | (with_reducible rfl) | (simp only [*]; done) | omega⟩
        try simp only [Act.put, List.setIfInBounds_toArray, List.set_cons_zero, List.set_cons_succ]
        refine wpAnyH_ready (rs := [4]) (by kernel_rfl) (by simp) ?_
        refine AllReadyH.cons (o := ?oo4n5) ?hi4n5 (fun K hK => ?rest4n5) AllReadyH.nil
        case hi4n5 => (simp only [List.getElem?_toArray, List.getElem?_cons_zero, List.getElem?_cons_succ]; rfl)
        go_simp
        refine (specAttrOk kk bb nn tt _ hw1 hw2).mono ?_
        rintro e w2 ⟨rfl, rfl⟩
        rw [hA]
        go_wp2_with fail
        refine hK.out _ _ ?_ (fun hHeld => ?_)
        · (try dsimp only); go_keep
        clear hK
        refine wpAnyH_take (i := 5) (oi := ?oo5n6) (v := ?vv5n6) ?hi5n6 (by kernel_rfl) (by kernel_rfl) (by kernel_rfl) ?hQ5n6 ?hy5n6 (by assumption) ?rest5n6
        case hi5n6 => (simp only [List.getElem?_toArray, List.getElem?_cons_zero, List.getElem?_cons_succ]; rfl)
        case hQ5n6 => exact fun _ _ _ h => h
        case hy5n6 => exact Or.inl ⟨by rfl, by intro wS hSw; (try dsimp only at hSw); go_simp; try first | (with_reducible rfl) | (simp only [*]; done) | omega⟩
        try simp only [Act.put, List.setIfInBounds_toArray, List.set_cons_zero, List.set_cons_succ]
        refine wpAnyH_take (i := 6) (oi := ?oo6n7) (v := ?vv6n7) ?hi6n7 (by kernel_rfl) (by kernel_rfl) (by kernel_rfl) ?hQ6n7 ?hy6n7 (by assumption) ?rest6n7
        case hi6n7 => (simp only [List.getElem?_toArray, List.getElem?_cons_zero, List.getElem?_cons_succ]; rfl)
        case hQ6n7 => exact fun _ _ _ h => h
        case hy6n7 => exact Or.inl ⟨by rfl, by intro wS hSw; (try dsimp only at hSw); go_simp; try first | (with_reducible rfl) | (simp only [*]; done) | omega⟩
        try simp only [Act.put, List.setIfInBounds_toArray, List.set_cons_zero, List.set_cons_succ]
        refine wpAnyH_take (i := 7) (oi := ?oo7n8) (v := undef) ?hi7n8 (by kernel_rfl) (by kernel_rfl) (by kernel_rfl) ?hQ7n8 ?hy7n8 (by assumption) ?rest7n8
        case hi7n8 => (simp only [List.getElem?_toArray, List.getElem?_cons_zero, List.getElem?_cons_succ]; rfl)
        case hQ7n8 => exact fun _ _ _ h => h
        case hy7n8 => exact Or.inr ⟨by rfl, rfl⟩
        try simp only [Act.put, List.setIfInBounds_toArray, List.set_cons_zero, List.set_cons_succ]
        refine wpAnyH_take (i := 8) (oi := ?oo8n9) (v := undef) ?hi8n9 (by kernel_rfl) (by kernel_rfl) (by kernel_rfl) ?hQ8n9 ?hy8n9 (by assumption) ?rest8n9
        case hi8n9 => (simp only [List.getElem?_toArray, List.getElem?_cons_zero, List.getElem?_cons_succ]; rfl)
        case hQ8n9 => exact fun _ _ _ h => h
        case hy8n9 => exact Or.inr ⟨by rfl, rfl⟩
        try simp only [Act.put, List.setIfInBounds_toArray, List.set_cons_zero, List.set_cons_succ]
        refine wpAnyH_take (i := 9) (oi := ?oo9n10) (v := undef) ?hi9n10 (by kernel_rfl) (by kernel_rfl) (by kernel_rfl) ?hQ9n10 ?hy9n10 (by assumption) ?rest9n10
        case hi9n10 => (simp only [List.getElem?_toArray, List.getElem?_cons_zero, List.getElem?_cons_succ]; rfl)
        case hQ9n10 => exact fun _ _ _ h => h
        case hy9n10 => exact Or.inr ⟨by rfl, rfl⟩
        try simp only [Act.put, List.setIfInBounds_toArray, List.set_cons_zero, List.set_cons_succ]
        refine wpAnyH_take (i := 10) (oi := ?oo10n11) (v := undef) ?hi10n11 (by kernel_rfl) (by kernel_rfl) (by kernel_rfl) ?hQ10n11 ?hy10n11 (by assumption) ?rest10n11
        case hi10n11 => (simp only [List.getElem?_toArray, List.getElem?_cons_zero, List.getElem?_cons_succ]; rfl)
        case hQ10n11 => exact fun _ _ _ h => h
        case hy10n11 => exact Or.inr ⟨by rfl, rfl⟩
        try simp only [Act.put, List.setIfInBounds_toArray, List.set_cons_zero, List.set_cons_succ]
        refine wpAnyH_take (i := 11) (oi := ?oo11n12) (v := undef) ?hi11n12 (by kernel_rfl) (by kernel_rfl) (by kernel_rfl) ?hQ11n12 ?hy11n12 (by assumption) ?rest11n12
        case hi11n12 => (simp only [List.getElem?_toArray, List.getElem?_cons_zero, List.getElem?_cons_succ]; rfl)
        case hQ11n12 => exact fun _ _ _ h => h
        case hy11n12 => exact Or.inr ⟨by rfl, rfl⟩
        try simp only [Act.put, List.setIfInBounds_toArray, List.set_cons_zero, List.set_cons_succ]
        refine wpAnyH_take (i := 12) (oi := ?oo12n13) (v := undef) ?hi12n13 (by kernel_rfl) (by kernel_rfl) (by kernel_rfl) ?hQ12n13 ?hy12n13 (by assumption) ?rest12n13
        case hi12n13 => (simp only [List.getElem?_toArray, List.getElem?_cons_zero, List.getElem?_cons_succ]; rfl)
        case hQ12n13 => exact fun _ _ _ h => h
        case hy12n13 => exact Or.inr ⟨by rfl, rfl⟩
        try simp only [Act.put, List.setIfInBounds_toArray, List.set_cons_zero, List.set_cons_succ]
        refine wpAnyH_take (i := 13) (oi := ?oo13n14) (v := undef) ?hi13n14 (by kernel_rfl) (by kernel_rfl) (by kernel_rfl) ?hQ13n14 ?hy13n14 (by assumption) ?rest13n14
        case hi13n14 => (simp only [List.getElem?_toArray, List.getElem?_cons_zero, List.getElem?_cons_succ]; rfl)
        case hQ13n14 => exact fun _ _ _ h => h
        case hy13n14 => exact Or.inr ⟨by rfl, rfl⟩
        try simp only [Act.put, List.setIfInBounds_toArray, List.set_cons_zero, List.set_cons_succ]
        refine wpAnyH_take (i := 14) (oi := ?oo14n15) (v := undef) ?hi14n15 (by kernel_rfl) (by kernel_rfl) (by kernel_rfl) ?hQ14n15 ?hy14n15 (by assumption) ?rest14n15
        case hi14n15 => (simp only [List.getElem?_toArray, List.getElem?_cons_zero, List.getElem?_cons_succ]; rfl)
        case hQ14n15 => exact fun _ _ _ h => h
        case hy14n15 => exact Or.inr ⟨by rfl, rfl⟩
        try simp only [Act.put, List.setIfInBounds_toArray, List.set_cons_zero, List.set_cons_succ]
        refine wpAnyH_take (i := 15) (oi := ?oo15n16) (v := undef) ?hi15n16 (by kernel_rfl) (by kernel_rfl) (by kernel_rfl) ?hQ15n16 ?hy15n16 (by assumption) ?rest15n16
        case hi15n16 => (simp only [List.getElem?_toArray, List.getElem?_cons_zero, List.getElem?_cons_succ]; rfl)
        case hQ15n16 => exact fun _ _ _ h => h
        case hy15n16 => exact Or.inr ⟨by rfl, rfl⟩
        try simp only [Act.put, List.setIfInBounds_toArray, List.set_cons_zero, List.set_cons_succ]
        refine wpAnyH_take (i := 16) (oi := ?oo16n17) (v := undef) ?hi16n17 (by kernel_rfl) (by kernel_rfl) (by kernel_rfl) ?hQ16n17 ?hy16n17 (by assumption) ?rest16n17
        case hi16n17 => (simp only [List.getElem?_toArray, List.getElem?_cons_zero, List.getElem?_cons_succ]; rfl)
        case hQ16n17 => exact fun _ _ _ h => h
        case hy16n17 => exact Or.inr ⟨by rfl, rfl⟩
        try simp only [Act.put, List.setIfInBounds_toArray, List.set_cons_zero, List.set_cons_succ]
        refine wpAnyH_take (i := 17) (oi := ?oo17n18) (v := undef) ?hi17n18 (by kernel_rfl) (by kernel_rfl) (by kernel_rfl) ?hQ17n18 ?hy17n18 (by assumption) ?rest17n18
        case hi17n18 => (simp only [List.getElem?_toArray, List.getElem?_cons_zero, List.getElem?_cons_succ]; rfl)
        case hQ17n18 => exact fun _ _ _ h => h
        case hy17n18 => exact Or.inr ⟨by rfl, rfl⟩
        try simp only [Act.put, List.setIfInBounds_toArray, List.set_cons_zero, List.set_cons_succ]
        refine wpAnyH_take (i := 18) (oi := ?oo18n19) (v := undef) ?hi18n19 (by kernel_rfl) (by kernel_rfl) (by kernel_rfl) ?hQ18n19 ?hy18n19 (by assumption) ?rest18n19
        case hi18n19 => (simp only [List.getElem?_toArray, List.getElem?_cons_zero, List.getElem?_cons_succ]; rfl)
        case hQ18n19 => exact fun _ _ _ h => h
        case hy18n19 => exact Or.inr ⟨by rfl, rfl⟩
        try simp only [Act.put, List.setIfInBounds_toArray, List.set_cons_zero, List.set_cons_succ]
        refine wpAnyH_take (i := 19) (oi := ?oo19n20) (v := undef) ?hi19n20 (by kernel_rfl) (by kernel_rfl) (by kernel_rfl) ?hQ19n20 ?hy19n20 (by assumption) ?rest19n20
        case hi19n20 => (simp only [List.getElem?_toArray, List.getElem?_cons_zero, List.getElem?_cons_succ]; rfl)
        case hQ19n20 => exact fun _ _ _ h => h
        case hy19n20 => exact Or.inr ⟨by rfl, rfl⟩
        try simp only [Act.put, List.setIfInBounds_toArray, List.set_cons_zero, List.set_cons_succ]
        refine wpAnyH_take (i := 20) (oi := ?oo20n21) (v := undef) ?hi20n21 (by kernel_rfl) (by kernel_rfl) (by kernel_rfl) ?hQ20n21 ?hy20n21 (by assumption) ?rest20n21
        case hi20n21 => (simp only [List.getElem?_toArray, List.getElem?_cons_zero, List.getElem?_cons_succ]; rfl)
        case hQ20n21 => exact fun _ _ _ h => h
        case hy20n21 => exact Or.inr ⟨by rfl, rfl⟩
        try simp only [Act.put, List.setIfInBounds_toArray, List.set_cons_zero, List.set_cons_succ]
        refine wpAnyH_take (i := 21) (oi := ?oo21n22) (v := undef) ?hi21n22 (by kernel_rfl) (by kernel_rfl) (by kernel_rfl) ?hQ21n22 ?hy21n22 (by assumption) ?rest21n22
        case hi21n22 => (simp only [List.getElem?_toArray, List.getElem?_cons_zero, List.getElem?_cons_succ]; rfl)
        case hQ21n22 => exact fun _ _ _ h => h
        case hy21n22 => exact Or.inr ⟨by rfl, rfl⟩
        try simp only [Act.put, List.setIfInBounds_toArray, List.set_cons_zero, List.set_cons_succ]
        refine wpAnyH_take (i := 22) (oi := ?oo22n23) (v := undef) ?hi22n23 (by kernel_rfl) (by kernel_rfl) (by kernel_rfl) ?hQ22n23 ?hy22n23 (by assumption) ?rest22n23
        case hi22n23 => (simp only [List.getElem?_toArray, List.getElem?_cons_zero, List.getElem?_cons_succ]; rfl)
        case hQ22n23 => exact fun _ _ _ h => h
        case hy22n23 => exact Or.inr ⟨by rfl, rfl⟩
        try simp only [Act.put, List.setIfInBounds_toArray, List.set_cons_zero, List.set_cons_succ]
        refine wpAnyH_take (i := 23) (oi := ?oo23n24) (v := ?vv23n24) ?hi23n24 (by kernel_rfl) (by kernel_rfl) (by kernel_rfl) ?hQ23n24 ?hy23n24 (by assumption) ?rest23n24
        case hi23n24 => (simp only [List.getElem?_toArray, List.getElem?_cons_zero, List.getElem?_cons_succ]; rfl)
        case hQ23n24 => exact fun _ _ _ h => h
        case hy23n24 => exact Or.inl ⟨by rfl, by intro wS hSw; (try dsimp only at hSw); go_simp; try first | (with_reducible rfl) | (simp only [*]; done) | omega⟩
        try simp only [Act.put, List.setIfInBounds_toArray, List.set_cons_zero, List.set_cons_succ]
        refine wpAnyH_done (by kernel_rfl) ?_ _
        go_wp2
        go_ret
        exact ⟨ret_bool (by rw [attrsB, allOk_false hlt (by rw [stepOk, unhide HX]; simp [attrD, hA])]; rfl), by (repeat (first | with_reducible assumption | with_reducible exact Below.refl _ _ | with_reducible refine Below.drew ?_ | with_reducible refine bdrewN ?_ _ | (with_reducible refine Below.alloc ?_ ?side _; case side => (first | omega | (simp [go_sem]; done) | (simp [go_sem]; omega))) | (with_reducible refine Below.setCell ?_ ?side _; case side => (first | omega | (simp [go_sem]; done) | (simp [go_sem]; omega)))))⟩
      · by_cases hk0 : k = 0
        · have hd : ¬ (0 : Int) < (k : Int) := by omega
          have hd' : decide ((0 : Int) < (k : Int)) = false := decide_eq_false hd
          have HK0 := hide hk0
          clear hk0
          go_wp2_with fail
          refine wp_region_held_drew (S := fun w' => w'.cell? ⟨b, o + k * 4, none⟩ = some (.string kk) ∧ w'.cell? ⟨b, o + k * 4 + 1, none⟩ = some (.bool bb) ∧ w'.cell? ⟨b, o + k * 4 + 2, none⟩ = some (.int .i64 nn) ∧ w'.cell? ⟨b, o + k * 4 + 3, none⟩ = some (.string tt)) (by kernel_rfl) ?_ (fun hHeld => ?_)
          · (try dsimp only); go_keep
          refine wpAnyH_take (i := 0) (oi := ?oo0n25) (v := ?vv0n25) ?hi0n25 (by kernel_rfl) (by kernel_rfl) (by kernel_rfl) ?hQ0n25 ?hy0n25 (by assumption) ?rest0n25
          case hi0n25 => (simp only [List.getElem?_toArray, List.getElem?_cons_zero]; rfl)
          case hQ0n25 => exact fun _ _ _ h => h
          case hy0n25 => exact Or.inl ⟨by rfl, by intro wS hSw; (try dsimp only at hSw); go_simp; try first | (with_reducible rfl) | (simp only [*]; done) | omega⟩
          try simp only [Act.put, List.setIfInBounds_toArray, List.set_cons_zero, List.set_cons_succ]
          refine wpAnyH_take (i := 1) (oi := ?oo1n26) (v := ?vv1n26) ?hi1n26 (by kernel_rfl) (by kernel_rfl) (by kernel_rfl) ?hQ1n26 ?hy1n26 (by assumption) ?rest1n26
          case hi1n26 => (simp only [List.getElem?_toArray, List.getElem?_cons_zero, List.getElem?_cons_succ]; rfl)
          case hQ1n26 => exact fun _ _ _ h => h
          case hy1n26 => exact Or.inl ⟨by rfl, by intro wS hSw; (try dsimp only at hSw); go_simp; try first | (with_reducible rfl) | (simp only [*]; done) | omega⟩
          try simp only [Act.put, List.setIfInBounds_toArray, List.set_cons_zero, List.set_cons_succ]
          refine wpAnyH_take (i := 2) (oi := ?oo2n27) (v := ?vv2n27) ?hi2n27 (by kernel_rfl) (by kernel_rfl) (by kernel_rfl) ?hQ2n27 ?hy2n27 (by assumption) ?rest2n27
          case hi2n27 => (simp only [List.getElem?_toArray, List.getElem?_cons_zero, List.getElem?_cons_succ]; rfl)
          case hQ2n27 => exact fun _ _ _ h => h
          case hy2n27 => exact Or.inl ⟨by rfl, by intro wS hSw; (try dsimp only at hSw); go_simp; try first | (with_reducible rfl) | (simp only [*]; done) | omega⟩
          try simp only [Act.put, List.setIfInBounds_toArray, List.set_cons_zero, List.set_cons_succ]
          refine wpAnyH_take (i := 3) (oi := ?oo3n28) (v := ?vv3n28) ?hi3n28 (by kernel_rfl) (by kernel_rfl) (by kernel_rfl) ?hQ3n28 ?hy3n28 (by assumption) ?rest3n28
          case hi3n28 => (simp only [List.getElem?_toArray, List.getElem?_cons_zero, List.getElem?_cons_succ]; rfl)
          case hQ3n28 => exact fun _ _ _ h => h
          case hy3n28 => exact Or.inl ⟨by rfl, by intro wS hSw; (try dsimp only at hSw); go_simp; try first | (with_reducible rfl) | (simp only [*]; done) | omega⟩
          try simp only [Act.put, List.setIfInBounds_toArray, List.set_cons_zero, List.set_cons_succ]
          refine wpAnyH_ready (rs := [4]) (by kernel_rfl) (by simp) ?_
          refine AllReadyH.cons (o := ?oo4n29) ?hi4n29 (fun K hK => ?rest4n29) AllReadyH.nil
          case hi4n29 => (simp only [List.getElem?_toArray, List.getElem?_cons_zero, List.getElem?_cons_succ]; rfl)
          go_simp
          refine (specAttrOk kk bb nn tt _ hw1 hw2).mono ?_
          rintro e w2 ⟨rfl, rfl⟩
          rw [hA]
          go_wp2_with fail
          refine hK.out _ _ ?_ (fun hHeld => ?_)
          · (try dsimp only); go_keep
          clear hK
          refine wpAnyH_take (i := 5) (oi := ?oo5n30) (v := ?vv5n30) ?hi5n30 (by kernel_rfl) (by kernel_rfl) (by kernel_rfl) ?hQ5n30 ?hy5n30 (by assumption) ?rest5n30
          case hi5n30 => (simp only [List.getElem?_toArray, List.getElem?_cons_zero, List.getElem?_cons_succ]; rfl)
          case hQ5n30 => exact fun _ _ _ h => h
          case hy5n30 => exact Or.inl ⟨by rfl, by intro wS hSw; (try dsimp only at hSw); go_simp; try first | (with_reducible rfl) | (simp only [*]; done) | omega⟩
          try simp only [Act.put, List.setIfInBounds_toArray, List.set_cons_zero, List.set_cons_succ]
          refine wpAnyH_take (i := 6) (oi := ?oo6n31) (v := ?vv6n31) ?hi6n31 (by kernel_rfl) (by kernel_rfl) (by kernel_rfl) ?hQ6n31 ?hy6n31 (by assumption) ?rest6n31
          case hi6n31 => (simp only [List.getElem?_toArray, List.getElem?_cons_zero, List.getElem?_cons_succ]; rfl)
          case hQ6n31 => exact fun _ _ _ h => h
          case hy6n31 => exact Or.inl ⟨by rfl, by intro wS hSw; (try dsimp only at hSw); go_simp; try first | (with_reducible rfl) | (simp only [*]; done) | omega⟩
          try simp only [Act.put, List.setIfInBounds_toArray, List.set_cons_zero, List.set_cons_succ]
          refine wpAnyH_take (i := 7) (oi := ?oo7n32) (v := ?vv7n32) ?hi7n32 (by kernel_rfl) (by kernel_rfl) (by kernel_rfl) ?hQ7n32 ?hy7n32 (by assumption) ?rest7n32
          case hi7n32 => (simp only [List.getElem?_toArray, List.getElem?_cons_zero, List.getElem?_cons_succ]; rfl)
          case hQ7n32 => exact fun _ _ _ h => h
          case hy7n32 => exact Or.inl ⟨by rfl, by intro wS hSw; (try dsimp only at hSw); go_simp; try first | (with_reducible rfl) | (simp only [*]; done) | omega⟩
          try simp only [Act.put, List.setIfInBounds_toArray, List.set_cons_zero, List.set_cons_succ]
          refine wpAnyH_take (i := 8) (oi := ?oo8n33) (v := .bool false) ?hi8n33 (by kernel_rfl) (by kernel_rfl) (by kernel_rfl) ?hQ8n33 ?hy8n33 (by assumption) ?rest8n33
          case hi8n33 => (simp only [List.getElem?_toArray, List.getElem?_cons_zero, List.getElem?_cons_succ]; rfl)
          case hQ8n33 => exact fun _ _ _ h => h
          case hy8n33 => exact Or.inl ⟨by rfl, by intro wS hSw; (try dsimp only at hSw); go_simp; try first | (with_reducible rfl) | (simp only [*]; done) | omega⟩
          try simp only [Act.put, List.setIfInBounds_toArray, List.set_cons_zero, List.set_cons_succ]
          refine wpAnyH_take (i := 9) (oi := ?oo9n34) (v := ?vv9n34) ?hi9n34 (by kernel_rfl) (by kernel_rfl) (by kernel_rfl) ?hQ9n34 ?hy9n34 (by assumption) ?rest9n34
          case hi9n34 => (simp only [List.getElem?_toArray, List.getElem?_cons_zero, List.getElem?_cons_succ]; rfl)
          case hQ9n34 => exact fun _ _ _ h => h
          case hy9n34 => exact Or.inl ⟨by rfl, by intro wS hSw; (try dsimp only at hSw); go_simp; try first | (with_reducible rfl) | (simp only [*]; done) | omega⟩
          try simp only [Act.put, List.setIfInBounds_toArray, List.set_cons_zero, List.set_cons_succ]
          refine wpAnyH_take (i := 10) (oi := ?oo10n35) (v := undef) ?hi10n35 (by kernel_rfl) (by kernel_rfl) (by kernel_rfl) ?hQ10n35 ?hy10n35 (by assumption) ?rest10n35
          case hi10n35 => (simp only [List.getElem?_toArray, List.getElem?_cons_zero, List.getElem?_cons_succ]; rfl)
          case hQ10n35 => exact fun _ _ _ h => h
          case hy10n35 => exact Or.inr ⟨by rfl, rfl⟩
          try simp only [Act.put, List.setIfInBounds_toArray, List.set_cons_zero, List.set_cons_succ]
          refine wpAnyH_take (i := 11) (oi := ?oo11n36) (v := undef) ?hi11n36 (by kernel_rfl) (by kernel_rfl) (by kernel_rfl) ?hQ11n36 ?hy11n36 (by assumption) ?rest11n36
          case hi11n36 => (simp only [List.getElem?_toArray, List.getElem?_cons_zero, List.getElem?_cons_succ]; rfl)
          case hQ11n36 => exact fun _ _ _ h => h
          case hy11n36 => exact Or.inr ⟨by rfl, rfl⟩
          try simp only [Act.put, List.setIfInBounds_toArray, List.set_cons_zero, List.set_cons_succ]
          refine wpAnyH_take (i := 12) (oi := ?oo12n37) (v := undef) ?hi12n37 (by kernel_rfl) (by kernel_rfl) (by kernel_rfl) ?hQ12n37 ?hy12n37 (by assumption) ?rest12n37
          case hi12n37 => (simp only [List.getElem?_toArray, List.getElem?_cons_zero, List.getElem?_cons_succ]; rfl)
          case hQ12n37 => exact fun _ _ _ h => h
          case hy12n37 => exact Or.inr ⟨by rfl, rfl⟩
          try simp only [Act.put, List.setIfInBounds_toArray, List.set_cons_zero, List.set_cons_succ]
          refine wpAnyH_take (i := 13) (oi := ?oo13n38) (v := undef) ?hi13n38 (by kernel_rfl) (by kernel_rfl) (by kernel_rfl) ?hQ13n38 ?hy13n38 (by assumption) ?rest13n38
          case hi13n38 => (simp only [List.getElem?_toArray, List.getElem?_cons_zero, List.getElem?_cons_succ]; rfl)
          case hQ13n38 => exact fun _ _ _ h => h
          case hy13n38 => exact Or.inr ⟨by rfl, rfl⟩
          try simp only [Act.put, List.setIfInBounds_toArray, List.set_cons_zero, List.set_cons_succ]
          refine wpAnyH_take (i := 14) (oi := ?oo14n39) (v := undef) ?hi14n39 (by kernel_rfl) (by kernel_rfl) (by kernel_rfl) ?hQ14n39 ?hy14n39 (by assumption) ?rest14n39
          case hi14n39 => (simp only [List.getElem?_toArray, List.getElem?_cons_zero, List.getElem?_cons_succ]; rfl)
          case hQ14n39 => exact fun _ _ _ h => h
          case hy14n39 => exact Or.inr ⟨by rfl, rfl⟩
          try simp only [Act.put, List.setIfInBounds_toArray, List.set_cons_zero, List.set_cons_succ]
          refine wpAnyH_take (i := 15) (oi := ?oo15n40) (v := undef) ?hi15n40 (by kernel_rfl) (by kernel_rfl) (by kernel_rfl) ?hQ15n40 ?hy15n40 (by assumption) ?rest15n40
          case hi15n40 => (simp only [List.getElem?_toArray, List.getElem?_cons_zero, List.getElem?_cons_succ]; rfl)
          case hQ15n40 => exact fun _ _ _ h => h
          case hy15n40 => exact Or.inr ⟨by rfl, rfl⟩
          try simp only [Act.put, List.setIfInBounds_toArray, List.set_cons_zero, List.set_cons_succ]
          refine wpAnyH_take (i := 16) (oi := ?oo16n41) (v := undef) ?hi16n41 (by kernel_rfl) (by kernel_rfl) (by kernel_rfl) ?hQ16n41 ?hy16n41 (by assumption) ?rest16n41
          case hi16n41 => (simp only [List.getElem?_toArray, List.getElem?_cons_zero, List.getElem?_cons_succ]; rfl)
          case hQ16n41 => exact fun _ _ _ h => h
          case hy16n41 => exact Or.inr ⟨by rfl, rfl⟩
          try simp only [Act.put, List.setIfInBounds_toArray, List.set_cons_zero, List.set_cons_succ]
          refine wpAnyH_take (i := 17) (oi := ?oo17n42) (v := undef) ?hi17n42 (by kernel_rfl) (by kernel_rfl) (by kernel_rfl) ?hQ17n42 ?hy17n42 (by assumption) ?rest17n42
          case hi17n42 => (simp only [List.getElem?_toArray, List.getElem?_cons_zero, List.getElem?_cons_succ]; rfl)
          case hQ17n42 => exact fun _ _ _ h => h
          case hy17n42 => exact Or.inr ⟨by rfl, rfl⟩
          try simp only [Act.put, List.setIfInBounds_toArray, List.set_cons_zero, List.set_cons_succ]
          refine wpAnyH_take (i := 18) (oi := ?oo18n43) (v := undef) ?hi18n43 (by kernel_rfl) (by kernel_rfl) (by kernel_rfl) ?hQ18n43 ?hy18n43 (by assumption) ?rest18n43
          case hi18n43 => (simp only [List.getElem?_toArray, List.getElem?_cons_zero, List.getElem?_cons_succ]; rfl)
          case hQ18n43 => exact fun _ _ _ h => h
          case hy18n43 => exact Or.inr ⟨by rfl, rfl⟩
          try simp only [Act.put, List.setIfInBounds_toArray, List.set_cons_zero, List.set_cons_succ]
          refine wpAnyH_take (i := 19) (oi := ?oo19n44) (v := undef) ?hi19n44 (by kernel_rfl) (by kernel_rfl) (by kernel_rfl) ?hQ19n44 ?hy19n44 (by assumption) ?rest19n44
          case hi19n44 => (simp only [List.getElem?_toArray, List.getElem?_cons_zero, List.getElem?_cons_succ]; rfl)
          case hQ19n44 => exact fun _ _ _ h => h
          case hy19n44 => exact Or.inr ⟨by rfl, rfl⟩
          try simp only [Act.put, List.setIfInBounds_toArray, List.set_cons_zero, List.set_cons_succ]
          refine wpAnyH_take (i := 20) (oi := ?oo20n45) (v := undef) ?hi20n45 (by kernel_rfl) (by kernel_rfl) (by kernel_rfl) ?hQ20n45 ?hy20n45 (by assumption) ?rest20n45
          case hi20n45 => (simp only [List.getElem?_toArray, List.getElem?_cons_zero, List.getElem?_cons_succ]; rfl)
          case hQ20n45 => exact fun _ _ _ h => h
          case hy20n45 => exact Or.inr ⟨by rfl, rfl⟩
          try simp only [Act.put, List.setIfInBounds_toArray, List.set_cons_zero, List.set_cons_succ]
          refine wpAnyH_take (i := 21) (oi := ?oo21n46) (v := undef) ?hi21n46 (by kernel_rfl) (by kernel_rfl) (by kernel_rfl) ?hQ21n46 ?hy21n46 (by assumption) ?rest21n46
          case hi21n46 => (simp only [List.getElem?_toArray, List.getElem?_cons_zero, List.getElem?_cons_succ]; rfl)
          case hQ21n46 => exact fun _ _ _ h => h
          case hy21n46 => exact Or.inr ⟨by rfl, rfl⟩
          try simp only [Act.put, List.setIfInBounds_toArray, List.set_cons_zero, List.set_cons_succ]
          refine wpAnyH_take (i := 22) (oi := ?oo22n47) (v := ?vv22n47) ?hi22n47 (by kernel_rfl) (by kernel_rfl) (by kernel_rfl) ?hQ22n47 ?hy22n47 (by assumption) ?rest22n47
          case hi22n47 => (simp only [List.getElem?_toArray, List.getElem?_cons_zero, List.getElem?_cons_succ]; rfl)
          case hQ22n47 => exact fun _ _ _ h => h
          case hy22n47 => exact Or.inl ⟨by rfl, by intro wS hSw; (try dsimp only at hSw); go_simp; try first | (with_reducible rfl) | (simp only [*]; done) | omega⟩
          try simp only [Act.put, List.setIfInBounds_toArray, List.set_cons_zero, List.set_cons_succ]
          refine wpAnyH_take (i := 23) (oi := ?oo23n48) (v := ?vv23n48) ?hi23n48 (by kernel_rfl) (by kernel_rfl) (by kernel_rfl) ?hQ23n48 ?hy23n48 (by assumption) ?rest23n48
          case hi23n48 => (simp only [List.getElem?_toArray, List.getElem?_cons_zero, List.getElem?_cons_succ]; rfl)
          case hQ23n48 => exact fun _ _ _ h => h
          case hy23n48 => exact Or.inl ⟨by rfl, by intro wS hSw; (try dsimp only at hSw); go_simp; try first | (with_reducible rfl) | (simp only [*]; done) | omega⟩
          try simp only [Act.put, List.setIfInBounds_toArray, List.set_cons_zero, List.set_cons_succ]
          refine wpAnyH_done (by kernel_rfl) ?_ _
          go_wp2
          refine ⟨⟨k + 1, by omega, by go_num, hide ?_, by (repeat (first | with_reducible assumption | with_reducible exact Below.refl _ _ | with_reducible refine Below.drew ?_ | with_reducible refine bdrewN ?_ _ | (with_reducible refine Below.alloc ?_ ?side _; case side => (first | omega | (simp [go_sem]; done) | (simp [go_sem]; omega))) | (with_reducible refine Below.setCell ?_ ?side _; case side => (first | omega | (simp [go_sem]; done) | (simp [go_sem]; omega)))))⟩, by simp [intOf]; omega⟩
          rw [allOk_succ, unhide hok, Bool.true_and, stepOk, unhide HX]
          have hk0 := unhide HK0
          simp [attrD, hA, hk0]
        · obtain ⟨m, rfl⟩ : ∃ m, k = m + 1 := ⟨k - 1, by omega⟩
          obtain ⟨b', o', e', _, p0, _, _, _⟩ := (unhide HA).at m (by omega)
          obtain ⟨rfl, rfl⟩ : b = b' ∧ o = o' := by injection e' with e'; injection e' with e1 e2; exact ⟨e1, e2⟩
          clear e'
          generalize hP : l.getD m dA = xp at *
          obtain ⟨kp, bp, np, tp⟩ := xp
          simp only at p0
          have HP := hide hP
          clear hP
          rw [← hbl.cell hbk] at p0
          have hkm : (m : Int) < (l.length : Int) := by omega
          have hwr : IntKind.i64.wrap (m : Int) = (m : Int) := by rw [IntKind.wrap_i64]; omega
          have hge : (0 : Int) ≤ (m : Int) + 1 := by omega
          have hgt : (m : Int) + 1 < (l.length : Int) := by omega
          have hd : (0 : Int) < ((m + 1 : Nat) : Int) := by omega
          have hd' : decide ((0 : Int) < ((m + 1 : Nat) : Int)) = true := decide_eq_true hd
          cases hord : Op.bytesLess kp.toList kk.toList
          · go_wp2_with fail
            refine wp_region_held_drew (S := fun w' => w'.cell? ⟨b, o + (m + 1) * 4, none⟩ = some (.string kk) ∧ w'.cell? ⟨b, o + (m + 1) * 4 + 1, none⟩ = some (.bool bb) ∧ w'.cell? ⟨b, o + (m + 1) * 4 + 2, none⟩ = some (.int .i64 nn) ∧ w'.cell? ⟨b, o + (m + 1) * 4 + 3, none⟩ = some (.string tt) ∧ w'.cell? ⟨b, o + m * 4, none⟩ = some (.string kp)) (by kernel_rfl) ?_ (fun hHeld => ?_)
            · (try dsimp only); go_keep
            refine wpAnyH_take (i := 0) (oi := ?oo0n49) (v := ?vv0n49) ?hi0n49 (by kernel_rfl) (by kernel_rfl) (by kernel_rfl) ?hQ0n49 ?hy0n49 (by assumption) ?rest0n49
            case hi0n49 => (simp only [List.getElem?_toArray, List.getElem?_cons_zero]; rfl)
            case hQ0n49 => exact fun _ _ _ h => h
            case hy0n49 => exact Or.inl ⟨by rfl, by intro wS hSw; (try dsimp only at hSw); go_simp; try first | (with_reducible rfl) | (simp only [*]; done) | omega⟩
            try simp only [Act.put, List.setIfInBounds_toArray, List.set_cons_zero, List.set_cons_succ]
            refine wpAnyH_take (i := 1) (oi := ?oo1n50) (v := ?vv1n50) ?hi1n50 (by kernel_rfl) (by kernel_rfl) (by kernel_rfl) ?hQ1n50 ?hy1n50 (by assumption) ?rest1n50
            case hi1n50 => (simp only [List.getElem?_toArray, List.getElem?_cons_zero, List.getElem?_cons_succ]; rfl)
            case hQ1n50 => exact fun _ _ _ h => h
            case hy1n50 => exact Or.inl ⟨by rfl, by intro wS hSw; (try dsimp only at hSw); go_simp; try first | (with_reducible rfl) | (simp only [*]; done) | omega⟩
            try simp only [Act.put, List.setIfInBounds_toArray, List.set_cons_zero, List.set_cons_succ]
            refine wpAnyH_take (i := 2) (oi := ?oo2n51) (v := ?vv2n51) ?hi2n51 (by kernel_rfl) (by kernel_rfl) (by kernel_rfl) ?hQ2n51 ?hy2n51 (by assumption) ?rest2n51
            case hi2n51 => (simp only [List.getElem?_toArray, List.getElem?_cons_zero, List.getElem?_cons_succ]; rfl)
            case hQ2n51 => exact fun _ _ _ h => h
            case hy2n51 => exact Or.inl ⟨by rfl, by intro wS hSw; (try dsimp only at hSw); go_simp; try first | (with_reducible rfl) | (simp only [*]; done) | omega⟩
            try simp only [Act.put, List.setIfInBounds_toArray, List.set_cons_zero, List.set_cons_succ]
            refine wpAnyH_take (i := 3) (oi := ?oo3n52) (v := ?vv3n52) ?hi3n52 (by kernel_rfl) (by kernel_rfl) (by kernel_rfl) ?hQ3n52 ?hy3n52 (by assumption) ?rest3n52
            case hi3n52 => (simp only [List.getElem?_toArray, List.getElem?_cons_zero, List.getElem?_cons_succ]; rfl)
            case hQ3n52 => exact fun _ _ _ h => h
            case hy3n52 => exact Or.inl ⟨by rfl, by intro wS hSw; (try dsimp only at hSw); go_simp; try first | (with_reducible rfl) | (simp only [*]; done) | omega⟩
            try simp only [Act.put, List.setIfInBounds_toArray, List.set_cons_zero, List.set_cons_succ]
            refine wpAnyH_ready (rs := [4]) (by kernel_rfl) (by simp) ?_
            refine AllReadyH.cons (o := ?oo4n53) ?hi4n53 (fun K hK => ?rest4n53) AllReadyH.nil
            case hi4n53 => (simp only [List.getElem?_toArray, List.getElem?_cons_zero, List.getElem?_cons_succ]; rfl)
            go_simp
            refine (specAttrOk kk bb nn tt _ hw1 hw2).mono ?_
            rintro e w2 ⟨rfl, rfl⟩
            rw [hA]
            go_wp2_with fail
            refine hK.out _ _ ?_ (fun hHeld => ?_)
            · (try dsimp only); go_keep
            clear hK
            refine wpAnyH_take (i := 5) (oi := ?oo5n54) (v := ?vv5n54) ?hi5n54 (by kernel_rfl) (by kernel_rfl) (by kernel_rfl) ?hQ5n54 ?hy5n54 (by assumption) ?rest5n54
            case hi5n54 => (simp only [List.getElem?_toArray, List.getElem?_cons_zero, List.getElem?_cons_succ]; rfl)
            case hQ5n54 => exact fun _ _ _ h => h
            case hy5n54 => exact Or.inl ⟨by rfl, by intro wS hSw; (try dsimp only at hSw); go_simp; try first | (with_reducible rfl) | (simp only [*]; done) | omega⟩
            try simp only [Act.put, List.setIfInBounds_toArray, List.set_cons_zero, List.set_cons_succ]
            refine wpAnyH_take (i := 6) (oi := ?oo6n55) (v := ?vv6n55) ?hi6n55 (by kernel_rfl) (by kernel_rfl) (by kernel_rfl) ?hQ6n55 ?hy6n55 (by assumption) ?rest6n55
            case hi6n55 => (simp only [List.getElem?_toArray, List.getElem?_cons_zero, List.getElem?_cons_succ]; rfl)
            case hQ6n55 => exact fun _ _ _ h => h
            case hy6n55 => exact Or.inl ⟨by rfl, by intro wS hSw; (try dsimp only at hSw); go_simp; try first | (with_reducible rfl) | (simp only [*]; done) | omega⟩
            try simp only [Act.put, List.setIfInBounds_toArray, List.set_cons_zero, List.set_cons_succ]
            refine wpAnyH_take (i := 7) (oi := ?oo7n56) (v := ?vv7n56) ?hi7n56 (by kernel_rfl) (by kernel_rfl) (by kernel_rfl) ?hQ7n56 ?hy7n56 (by assumption) ?rest7n56
            case hi7n56 => (simp only [List.getElem?_toArray, List.getElem?_cons_zero, List.getElem?_cons_succ]; rfl)
            case hQ7n56 => exact fun _ _ _ h => h
            case hy7n56 => exact Or.inl ⟨by rfl, by intro wS hSw; (try dsimp only at hSw); go_simp; try first | (with_reducible rfl) | (simp only [*]; done) | omega⟩
            try simp only [Act.put, List.setIfInBounds_toArray, List.set_cons_zero, List.set_cons_succ]
            refine wpAnyH_take (i := 8) (oi := ?oo8n57) (v := .bool true) ?hi8n57 (by kernel_rfl) (by kernel_rfl) (by kernel_rfl) ?hQ8n57 ?hy8n57 (by assumption) ?rest8n57
            case hi8n57 => (simp only [List.getElem?_toArray, List.getElem?_cons_zero, List.getElem?_cons_succ]; rfl)
            case hQ8n57 => exact fun _ _ _ h => h
            case hy8n57 => exact Or.inl ⟨by rfl, by intro wS hSw; (try dsimp only at hSw); go_simp; try first | (with_reducible rfl) | (simp only [*]; done) | omega⟩
            try simp only [Act.put, List.setIfInBounds_toArray, List.set_cons_zero, List.set_cons_succ]
            refine wpAnyH_take (i := 9) (oi := ?oo9n58) (v := ?vv9n58) ?hi9n58 (by kernel_rfl) (by kernel_rfl) (by kernel_rfl) ?hQ9n58 ?hy9n58 (by assumption) ?rest9n58
            case hi9n58 => (simp only [List.getElem?_toArray, List.getElem?_cons_zero, List.getElem?_cons_succ]; rfl)
            case hQ9n58 => exact fun _ _ _ h => h
            case hy9n58 => exact Or.inl ⟨by rfl, by intro wS hSw; (try dsimp only at hSw); go_simp; try first | (with_reducible rfl) | (simp only [*]; done) | omega⟩
            try simp only [Act.put, List.setIfInBounds_toArray, List.set_cons_zero, List.set_cons_succ]
            refine wpAnyH_take (i := 10) (oi := ?oo10n59) (v := ?vv10n59) ?hi10n59 (by kernel_rfl) (by kernel_rfl) (by kernel_rfl) ?hQ10n59 ?hy10n59 (by assumption) ?rest10n59
            case hi10n59 => (simp only [List.getElem?_toArray, List.getElem?_cons_zero, List.getElem?_cons_succ]; rfl)
            case hQ10n59 => exact fun _ _ _ h => h
            case hy10n59 => exact Or.inl ⟨by rfl, by intro wS hSw; (try dsimp only at hSw); go_simp; try first | (with_reducible rfl) | (simp only [*]; done) | omega⟩
            try simp only [Act.put, List.setIfInBounds_toArray, List.set_cons_zero, List.set_cons_succ]
            refine wpAnyH_take (i := 11) (oi := ?oo11n60) (v := ?vv11n60) ?hi11n60 (by kernel_rfl) (by kernel_rfl) (by kernel_rfl) ?hQ11n60 ?hy11n60 (by assumption) ?rest11n60
            case hi11n60 => (simp only [List.getElem?_toArray, List.getElem?_cons_zero, List.getElem?_cons_succ]; rfl)
            case hQ11n60 => exact fun _ _ _ h => h
            case hy11n60 => exact Or.inl ⟨by rfl, by intro wS hSw; (try dsimp only at hSw); go_simp; try first | (with_reducible rfl) | (simp only [*]; done) | omega⟩
            try simp only [Act.put, List.setIfInBounds_toArray, List.set_cons_zero, List.set_cons_succ]
            refine wpAnyH_take (i := 12) (oi := ?oo12n61) (v := ?vv12n61) ?hi12n61 (by kernel_rfl) (by kernel_rfl) (by kernel_rfl) ?hQ12n61 ?hy12n61 (by assumption) ?rest12n61
            case hi12n61 => (simp only [List.getElem?_toArray, List.getElem?_cons_zero, List.getElem?_cons_succ]; rfl)
            case hQ12n61 => exact fun _ _ _ h => h
            case hy12n61 => exact Or.inl ⟨by rfl, by intro wS hSw; (try dsimp only at hSw); go_simp; try first | (with_reducible rfl) | (simp only [*]; done) | omega⟩
            try simp only [Act.put, List.setIfInBounds_toArray, List.set_cons_zero, List.set_cons_succ]
            refine wpAnyH_take (i := 13) (oi := ?oo13n62) (v := ?vv13n62) ?hi13n62 (by kernel_rfl) (by kernel_rfl) (by kernel_rfl) ?hQ13n62 ?hy13n62 (by assumption) ?rest13n62
            case hi13n62 => (simp only [List.getElem?_toArray, List.getElem?_cons_zero, List.getElem?_cons_succ]; rfl)
            case hQ13n62 => exact fun _ _ _ h => h
            case hy13n62 => exact Or.inl ⟨by rfl, by intro wS hSw; (try dsimp only at hSw); go_simp; try first | (with_reducible rfl) | (simp only [*]; done) | omega⟩
            try simp only [Act.put, List.setIfInBounds_toArray, List.set_cons_zero, List.set_cons_succ]
            refine wpAnyH_take (i := 14) (oi := ?oo14n63) (v := ?vv14n63) ?hi14n63 (by kernel_rfl) (by kernel_rfl) (by kernel_rfl) ?hQ14n63 ?hy14n63 (by assumption) ?rest14n63
            case hi14n63 => (simp only [List.getElem?_toArray, List.getElem?_cons_zero, List.getElem?_cons_succ]; rfl)
            case hQ14n63 => exact fun _ _ _ h => h
            case hy14n63 => exact Or.inl ⟨by rfl, by intro wS hSw; (try dsimp only at hSw); go_simp; try first | (with_reducible rfl) | (simp only [*]; done) | omega⟩
            try simp only [Act.put, List.setIfInBounds_toArray, List.set_cons_zero, List.set_cons_succ]
            refine wpAnyH_take (i := 15) (oi := ?oo15n64) (v := ?vv15n64) ?hi15n64 (by kernel_rfl) (by kernel_rfl) (by kernel_rfl) ?hQ15n64 ?hy15n64 (by assumption) ?rest15n64
            case hi15n64 => (simp only [List.getElem?_toArray, List.getElem?_cons_zero, List.getElem?_cons_succ]; rfl)
            case hQ15n64 => exact fun _ _ _ h => h
            case hy15n64 => exact Or.inl ⟨by rfl, by intro wS hSw; (try dsimp only at hSw); go_simp; try first | (with_reducible rfl) | (simp only [*]; done) | omega⟩
            try simp only [Act.put, List.setIfInBounds_toArray, List.set_cons_zero, List.set_cons_succ]
            refine wpAnyH_take (i := 16) (oi := ?oo16n65) (v := ?vv16n65) ?hi16n65 (by kernel_rfl) (by kernel_rfl) (by kernel_rfl) ?hQ16n65 ?hy16n65 (by assumption) ?rest16n65
            case hi16n65 => (simp only [List.getElem?_toArray, List.getElem?_cons_zero, List.getElem?_cons_succ]; rfl)
            case hQ16n65 => exact fun _ _ _ h => h
            case hy16n65 => exact Or.inl ⟨by rfl, by intro wS hSw; (try dsimp only at hSw); go_simp; try first | (with_reducible rfl) | (simp only [*]; done) | omega⟩
            try simp only [Act.put, List.setIfInBounds_toArray, List.set_cons_zero, List.set_cons_succ]
            refine wpAnyH_take (i := 17) (oi := ?oo17n66) (v := ?vv17n66) ?hi17n66 (by kernel_rfl) (by kernel_rfl) (by kernel_rfl) ?hQ17n66 ?hy17n66 (by assumption) ?rest17n66
            case hi17n66 => (simp only [List.getElem?_toArray, List.getElem?_cons_zero, List.getElem?_cons_succ]; rfl)
            case hQ17n66 => exact fun _ _ _ h => h
            case hy17n66 => exact Or.inl ⟨by rfl, by intro wS hSw; (try dsimp only at hSw); go_simp; try first | (with_reducible rfl) | (simp only [*]; done) | omega⟩
            try simp only [Act.put, List.setIfInBounds_toArray, List.set_cons_zero, List.set_cons_succ]
            refine wpAnyH_take (i := 18) (oi := ?oo18n67) (v := ?vv18n67) ?hi18n67 (by kernel_rfl) (by kernel_rfl) (by kernel_rfl) ?hQ18n67 ?hy18n67 (by assumption) ?rest18n67
            case hi18n67 => (simp only [List.getElem?_toArray, List.getElem?_cons_zero, List.getElem?_cons_succ]; rfl)
            case hQ18n67 => exact fun _ _ _ h => h
            case hy18n67 => exact Or.inl ⟨by rfl, by intro wS hSw; (try dsimp only at hSw); go_simp; try first | (with_reducible rfl) | (simp only [*]; done) | omega⟩
            try simp only [Act.put, List.setIfInBounds_toArray, List.set_cons_zero, List.set_cons_succ]
            refine wpAnyH_take (i := 19) (oi := ?oo19n68) (v := ?vv19n68) ?hi19n68 (by kernel_rfl) (by kernel_rfl) (by kernel_rfl) ?hQ19n68 ?hy19n68 (by assumption) ?rest19n68
            case hi19n68 => (simp only [List.getElem?_toArray, List.getElem?_cons_zero, List.getElem?_cons_succ]; rfl)
            case hQ19n68 => exact fun _ _ _ h => h
            case hy19n68 => exact Or.inl ⟨by rfl, by intro wS hSw; (try dsimp only at hSw); go_simp; try first | (with_reducible rfl) | (simp only [*]; done) | omega⟩
            try simp only [Act.put, List.setIfInBounds_toArray, List.set_cons_zero, List.set_cons_succ]
            refine wpAnyH_take (i := 20) (oi := ?oo20n69) (v := ?vv20n69) ?hi20n69 (by kernel_rfl) (by kernel_rfl) (by kernel_rfl) ?hQ20n69 ?hy20n69 (by assumption) ?rest20n69
            case hi20n69 => (simp only [List.getElem?_toArray, List.getElem?_cons_zero, List.getElem?_cons_succ]; rfl)
            case hQ20n69 => exact fun _ _ _ h => h
            case hy20n69 => exact Or.inl ⟨by rfl, by intro wS hSw; (try dsimp only at hSw); go_simp; try first | (with_reducible rfl) | (simp only [*]; done) | omega⟩
            try simp only [Act.put, List.setIfInBounds_toArray, List.set_cons_zero, List.set_cons_succ]
            refine wpAnyH_take (i := 21) (oi := ?oo21n70) (v := ?vv21n70) ?hi21n70 (by kernel_rfl) (by kernel_rfl) (by kernel_rfl) ?hQ21n70 ?hy21n70 (by assumption) ?rest21n70
            case hi21n70 => (simp only [List.getElem?_toArray, List.getElem?_cons_zero, List.getElem?_cons_succ]; rfl)
            case hQ21n70 => exact fun _ _ _ h => h
            case hy21n70 => exact Or.inl ⟨by rfl, by intro wS hSw; (try dsimp only at hSw); go_simp; try first | (with_reducible rfl) | (simp only [*]; done) | omega⟩
            try simp only [Act.put, List.setIfInBounds_toArray, List.set_cons_zero, List.set_cons_succ]
            refine wpAnyH_take (i := 22) (oi := ?oo22n71) (v := ?vv22n71) ?hi22n71 (by kernel_rfl) (by kernel_rfl) (by kernel_rfl) ?hQ22n71 ?hy22n71 (by assumption) ?rest22n71
            case hi22n71 => (simp only [List.getElem?_toArray, List.getElem?_cons_zero, List.getElem?_cons_succ]; rfl)
            case hQ22n71 => exact fun _ _ _ h => h
            case hy22n71 => exact Or.inl ⟨by rfl, by intro wS hSw; (try dsimp only at hSw); go_simp; try first | (with_reducible rfl) | (simp only [*]; done) | omega⟩
            try simp only [Act.put, List.setIfInBounds_toArray, List.set_cons_zero, List.set_cons_succ]
            refine wpAnyH_take (i := 23) (oi := ?oo23n72) (v := ?vv23n72) ?hi23n72 (by kernel_rfl) (by kernel_rfl) (by kernel_rfl) ?hQ23n72 ?hy23n72 (by assumption) ?rest23n72
            case hi23n72 => (simp only [List.getElem?_toArray, List.getElem?_cons_zero, List.getElem?_cons_succ]; rfl)
            case hQ23n72 => exact fun _ _ _ h => h
            case hy23n72 => exact Or.inl ⟨by rfl, by intro wS hSw; (try dsimp only at hSw); go_simp; try first | (with_reducible rfl) | (simp only [*]; done) | omega⟩
            try simp only [Act.put, List.setIfInBounds_toArray, List.set_cons_zero, List.set_cons_succ]
            refine wpAnyH_done (by kernel_rfl) ?_ _
            go_wp2
            go_ret
            exact ⟨ret_bool (by rw [attrsB, allOk_false hlt (by rw [stepOk, unhide HX, Nat.add_sub_cancel, unhide HP]; simp [hord])]; rfl), by (repeat (first | with_reducible assumption | with_reducible exact Below.refl _ _ | with_reducible refine Below.drew ?_ | with_reducible refine bdrewN ?_ _ | (with_reducible refine Below.alloc ?_ ?side _; case side => (first | omega | (simp [go_sem]; done) | (simp [go_sem]; omega))) | (with_reducible refine Below.setCell ?_ ?side _; case side => (first | omega | (simp [go_sem]; done) | (simp [go_sem]; omega)))))⟩
          · go_wp2_with fail
            refine wp_region_held_drew (S := fun w' => w'.cell? ⟨b, o + (m + 1) * 4, none⟩ = some (.string kk) ∧ w'.cell? ⟨b, o + (m + 1) * 4 + 1, none⟩ = some (.bool bb) ∧ w'.cell? ⟨b, o + (m + 1) * 4 + 2, none⟩ = some (.int .i64 nn) ∧ w'.cell? ⟨b, o + (m + 1) * 4 + 3, none⟩ = some (.string tt) ∧ w'.cell? ⟨b, o + m * 4, none⟩ = some (.string kp)) (by kernel_rfl) ?_ (fun hHeld => ?_)
            · (try dsimp only); go_keep
            refine wpAnyH_take (i := 0) (oi := ?oo0n73) (v := ?vv0n73) ?hi0n73 (by kernel_rfl) (by kernel_rfl) (by kernel_rfl) ?hQ0n73 ?hy0n73 (by assumption) ?rest0n73
            case hi0n73 => (simp only [List.getElem?_toArray, List.getElem?_cons_zero]; rfl)
            case hQ0n73 => exact fun _ _ _ h => h
            case hy0n73 => exact Or.inl ⟨by rfl, by intro wS hSw; (try dsimp only at hSw); go_simp; try first | (with_reducible rfl) | (simp only [*]; done) | omega⟩
            try simp only [Act.put, List.setIfInBounds_toArray, List.set_cons_zero, List.set_cons_succ]
            refine wpAnyH_take (i := 1) (oi := ?oo1n74) (v := ?vv1n74) ?hi1n74 (by kernel_rfl) (by kernel_rfl) (by kernel_rfl) ?hQ1n74 ?hy1n74 (by assumption) ?rest1n74
            case hi1n74 => (simp only [List.getElem?_toArray, List.getElem?_cons_zero, List.getElem?_cons_succ]; rfl)
            case hQ1n74 => exact fun _ _ _ h => h
            case hy1n74 => exact Or.inl ⟨by rfl, by intro wS hSw; (try dsimp only at hSw); go_simp; try first | (with_reducible rfl) | (simp only [*]; done) | omega⟩
            try simp only [Act.put, List.setIfInBounds_toArray, List.set_cons_zero, List.set_cons_succ]
            refine wpAnyH_take (i := 2) (oi := ?oo2n75) (v := ?vv2n75) ?hi2n75 (by kernel_rfl) (by kernel_rfl) (by kernel_rfl) ?hQ2n75 ?hy2n75 (by assumption) ?rest2n75
            case hi2n75 => (simp only [List.getElem?_toArray, List.getElem?_cons_zero, List.getElem?_cons_succ]; rfl)
            case hQ2n75 => exact fun _ _ _ h => h
            case hy2n75 => exact Or.inl ⟨by rfl, by intro wS hSw; (try dsimp only at hSw); go_simp; try first | (with_reducible rfl) | (simp only [*]; done) | omega⟩
            try simp only [Act.put, List.setIfInBounds_toArray, List.set_cons_zero, List.set_cons_succ]
            refine wpAnyH_take (i := 3) (oi := ?oo3n76) (v := ?vv3n76) ?hi3n76 (by kernel_rfl) (by kernel_rfl) (by kernel_rfl) ?hQ3n76 ?hy3n76 (by assumption) ?rest3n76
            case hi3n76 => (simp only [List.getElem?_toArray, List.getElem?_cons_zero, List.getElem?_cons_succ]; rfl)
            case hQ3n76 => exact fun _ _ _ h => h
            case hy3n76 => exact Or.inl ⟨by rfl, by intro wS hSw; (try dsimp only at hSw); go_simp; try first | (with_reducible rfl) | (simp only [*]; done) | omega⟩
            try simp only [Act.put, List.setIfInBounds_toArray, List.set_cons_zero, List.set_cons_succ]
            refine wpAnyH_ready (rs := [4]) (by kernel_rfl) (by simp) ?_
            refine AllReadyH.cons (o := ?oo4n77) ?hi4n77 (fun K hK => ?rest4n77) AllReadyH.nil
            case hi4n77 => (simp only [List.getElem?_toArray, List.getElem?_cons_zero, List.getElem?_cons_succ]; rfl)
            go_simp
            refine (specAttrOk kk bb nn tt _ hw1 hw2).mono ?_
            rintro e w2 ⟨rfl, rfl⟩
            rw [hA]
            go_wp2_with fail
            refine hK.out _ _ ?_ (fun hHeld => ?_)
            · (try dsimp only); go_keep
            clear hK
            refine wpAnyH_take (i := 5) (oi := ?oo5n78) (v := ?vv5n78) ?hi5n78 (by kernel_rfl) (by kernel_rfl) (by kernel_rfl) ?hQ5n78 ?hy5n78 (by assumption) ?rest5n78
            case hi5n78 => (simp only [List.getElem?_toArray, List.getElem?_cons_zero, List.getElem?_cons_succ]; rfl)
            case hQ5n78 => exact fun _ _ _ h => h
            case hy5n78 => exact Or.inl ⟨by rfl, by intro wS hSw; (try dsimp only at hSw); go_simp; try first | (with_reducible rfl) | (simp only [*]; done) | omega⟩
            try simp only [Act.put, List.setIfInBounds_toArray, List.set_cons_zero, List.set_cons_succ]
            refine wpAnyH_take (i := 6) (oi := ?oo6n79) (v := ?vv6n79) ?hi6n79 (by kernel_rfl) (by kernel_rfl) (by kernel_rfl) ?hQ6n79 ?hy6n79 (by assumption) ?rest6n79
            case hi6n79 => (simp only [List.getElem?_toArray, List.getElem?_cons_zero, List.getElem?_cons_succ]; rfl)
            case hQ6n79 => exact fun _ _ _ h => h
            case hy6n79 => exact Or.inl ⟨by rfl, by intro wS hSw; (try dsimp only at hSw); go_simp; try first | (with_reducible rfl) | (simp only [*]; done) | omega⟩
            try simp only [Act.put, List.setIfInBounds_toArray, List.set_cons_zero, List.set_cons_succ]
            refine wpAnyH_take (i := 7) (oi := ?oo7n80) (v := ?vv7n80) ?hi7n80 (by kernel_rfl) (by kernel_rfl) (by kernel_rfl) ?hQ7n80 ?hy7n80 (by assumption) ?rest7n80
            case hi7n80 => (simp only [List.getElem?_toArray, List.getElem?_cons_zero, List.getElem?_cons_succ]; rfl)
            case hQ7n80 => exact fun _ _ _ h => h
            case hy7n80 => exact Or.inl ⟨by rfl, by intro wS hSw; (try dsimp only at hSw); go_simp; try first | (with_reducible rfl) | (simp only [*]; done) | omega⟩
            try simp only [Act.put, List.setIfInBounds_toArray, List.set_cons_zero, List.set_cons_succ]
            refine wpAnyH_take (i := 8) (oi := ?oo8n81) (v := .bool true) ?hi8n81 (by kernel_rfl) (by kernel_rfl) (by kernel_rfl) ?hQ8n81 ?hy8n81 (by assumption) ?rest8n81
            case hi8n81 => (simp only [List.getElem?_toArray, List.getElem?_cons_zero, List.getElem?_cons_succ]; rfl)
            case hQ8n81 => exact fun _ _ _ h => h
            case hy8n81 => exact Or.inl ⟨by rfl, by intro wS hSw; (try dsimp only at hSw); go_simp; try first | (with_reducible rfl) | (simp only [*]; done) | omega⟩
            try simp only [Act.put, List.setIfInBounds_toArray, List.set_cons_zero, List.set_cons_succ]
            refine wpAnyH_take (i := 9) (oi := ?oo9n82) (v := ?vv9n82) ?hi9n82 (by kernel_rfl) (by kernel_rfl) (by kernel_rfl) ?hQ9n82 ?hy9n82 (by assumption) ?rest9n82
            case hi9n82 => (simp only [List.getElem?_toArray, List.getElem?_cons_zero, List.getElem?_cons_succ]; rfl)
            case hQ9n82 => exact fun _ _ _ h => h
            case hy9n82 => exact Or.inl ⟨by rfl, by intro wS hSw; (try dsimp only at hSw); go_simp; try first | (with_reducible rfl) | (simp only [*]; done) | omega⟩
            try simp only [Act.put, List.setIfInBounds_toArray, List.set_cons_zero, List.set_cons_succ]
            refine wpAnyH_take (i := 10) (oi := ?oo10n83) (v := ?vv10n83) ?hi10n83 (by kernel_rfl) (by kernel_rfl) (by kernel_rfl) ?hQ10n83 ?hy10n83 (by assumption) ?rest10n83
            case hi10n83 => (simp only [List.getElem?_toArray, List.getElem?_cons_zero, List.getElem?_cons_succ]; rfl)
            case hQ10n83 => exact fun _ _ _ h => h
            case hy10n83 => exact Or.inl ⟨by rfl, by intro wS hSw; (try dsimp only at hSw); go_simp; try first | (with_reducible rfl) | (simp only [*]; done) | omega⟩
            try simp only [Act.put, List.setIfInBounds_toArray, List.set_cons_zero, List.set_cons_succ]
            refine wpAnyH_take (i := 11) (oi := ?oo11n84) (v := ?vv11n84) ?hi11n84 (by kernel_rfl) (by kernel_rfl) (by kernel_rfl) ?hQ11n84 ?hy11n84 (by assumption) ?rest11n84
            case hi11n84 => (simp only [List.getElem?_toArray, List.getElem?_cons_zero, List.getElem?_cons_succ]; rfl)
            case hQ11n84 => exact fun _ _ _ h => h
            case hy11n84 => exact Or.inl ⟨by rfl, by intro wS hSw; (try dsimp only at hSw); go_simp; try first | (with_reducible rfl) | (simp only [*]; done) | omega⟩
            try simp only [Act.put, List.setIfInBounds_toArray, List.set_cons_zero, List.set_cons_succ]
            refine wpAnyH_take (i := 12) (oi := ?oo12n85) (v := ?vv12n85) ?hi12n85 (by kernel_rfl) (by kernel_rfl) (by kernel_rfl) ?hQ12n85 ?hy12n85 (by assumption) ?rest12n85
            case hi12n85 => (simp only [List.getElem?_toArray, List.getElem?_cons_zero, List.getElem?_cons_succ]; rfl)
            case hQ12n85 => exact fun _ _ _ h => h
            case hy12n85 => exact Or.inl ⟨by rfl, by intro wS hSw; (try dsimp only at hSw); go_simp; try first | (with_reducible rfl) | (simp only [*]; done) | omega⟩
            try simp only [Act.put, List.setIfInBounds_toArray, List.set_cons_zero, List.set_cons_succ]
            refine wpAnyH_take (i := 13) (oi := ?oo13n86) (v := ?vv13n86) ?hi13n86 (by kernel_rfl) (by kernel_rfl) (by kernel_rfl) ?hQ13n86 ?hy13n86 (by assumption) ?rest13n86
            case hi13n86 => (simp only [List.getElem?_toArray, List.getElem?_cons_zero, List.getElem?_cons_succ]; rfl)
            case hQ13n86 => exact fun _ _ _ h => h
            case hy13n86 => exact Or.inl ⟨by rfl, by intro wS hSw; (try dsimp only at hSw); go_simp; try first | (with_reducible rfl) | (simp only [*]; done) | omega⟩
            try simp only [Act.put, List.setIfInBounds_toArray, List.set_cons_zero, List.set_cons_succ]
            refine wpAnyH_take (i := 14) (oi := ?oo14n87) (v := ?vv14n87) ?hi14n87 (by kernel_rfl) (by kernel_rfl) (by kernel_rfl) ?hQ14n87 ?hy14n87 (by assumption) ?rest14n87
            case hi14n87 => (simp only [List.getElem?_toArray, List.getElem?_cons_zero, List.getElem?_cons_succ]; rfl)
            case hQ14n87 => exact fun _ _ _ h => h
            case hy14n87 => exact Or.inl ⟨by rfl, by intro wS hSw; (try dsimp only at hSw); go_simp; try first | (with_reducible rfl) | (simp only [*]; done) | omega⟩
            try simp only [Act.put, List.setIfInBounds_toArray, List.set_cons_zero, List.set_cons_succ]
            refine wpAnyH_take (i := 15) (oi := ?oo15n88) (v := ?vv15n88) ?hi15n88 (by kernel_rfl) (by kernel_rfl) (by kernel_rfl) ?hQ15n88 ?hy15n88 (by assumption) ?rest15n88
            case hi15n88 => (simp only [List.getElem?_toArray, List.getElem?_cons_zero, List.getElem?_cons_succ]; rfl)
            case hQ15n88 => exact fun _ _ _ h => h
            case hy15n88 => exact Or.inl ⟨by rfl, by intro wS hSw; (try dsimp only at hSw); go_simp; try first | (with_reducible rfl) | (simp only [*]; done) | omega⟩
            try simp only [Act.put, List.setIfInBounds_toArray, List.set_cons_zero, List.set_cons_succ]
            refine wpAnyH_take (i := 16) (oi := ?oo16n89) (v := ?vv16n89) ?hi16n89 (by kernel_rfl) (by kernel_rfl) (by kernel_rfl) ?hQ16n89 ?hy16n89 (by assumption) ?rest16n89
            case hi16n89 => (simp only [List.getElem?_toArray, List.getElem?_cons_zero, List.getElem?_cons_succ]; rfl)
            case hQ16n89 => exact fun _ _ _ h => h
            case hy16n89 => exact Or.inl ⟨by rfl, by intro wS hSw; (try dsimp only at hSw); go_simp; try first | (with_reducible rfl) | (simp only [*]; done) | omega⟩
            try simp only [Act.put, List.setIfInBounds_toArray, List.set_cons_zero, List.set_cons_succ]
            refine wpAnyH_take (i := 17) (oi := ?oo17n90) (v := ?vv17n90) ?hi17n90 (by kernel_rfl) (by kernel_rfl) (by kernel_rfl) ?hQ17n90 ?hy17n90 (by assumption) ?rest17n90
            case hi17n90 => (simp only [List.getElem?_toArray, List.getElem?_cons_zero, List.getElem?_cons_succ]; rfl)
            case hQ17n90 => exact fun _ _ _ h => h
            case hy17n90 => exact Or.inl ⟨by rfl, by intro wS hSw; (try dsimp only at hSw); go_simp; try first | (with_reducible rfl) | (simp only [*]; done) | omega⟩
            try simp only [Act.put, List.setIfInBounds_toArray, List.set_cons_zero, List.set_cons_succ]
            refine wpAnyH_take (i := 18) (oi := ?oo18n91) (v := ?vv18n91) ?hi18n91 (by kernel_rfl) (by kernel_rfl) (by kernel_rfl) ?hQ18n91 ?hy18n91 (by assumption) ?rest18n91
            case hi18n91 => (simp only [List.getElem?_toArray, List.getElem?_cons_zero, List.getElem?_cons_succ]; rfl)
            case hQ18n91 => exact fun _ _ _ h => h
            case hy18n91 => exact Or.inl ⟨by rfl, by intro wS hSw; (try dsimp only at hSw); go_simp; try first | (with_reducible rfl) | (simp only [*]; done) | omega⟩
            try simp only [Act.put, List.setIfInBounds_toArray, List.set_cons_zero, List.set_cons_succ]
            refine wpAnyH_take (i := 19) (oi := ?oo19n92) (v := ?vv19n92) ?hi19n92 (by kernel_rfl) (by kernel_rfl) (by kernel_rfl) ?hQ19n92 ?hy19n92 (by assumption) ?rest19n92
            case hi19n92 => (simp only [List.getElem?_toArray, List.getElem?_cons_zero, List.getElem?_cons_succ]; rfl)
            case hQ19n92 => exact fun _ _ _ h => h
            case hy19n92 => exact Or.inl ⟨by rfl, by intro wS hSw; (try dsimp only at hSw); go_simp; try first | (with_reducible rfl) | (simp only [*]; done) | omega⟩
            try simp only [Act.put, List.setIfInBounds_toArray, List.set_cons_zero, List.set_cons_succ]
            refine wpAnyH_take (i := 20) (oi := ?oo20n93) (v := ?vv20n93) ?hi20n93 (by kernel_rfl) (by kernel_rfl) (by kernel_rfl) ?hQ20n93 ?hy20n93 (by assumption) ?rest20n93
            case hi20n93 => (simp only [List.getElem?_toArray, List.getElem?_cons_zero, List.getElem?_cons_succ]; rfl)
            case hQ20n93 => exact fun _ _ _ h => h
            case hy20n93 => exact Or.inl ⟨by rfl, by intro wS hSw; (try dsimp only at hSw); go_simp; try first | (with_reducible rfl) | (simp only [*]; done) | omega⟩
            try simp only [Act.put, List.setIfInBounds_toArray, List.set_cons_zero, List.set_cons_succ]
            refine wpAnyH_take (i := 21) (oi := ?oo21n94) (v := ?vv21n94) ?hi21n94 (by kernel_rfl) (by kernel_rfl) (by kernel_rfl) ?hQ21n94 ?hy21n94 (by assumption) ?rest21n94
            case hi21n94 => (simp only [List.getElem?_toArray, List.getElem?_cons_zero, List.getElem?_cons_succ]; rfl)
            case hQ21n94 => exact fun _ _ _ h => h
            case hy21n94 => exact Or.inl ⟨by rfl, by intro wS hSw; (try dsimp only at hSw); go_simp; try first | (with_reducible rfl) | (simp only [*]; done) | omega⟩
            try simp only [Act.put, List.setIfInBounds_toArray, List.set_cons_zero, List.set_cons_succ]
            refine wpAnyH_take (i := 22) (oi := ?oo22n95) (v := ?vv22n95) ?hi22n95 (by kernel_rfl) (by kernel_rfl) (by kernel_rfl) ?hQ22n95 ?hy22n95 (by assumption) ?rest22n95
            case hi22n95 => (simp only [List.getElem?_toArray, List.getElem?_cons_zero, List.getElem?_cons_succ]; rfl)
            case hQ22n95 => exact fun _ _ _ h => h
            case hy22n95 => exact Or.inl ⟨by rfl, by intro wS hSw; (try dsimp only at hSw); go_simp; try first | (with_reducible rfl) | (simp only [*]; done) | omega⟩
            try simp only [Act.put, List.setIfInBounds_toArray, List.set_cons_zero, List.set_cons_succ]
            refine wpAnyH_take (i := 23) (oi := ?oo23n96) (v := ?vv23n96) ?hi23n96 (by kernel_rfl) (by kernel_rfl) (by kernel_rfl) ?hQ23n96 ?hy23n96 (by assumption) ?rest23n96
            case hi23n96 => (simp only [List.getElem?_toArray, List.getElem?_cons_zero, List.getElem?_cons_succ]; rfl)
            case hQ23n96 => exact fun _ _ _ h => h
            case hy23n96 => exact Or.inl ⟨by rfl, by intro wS hSw; (try dsimp only at hSw); go_simp; try first | (with_reducible rfl) | (simp only [*]; done) | omega⟩
            try simp only [Act.put, List.setIfInBounds_toArray, List.set_cons_zero, List.set_cons_succ]
            refine wpAnyH_done (by kernel_rfl) ?_ _
            go_wp2
            refine ⟨⟨m + 1 + 1, by omega, by go_num, hide ?_, by (repeat (first | with_reducible assumption | with_reducible exact Below.refl _ _ | with_reducible refine Below.drew ?_ | with_reducible refine bdrewN ?_ _ | (with_reducible refine Below.alloc ?_ ?side _; case side => (first | omega | (simp [go_sem]; done) | (simp [go_sem]; omega))) | (with_reducible refine Below.setCell ?_ ?side _; case side => (first | omega | (simp [go_sem]; done) | (simp [go_sem]; omega)))))⟩, by simp [intOf]; omega⟩
            rw [allOk_succ, unhide hok, Bool.true_and, stepOk, unhide HX, Nat.add_sub_cancel, unhide HP]
            simp [attrD, hA, hord]
    · have hki : ¬ (k : Int) < (l.length : Int) := by omega
      obtain rfl : k = l.length := by omega
      go_wp2
      go_ret
      exact ⟨ret_bool (by rw [attrsB, unhide hok, Bool.true_and]; exact decide_eq_decide.2 (by omega)), hbl⟩

set_option maxHeartbeats 4000000 in
theorem implAttrsOk (l : List AttrD) (v : Value) (w : World) (ha : AttrsAt w v l) :
    Calls Try.prog 200 #[v] w fun e w' => e = .returned (.bool (attrsB l)) ∧ Below w.heap.size w w' := by
  obtain ⟨a, cap, rfl⟩ := ha.form
  have hl := ha.len
  have HA := hide ha
  clear ha
  by_cases hbig : (4 : Int) < (l.length : Int)
  case pos =>
    go_enter Try.func200, Try.ntmps200
    go_wp2
    go_ret
    exact ⟨ret_bool (by rw [attrsB, decide_eq_false (p := l.length ≤ 4) (by omega), Bool.and_false]), Below.refl _ _⟩
  go_enter Try.func200, Try.ntmps200
  go_wp2
  go_loopw [10] (fun i wk => ∃ k : Nat, k ≤ l.length ∧ i = .int .i64 k ∧ Hid (allOk l k = true) ∧ Below w.heap.size w wk) (fun i _ => l.length - (intOf i).toNat)
  case atStart => exact ⟨0, Nat.zero_le _, rfl, hide rfl, Below.refl _ _⟩
  case round =>
    obtain ⟨k, hk, rfl, hok, hbl⟩ := hrel
    have hbs := hbl.size
    by_cases hlt : k < l.length
    · obtain ⟨b, o, rfl, hbk, c0, c1, c2, c3⟩ := (unhide HA).at k hlt
      obtain ⟨hw1, hw2⟩ := (unhide HA).wf k hlt
      generalize hX : l.getD k dA = x at *
      obtain ⟨kk, bb, nn, tt⟩ := x
      simp only at c0 c1 c2 c3 hw1 hw2
      have HX := hide hX
      clear hX
      rw [← hbl.cell hbk] at c0 c1 c2 c3
      have hki : (k : Int) < (l.length : Int) := by omega
      have hbw : b < wr.heap.size := Nat.lt_of_lt_of_le hbk hbs
      cases hA : attrB kk bb nn tt
      · go_wp2_with fail
        refine wp_region_held_drew (S := fun w' => w'.cell? ⟨wr.heap.size, 0, none⟩ = some (.string kk) ∧ w'.cell? ⟨wr.heap.size, 1, none⟩ = some (.bool bb) ∧ w'.cell? ⟨wr.heap.size, 2, none⟩ = some (.int .i64 nn) ∧ w'.cell? ⟨wr.heap.size, 3, none⟩ = some (.string tt)) (by kernel_rfl) ?_ (fun hHeld => ?_)
        · (try dsimp only); go_keep
        refine wpAnyH_take (i := 0) (oi := ?oo0n1001) (v := ?vv0n1001) ?hi0n1001 (by kernel_rfl) (by kernel_rfl) (by kernel_rfl) ?hQ0n1001 ?hy0n1001 (by assumption) ?rest0n1001
        case hi0n1001 => (simp only [List.getElem?_toArray, List.getElem?_cons_zero]; rfl)
        case hQ0n1001 => exact fun _ _ _ h => h
        case hy0n1001 => exact Or.inl ⟨by rfl, by intro wS hSw; (try dsimp only at hSw); go_simp; try first | (with_reducible rfl) | (simp only [*]; done) | omega⟩
        try simp only [Act.put, List.setIfInBounds_toArray, List.set_cons_zero, List.set_cons_succ]
        refine wpAnyH_ready (rs := [1]) (by kernel_rfl) (by simp) ?_
        refine AllReadyH.cons (o := ?oo1n1002) ?hi1n1002 (fun K hK => ?rest1n1002) AllReadyH.nil
        case hi1n1002 => (simp only [List.getElem?_toArray, List.getElem?_cons_zero, List.getElem?_cons_succ]; rfl)
        go_simp
        refine (implAttrOk kk bb nn tt _ hw1 hw2).mono ?_
        rintro e w2 ⟨rfl, hb2⟩
        rw [hA]
        go_wp2_with fail
        refine hK.out _ _ ?_ (fun hHeld => ?_)
        · refine ⟨?_, ?_, ?_, ?_⟩ <;> (rw [hb2.cell (by simp [go_sem])]; simp [go_sem])
        clear hK
        refine wpAnyH_take (i := 2) (oi := ?oo2n1003) (v := ?vv2n1003) ?hi2n1003 (by kernel_rfl) (by kernel_rfl) (by kernel_rfl) ?hQ2n1003 ?hy2n1003 (by assumption) ?rest2n1003
        case hi2n1003 => (simp only [List.getElem?_toArray, List.getElem?_cons_zero, List.getElem?_cons_succ]; rfl)
        case hQ2n1003 => exact fun _ _ _ h => h
        case hy2n1003 => exact Or.inl ⟨by rfl, by intro wS hSw; (try dsimp only at hSw); go_simp; try first | (with_reducible rfl) | (simp only [*]; done) | omega⟩
        try simp only [Act.put, List.setIfInBounds_toArray, List.set_cons_zero, List.set_cons_succ]
        refine wpAnyH_take (i := 3) (oi := ?oo3n1004) (v := ?vv3n1004) ?hi3n1004 (by kernel_rfl) (by kernel_rfl) (by kernel_rfl) ?hQ3n1004 ?hy3n1004 (by assumption) ?rest3n1004
        case hi3n1004 => (simp only [List.getElem?_toArray, List.getElem?_cons_zero, List.getElem?_cons_succ]; rfl)
        case hQ3n1004 => exact fun _ _ _ h => h
        case hy3n1004 => exact Or.inl ⟨by rfl, by intro wS hSw; (try dsimp only at hSw); go_simp; try first | (with_reducible rfl) | (simp only [*]; done) | omega⟩
        try simp only [Act.put, List.setIfInBounds_toArray, List.set_cons_zero, List.set_cons_succ]
        refine wpAnyH_take (i := 4) (oi := ?oo4n1005) (v := undef) ?hi4n1005 (by kernel_rfl) (by kernel_rfl) (by kernel_rfl) ?hQ4n1005 ?hy4n1005 (by assumption) ?rest4n1005
        case hi4n1005 => (simp only [List.getElem?_toArray, List.getElem?_cons_zero, List.getElem?_cons_succ]; rfl)
        case hQ4n1005 => exact fun _ _ _ h => h
        case hy4n1005 => exact Or.inr ⟨by rfl, rfl⟩
        try simp only [Act.put, List.setIfInBounds_toArray, List.set_cons_zero, List.set_cons_succ]
        refine wpAnyH_take (i := 5) (oi := ?oo5n1006) (v := undef) ?hi5n1006 (by kernel_rfl) (by kernel_rfl) (by kernel_rfl) ?hQ5n1006 ?hy5n1006 (by assumption) ?rest5n1006
        case hi5n1006 => (simp only [List.getElem?_toArray, List.getElem?_cons_zero, List.getElem?_cons_succ]; rfl)
        case hQ5n1006 => exact fun _ _ _ h => h
        case hy5n1006 => exact Or.inr ⟨by rfl, rfl⟩
        try simp only [Act.put, List.setIfInBounds_toArray, List.set_cons_zero, List.set_cons_succ]
        refine wpAnyH_take (i := 6) (oi := ?oo6n1007) (v := undef) ?hi6n1007 (by kernel_rfl) (by kernel_rfl) (by kernel_rfl) ?hQ6n1007 ?hy6n1007 (by assumption) ?rest6n1007
        case hi6n1007 => (simp only [List.getElem?_toArray, List.getElem?_cons_zero, List.getElem?_cons_succ]; rfl)
        case hQ6n1007 => exact fun _ _ _ h => h
        case hy6n1007 => exact Or.inr ⟨by rfl, rfl⟩
        try simp only [Act.put, List.setIfInBounds_toArray, List.set_cons_zero, List.set_cons_succ]
        refine wpAnyH_take (i := 7) (oi := ?oo7n1008) (v := undef) ?hi7n1008 (by kernel_rfl) (by kernel_rfl) (by kernel_rfl) ?hQ7n1008 ?hy7n1008 (by assumption) ?rest7n1008
        case hi7n1008 => (simp only [List.getElem?_toArray, List.getElem?_cons_zero, List.getElem?_cons_succ]; rfl)
        case hQ7n1008 => exact fun _ _ _ h => h
        case hy7n1008 => exact Or.inr ⟨by rfl, rfl⟩
        try simp only [Act.put, List.setIfInBounds_toArray, List.set_cons_zero, List.set_cons_succ]
        refine wpAnyH_take (i := 8) (oi := ?oo8n1009) (v := undef) ?hi8n1009 (by kernel_rfl) (by kernel_rfl) (by kernel_rfl) ?hQ8n1009 ?hy8n1009 (by assumption) ?rest8n1009
        case hi8n1009 => (simp only [List.getElem?_toArray, List.getElem?_cons_zero, List.getElem?_cons_succ]; rfl)
        case hQ8n1009 => exact fun _ _ _ h => h
        case hy8n1009 => exact Or.inr ⟨by rfl, rfl⟩
        try simp only [Act.put, List.setIfInBounds_toArray, List.set_cons_zero, List.set_cons_succ]
        refine wpAnyH_take (i := 9) (oi := ?oo9n1010) (v := undef) ?hi9n1010 (by kernel_rfl) (by kernel_rfl) (by kernel_rfl) ?hQ9n1010 ?hy9n1010 (by assumption) ?rest9n1010
        case hi9n1010 => (simp only [List.getElem?_toArray, List.getElem?_cons_zero, List.getElem?_cons_succ]; rfl)
        case hQ9n1010 => exact fun _ _ _ h => h
        case hy9n1010 => exact Or.inr ⟨by rfl, rfl⟩
        try simp only [Act.put, List.setIfInBounds_toArray, List.set_cons_zero, List.set_cons_succ]
        refine wpAnyH_take (i := 10) (oi := ?oo10n1011) (v := undef) ?hi10n1011 (by kernel_rfl) (by kernel_rfl) (by kernel_rfl) ?hQ10n1011 ?hy10n1011 (by assumption) ?rest10n1011
        case hi10n1011 => (simp only [List.getElem?_toArray, List.getElem?_cons_zero, List.getElem?_cons_succ]; rfl)
        case hQ10n1011 => exact fun _ _ _ h => h
        case hy10n1011 => exact Or.inr ⟨by rfl, rfl⟩
        try simp only [Act.put, List.setIfInBounds_toArray, List.set_cons_zero, List.set_cons_succ]
        refine wpAnyH_take (i := 11) (oi := ?oo11n1012) (v := undef) ?hi11n1012 (by kernel_rfl) (by kernel_rfl) (by kernel_rfl) ?hQ11n1012 ?hy11n1012 (by assumption) ?rest11n1012
        case hi11n1012 => (simp only [List.getElem?_toArray, List.getElem?_cons_zero, List.getElem?_cons_succ]; rfl)
        case hQ11n1012 => exact fun _ _ _ h => h
        case hy11n1012 => exact Or.inr ⟨by rfl, rfl⟩
        try simp only [Act.put, List.setIfInBounds_toArray, List.set_cons_zero, List.set_cons_succ]
        refine wpAnyH_take (i := 12) (oi := ?oo12n1013) (v := undef) ?hi12n1013 (by kernel_rfl) (by kernel_rfl) (by kernel_rfl) ?hQ12n1013 ?hy12n1013 (by assumption) ?rest12n1013
        case hi12n1013 => (simp only [List.getElem?_toArray, List.getElem?_cons_zero, List.getElem?_cons_succ]; rfl)
        case hQ12n1013 => exact fun _ _ _ h => h
        case hy12n1013 => exact Or.inr ⟨by rfl, rfl⟩
        try simp only [Act.put, List.setIfInBounds_toArray, List.set_cons_zero, List.set_cons_succ]
        refine wpAnyH_take (i := 13) (oi := ?oo13n1014) (v := undef) ?hi13n1014 (by kernel_rfl) (by kernel_rfl) (by kernel_rfl) ?hQ13n1014 ?hy13n1014 (by assumption) ?rest13n1014
        case hi13n1014 => (simp only [List.getElem?_toArray, List.getElem?_cons_zero, List.getElem?_cons_succ]; rfl)
        case hQ13n1014 => exact fun _ _ _ h => h
        case hy13n1014 => exact Or.inr ⟨by rfl, rfl⟩
        try simp only [Act.put, List.setIfInBounds_toArray, List.set_cons_zero, List.set_cons_succ]
        refine wpAnyH_take (i := 14) (oi := ?oo14n1015) (v := undef) ?hi14n1015 (by kernel_rfl) (by kernel_rfl) (by kernel_rfl) ?hQ14n1015 ?hy14n1015 (by assumption) ?rest14n1015
        case hi14n1015 => (simp only [List.getElem?_toArray, List.getElem?_cons_zero, List.getElem?_cons_succ]; rfl)
        case hQ14n1015 => exact fun _ _ _ h => h
        case hy14n1015 => exact Or.inr ⟨by rfl, rfl⟩
        try simp only [Act.put, List.setIfInBounds_toArray, List.set_cons_zero, List.set_cons_succ]
        refine wpAnyH_take (i := 15) (oi := ?oo15n1016) (v := undef) ?hi15n1016 (by kernel_rfl) (by kernel_rfl) (by kernel_rfl) ?hQ15n1016 ?hy15n1016 (by assumption) ?rest15n1016
        case hi15n1016 => (simp only [List.getElem?_toArray, List.getElem?_cons_zero, List.getElem?_cons_succ]; rfl)
        case hQ15n1016 => exact fun _ _ _ h => h
        case hy15n1016 => exact Or.inr ⟨by rfl, rfl⟩
        try simp only [Act.put, List.setIfInBounds_toArray, List.set_cons_zero, List.set_cons_succ]
        refine wpAnyH_take (i := 16) (oi := ?oo16n1017) (v := undef) ?hi16n1017 (by kernel_rfl) (by kernel_rfl) (by kernel_rfl) ?hQ16n1017 ?hy16n1017 (by assumption) ?rest16n1017
        case hi16n1017 => (simp only [List.getElem?_toArray, List.getElem?_cons_zero, List.getElem?_cons_succ]; rfl)
        case hQ16n1017 => exact fun _ _ _ h => h
        case hy16n1017 => exact Or.inr ⟨by rfl, rfl⟩
        try simp only [Act.put, List.setIfInBounds_toArray, List.set_cons_zero, List.set_cons_succ]
        refine wpAnyH_take (i := 17) (oi := ?oo17n1018) (v := ?vv17n1018) ?hi17n1018 (by kernel_rfl) (by kernel_rfl) (by kernel_rfl) ?hQ17n1018 ?hy17n1018 (by assumption) ?rest17n1018
        case hi17n1018 => (simp only [List.getElem?_toArray, List.getElem?_cons_zero, List.getElem?_cons_succ]; rfl)
        case hQ17n1018 => exact fun _ _ _ h => h
        case hy17n1018 => exact Or.inl ⟨by rfl, by intro wS hSw; (try dsimp only at hSw); go_simp; try first | (with_reducible rfl) | (simp only [*]; done) | omega⟩
        try simp only [Act.put, List.setIfInBounds_toArray, List.set_cons_zero, List.set_cons_succ]
        refine wpAnyH_done (by kernel_rfl) ?_ _
        go_wp2
        go_ret
        exact ⟨ret_bool (by rw [attrsB, allOk_false hlt (by rw [stepOk, unhide HX]; simp [attrD, hA])]; rfl), bthen (by (repeat (first | with_reducible assumption | with_reducible exact Below.refl _ _ | with_reducible refine Below.drew ?_ | with_reducible refine bdrewN ?_ _ | (with_reducible refine Below.alloc ?_ ?side _; case side => (first | omega | (simp [go_sem]; done) | (simp [go_sem]; omega))) | (with_reducible refine Below.setCell ?_ ?side _; case side => (first | omega | (simp [go_sem]; done) | (simp [go_sem]; omega)))))) hb2⟩
      · by_cases hk0 : k = 0
        · have hd : ¬ (0 : Int) < (k : Int) := by omega
          have hd' : decide ((0 : Int) < (k : Int)) = false := decide_eq_false hd
          have HK0 := hide hk0
          clear hk0
          go_wp2_with fail
          refine wp_region_held_drew (S := fun w' => w'.cell? ⟨wr.heap.size, 0, none⟩ = some (.string kk) ∧ w'.cell? ⟨wr.heap.size, 1, none⟩ = some (.bool bb) ∧ w'.cell? ⟨wr.heap.size, 2, none⟩ = some (.int .i64 nn) ∧ w'.cell? ⟨wr.heap.size, 3, none⟩ = some (.string tt)) (by kernel_rfl) ?_ (fun hHeld => ?_)
          · (try dsimp only); go_keep
          refine wpAnyH_take (i := 0) (oi := ?oo0n1019) (v := ?vv0n1019) ?hi0n1019 (by kernel_rfl) (by kernel_rfl) (by kernel_rfl) ?hQ0n1019 ?hy0n1019 (by assumption) ?rest0n1019
          case hi0n1019 => (simp only [List.getElem?_toArray, List.getElem?_cons_zero]; rfl)
          case hQ0n1019 => exact fun _ _ _ h => h
          case hy0n1019 => exact Or.inl ⟨by rfl, by intro wS hSw; (try dsimp only at hSw); go_simp; try first | (with_reducible rfl) | (simp only [*]; done) | omega⟩
          try simp only [Act.put, List.setIfInBounds_toArray, List.set_cons_zero, List.set_cons_succ]
          refine wpAnyH_ready (rs := [1]) (by kernel_rfl) (by simp) ?_
          refine AllReadyH.cons (o := ?oo1n1020) ?hi1n1020 (fun K hK => ?rest1n1020) AllReadyH.nil
          case hi1n1020 => (simp only [List.getElem?_toArray, List.getElem?_cons_zero, List.getElem?_cons_succ]; rfl)
          go_simp
          refine (implAttrOk kk bb nn tt _ hw1 hw2).mono ?_
          rintro e w2 ⟨rfl, hb2⟩
          rw [hA]
          go_wp2_with fail
          refine hK.out _ _ ?_ (fun hHeld => ?_)
          · refine ⟨?_, ?_, ?_, ?_⟩ <;> (rw [hb2.cell (by simp [go_sem])]; simp [go_sem])
          clear hK
          refine wpAnyH_take (i := 2) (oi := ?oo2n1021) (v := ?vv2n1021) ?hi2n1021 (by kernel_rfl) (by kernel_rfl) (by kernel_rfl) ?hQ2n1021 ?hy2n1021 (by assumption) ?rest2n1021
          case hi2n1021 => (simp only [List.getElem?_toArray, List.getElem?_cons_zero, List.getElem?_cons_succ]; rfl)
          case hQ2n1021 => exact fun _ _ _ h => h
          case hy2n1021 => exact Or.inl ⟨by rfl, by intro wS hSw; (try dsimp only at hSw); go_simp; try first | (with_reducible rfl) | (simp only [*]; done) | omega⟩
          try simp only [Act.put, List.setIfInBounds_toArray, List.set_cons_zero, List.set_cons_succ]
          refine wpAnyH_take (i := 3) (oi := ?oo3n1022) (v := ?vv3n1022) ?hi3n1022 (by kernel_rfl) (by kernel_rfl) (by kernel_rfl) ?hQ3n1022 ?hy3n1022 (by assumption) ?rest3n1022
          case hi3n1022 => (simp only [List.getElem?_toArray, List.getElem?_cons_zero, List.getElem?_cons_succ]; rfl)
          case hQ3n1022 => exact fun _ _ _ h => h
          case hy3n1022 => exact Or.inl ⟨by rfl, by intro wS hSw; (try dsimp only at hSw); go_simp; try first | (with_reducible rfl) | (simp only [*]; done) | omega⟩
          try simp only [Act.put, List.setIfInBounds_toArray, List.set_cons_zero, List.set_cons_succ]
          refine wpAnyH_take (i := 4) (oi := ?oo4n1023) (v := ?vv4n1023) ?hi4n1023 (by kernel_rfl) (by kernel_rfl) (by kernel_rfl) ?hQ4n1023 ?hy4n1023 (by assumption) ?rest4n1023
          case hi4n1023 => (simp only [List.getElem?_toArray, List.getElem?_cons_zero, List.getElem?_cons_succ]; rfl)
          case hQ4n1023 => exact fun _ _ _ h => h
          case hy4n1023 => exact Or.inl ⟨by rfl, by intro wS hSw; (try dsimp only at hSw); go_simp; try first | (with_reducible rfl) | (simp only [*]; done) | omega⟩
          try simp only [Act.put, List.setIfInBounds_toArray, List.set_cons_zero, List.set_cons_succ]
          refine wpAnyH_take (i := 5) (oi := ?oo5n1024) (v := .bool false) ?hi5n1024 (by kernel_rfl) (by kernel_rfl) (by kernel_rfl) ?hQ5n1024 ?hy5n1024 (by assumption) ?rest5n1024
          case hi5n1024 => (simp only [List.getElem?_toArray, List.getElem?_cons_zero, List.getElem?_cons_succ]; rfl)
          case hQ5n1024 => exact fun _ _ _ h => h
          case hy5n1024 => exact Or.inl ⟨by rfl, by intro wS hSw; (try dsimp only at hSw); go_simp; try first | (with_reducible rfl) | (simp only [*]; done) | omega⟩
          try simp only [Act.put, List.setIfInBounds_toArray, List.set_cons_zero, List.set_cons_succ]
          refine wpAnyH_take (i := 6) (oi := ?oo6n1025) (v := ?vv6n1025) ?hi6n1025 (by kernel_rfl) (by kernel_rfl) (by kernel_rfl) ?hQ6n1025 ?hy6n1025 (by assumption) ?rest6n1025
          case hi6n1025 => (simp only [List.getElem?_toArray, List.getElem?_cons_zero, List.getElem?_cons_succ]; rfl)
          case hQ6n1025 => exact fun _ _ _ h => h
          case hy6n1025 => exact Or.inl ⟨by rfl, by intro wS hSw; (try dsimp only at hSw); go_simp; try first | (with_reducible rfl) | (simp only [*]; done) | omega⟩
          try simp only [Act.put, List.setIfInBounds_toArray, List.set_cons_zero, List.set_cons_succ]
          refine wpAnyH_take (i := 7) (oi := ?oo7n1026) (v := undef) ?hi7n1026 (by kernel_rfl) (by kernel_rfl) (by kernel_rfl) ?hQ7n1026 ?hy7n1026 (by assumption) ?rest7n1026
          case hi7n1026 => (simp only [List.getElem?_toArray, List.getElem?_cons_zero, List.getElem?_cons_succ]; rfl)
          case hQ7n1026 => exact fun _ _ _ h => h
          case hy7n1026 => exact Or.inr ⟨by rfl, rfl⟩
          try simp only [Act.put, List.setIfInBounds_toArray, List.set_cons_zero, List.set_cons_succ]
          refine wpAnyH_take (i := 8) (oi := ?oo8n1027) (v := undef) ?hi8n1027 (by kernel_rfl) (by kernel_rfl) (by kernel_rfl) ?hQ8n1027 ?hy8n1027 (by assumption) ?rest8n1027
          case hi8n1027 => (simp only [List.getElem?_toArray, List.getElem?_cons_zero, List.getElem?_cons_succ]; rfl)
          case hQ8n1027 => exact fun _ _ _ h => h
          case hy8n1027 => exact Or.inr ⟨by rfl, rfl⟩
          try simp only [Act.put, List.setIfInBounds_toArray, List.set_cons_zero, List.set_cons_succ]
          refine wpAnyH_take (i := 9) (oi := ?oo9n1028) (v := undef) ?hi9n1028 (by kernel_rfl) (by kernel_rfl) (by kernel_rfl) ?hQ9n1028 ?hy9n1028 (by assumption) ?rest9n1028
          case hi9n1028 => (simp only [List.getElem?_toArray, List.getElem?_cons_zero, List.getElem?_cons_succ]; rfl)
          case hQ9n1028 => exact fun _ _ _ h => h
          case hy9n1028 => exact Or.inr ⟨by rfl, rfl⟩
          try simp only [Act.put, List.setIfInBounds_toArray, List.set_cons_zero, List.set_cons_succ]
          refine wpAnyH_take (i := 10) (oi := ?oo10n1029) (v := undef) ?hi10n1029 (by kernel_rfl) (by kernel_rfl) (by kernel_rfl) ?hQ10n1029 ?hy10n1029 (by assumption) ?rest10n1029
          case hi10n1029 => (simp only [List.getElem?_toArray, List.getElem?_cons_zero, List.getElem?_cons_succ]; rfl)
          case hQ10n1029 => exact fun _ _ _ h => h
          case hy10n1029 => exact Or.inr ⟨by rfl, rfl⟩
          try simp only [Act.put, List.setIfInBounds_toArray, List.set_cons_zero, List.set_cons_succ]
          refine wpAnyH_take (i := 11) (oi := ?oo11n1030) (v := undef) ?hi11n1030 (by kernel_rfl) (by kernel_rfl) (by kernel_rfl) ?hQ11n1030 ?hy11n1030 (by assumption) ?rest11n1030
          case hi11n1030 => (simp only [List.getElem?_toArray, List.getElem?_cons_zero, List.getElem?_cons_succ]; rfl)
          case hQ11n1030 => exact fun _ _ _ h => h
          case hy11n1030 => exact Or.inr ⟨by rfl, rfl⟩
          try simp only [Act.put, List.setIfInBounds_toArray, List.set_cons_zero, List.set_cons_succ]
          refine wpAnyH_take (i := 12) (oi := ?oo12n1031) (v := undef) ?hi12n1031 (by kernel_rfl) (by kernel_rfl) (by kernel_rfl) ?hQ12n1031 ?hy12n1031 (by assumption) ?rest12n1031
          case hi12n1031 => (simp only [List.getElem?_toArray, List.getElem?_cons_zero, List.getElem?_cons_succ]; rfl)
          case hQ12n1031 => exact fun _ _ _ h => h
          case hy12n1031 => exact Or.inr ⟨by rfl, rfl⟩
          try simp only [Act.put, List.setIfInBounds_toArray, List.set_cons_zero, List.set_cons_succ]
          refine wpAnyH_take (i := 13) (oi := ?oo13n1032) (v := undef) ?hi13n1032 (by kernel_rfl) (by kernel_rfl) (by kernel_rfl) ?hQ13n1032 ?hy13n1032 (by assumption) ?rest13n1032
          case hi13n1032 => (simp only [List.getElem?_toArray, List.getElem?_cons_zero, List.getElem?_cons_succ]; rfl)
          case hQ13n1032 => exact fun _ _ _ h => h
          case hy13n1032 => exact Or.inr ⟨by rfl, rfl⟩
          try simp only [Act.put, List.setIfInBounds_toArray, List.set_cons_zero, List.set_cons_succ]
          refine wpAnyH_take (i := 14) (oi := ?oo14n1033) (v := undef) ?hi14n1033 (by kernel_rfl) (by kernel_rfl) (by kernel_rfl) ?hQ14n1033 ?hy14n1033 (by assumption) ?rest14n1033
          case hi14n1033 => (simp only [List.getElem?_toArray, List.getElem?_cons_zero, List.getElem?_cons_succ]; rfl)
          case hQ14n1033 => exact fun _ _ _ h => h
          case hy14n1033 => exact Or.inr ⟨by rfl, rfl⟩
          try simp only [Act.put, List.setIfInBounds_toArray, List.set_cons_zero, List.set_cons_succ]
          refine wpAnyH_take (i := 15) (oi := ?oo15n1034) (v := undef) ?hi15n1034 (by kernel_rfl) (by kernel_rfl) (by kernel_rfl) ?hQ15n1034 ?hy15n1034 (by assumption) ?rest15n1034
          case hi15n1034 => (simp only [List.getElem?_toArray, List.getElem?_cons_zero, List.getElem?_cons_succ]; rfl)
          case hQ15n1034 => exact fun _ _ _ h => h
          case hy15n1034 => exact Or.inr ⟨by rfl, rfl⟩
          try simp only [Act.put, List.setIfInBounds_toArray, List.set_cons_zero, List.set_cons_succ]
          refine wpAnyH_take (i := 16) (oi := ?oo16n1035) (v := ?vv16n1035) ?hi16n1035 (by kernel_rfl) (by kernel_rfl) (by kernel_rfl) ?hQ16n1035 ?hy16n1035 (by assumption) ?rest16n1035
          case hi16n1035 => (simp only [List.getElem?_toArray, List.getElem?_cons_zero, List.getElem?_cons_succ]; rfl)
          case hQ16n1035 => exact fun _ _ _ h => h
          case hy16n1035 => exact Or.inl ⟨by rfl, by intro wS hSw; (try dsimp only at hSw); go_simp; try first | (with_reducible rfl) | (simp only [*]; done) | omega⟩
          try simp only [Act.put, List.setIfInBounds_toArray, List.set_cons_zero, List.set_cons_succ]
          refine wpAnyH_take (i := 17) (oi := ?oo17n1036) (v := ?vv17n1036) ?hi17n1036 (by kernel_rfl) (by kernel_rfl) (by kernel_rfl) ?hQ17n1036 ?hy17n1036 (by assumption) ?rest17n1036
          case hi17n1036 => (simp only [List.getElem?_toArray, List.getElem?_cons_zero, List.getElem?_cons_succ]; rfl)
          case hQ17n1036 => exact fun _ _ _ h => h
          case hy17n1036 => exact Or.inl ⟨by rfl, by intro wS hSw; (try dsimp only at hSw); go_simp; try first | (with_reducible rfl) | (simp only [*]; done) | omega⟩
          try simp only [Act.put, List.setIfInBounds_toArray, List.set_cons_zero, List.set_cons_succ]
          refine wpAnyH_done (by kernel_rfl) ?_ _
          go_wp2
          refine ⟨⟨k + 1, by omega, by go_num, hide ?_, bthen (by (repeat (first | with_reducible assumption | with_reducible exact Below.refl _ _ | with_reducible refine Below.drew ?_ | with_reducible refine bdrewN ?_ _ | (with_reducible refine Below.alloc ?_ ?side _; case side => (first | omega | (simp [go_sem]; done) | (simp [go_sem]; omega))) | (with_reducible refine Below.setCell ?_ ?side _; case side => (first | omega | (simp [go_sem]; done) | (simp [go_sem]; omega)))))) hb2⟩, by simp [intOf]; omega⟩
          rw [allOk_succ, unhide hok, Bool.true_and, stepOk, unhide HX]
          have hk0 := unhide HK0
          simp [attrD, hA, hk0]
        · obtain ⟨m, rfl⟩ : ∃ m, k = m + 1 := ⟨k - 1, by omega⟩
          obtain ⟨b', o', e', _, p0, _, _, _⟩ := (unhide HA).at m (by omega)
          obtain ⟨rfl, rfl⟩ : b = b' ∧ o = o' := by injection e' with e'; injection e' with e1 e2; exact ⟨e1, e2⟩
          clear e'
          generalize hP : l.getD m dA = xp at *
          obtain ⟨kp, bp, np, tp⟩ := xp
          simp only at p0
          have HP := hide hP
          clear hP
          rw [← hbl.cell hbk] at p0
          have hkm : (m : Int) < (l.length : Int) := by omega
          have hwr : IntKind.i64.wrap (m : Int) = (m : Int) := by rw [IntKind.wrap_i64]; omega
          have hge : (0 : Int) ≤ (m : Int) + 1 := by omega
          have hgt : (m : Int) + 1 < (l.length : Int) := by omega
          have hd : (0 : Int) < ((m + 1 : Nat) : Int) := by omega
          have hd' : decide ((0 : Int) < ((m + 1 : Nat) : Int)) = true := decide_eq_true hd
          cases hord : Op.bytesLess kp.toList kk.toList
          · go_wp2_with fail
            refine wp_region_held_drew (S := fun w' => w'.cell? ⟨wr.heap.size, 0, none⟩ = some (.string kk) ∧ w'.cell? ⟨wr.heap.size, 1, none⟩ = some (.bool bb) ∧ w'.cell? ⟨wr.heap.size, 2, none⟩ = some (.int .i64 nn) ∧ w'.cell? ⟨wr.heap.size, 3, none⟩ = some (.string tt) ∧ w'.cell? ⟨b, o + m * 4, none⟩ = some (.string kp)) (by kernel_rfl) ?_ (fun hHeld => ?_)
            · (try dsimp only); go_keep
            refine wpAnyH_take (i := 0) (oi := ?oo0n1037) (v := ?vv0n1037) ?hi0n1037 (by kernel_rfl) (by kernel_rfl) (by kernel_rfl) ?hQ0n1037 ?hy0n1037 (by assumption) ?rest0n1037
            case hi0n1037 => (simp only [List.getElem?_toArray, List.getElem?_cons_zero]; rfl)
            case hQ0n1037 => exact fun _ _ _ h => h
            case hy0n1037 => exact Or.inl ⟨by rfl, by intro wS hSw; (try dsimp only at hSw); go_simp; try first | (with_reducible rfl) | (simp only [*]; done) | omega⟩
            try simp only [Act.put, List.setIfInBounds_toArray, List.set_cons_zero, List.set_cons_succ]
            refine wpAnyH_ready (rs := [1]) (by kernel_rfl) (by simp) ?_
            refine AllReadyH.cons (o := ?oo1n1038) ?hi1n1038 (fun K hK => ?rest1n1038) AllReadyH.nil
            case hi1n1038 => (simp only [List.getElem?_toArray, List.getElem?_cons_zero, List.getElem?_cons_succ]; rfl)
            go_simp
            refine (implAttrOk kk bb nn tt _ hw1 hw2).mono ?_
            rintro e w2 ⟨rfl, hb2⟩
            rw [hA]
            go_wp2_with fail
            refine hK.out _ _ ?_ (fun hHeld => ?_)
            · refine ⟨?_, ?_, ?_, ?_, ?_⟩
              iterate 4 (rw [hb2.cell (by simp [go_sem])]; simp [go_sem])
              rw [hb2.cell (by simp [go_sem]; omega)]
              simp [go_sem, hbw, p0]
            clear hK
            refine wpAnyH_take (i := 2) (oi := ?oo2n1039) (v := ?vv2n1039) ?hi2n1039 (by kernel_rfl) (by kernel_rfl) (by kernel_rfl) ?hQ2n1039 ?hy2n1039 (by assumption) ?rest2n1039
            case hi2n1039 => (simp only [List.getElem?_toArray, List.getElem?_cons_zero, List.getElem?_cons_succ]; rfl)
            case hQ2n1039 => exact fun _ _ _ h => h
            case hy2n1039 => exact Or.inl ⟨by rfl, by intro wS hSw; (try dsimp only at hSw); go_simp; try first | (with_reducible rfl) | (simp only [*]; done) | omega⟩
            try simp only [Act.put, List.setIfInBounds_toArray, List.set_cons_zero, List.set_cons_succ]
            refine wpAnyH_take (i := 3) (oi := ?oo3n1040) (v := ?vv3n1040) ?hi3n1040 (by kernel_rfl) (by kernel_rfl) (by kernel_rfl) ?hQ3n1040 ?hy3n1040 (by assumption) ?rest3n1040
            case hi3n1040 => (simp only [List.getElem?_toArray, List.getElem?_cons_zero, List.getElem?_cons_succ]; rfl)
            case hQ3n1040 => exact fun _ _ _ h => h
            case hy3n1040 => exact Or.inl ⟨by rfl, by intro wS hSw; (try dsimp only at hSw); go_simp; try first | (with_reducible rfl) | (simp only [*]; done) | omega⟩
            try simp only [Act.put, List.setIfInBounds_toArray, List.set_cons_zero, List.set_cons_succ]
            refine wpAnyH_take (i := 4) (oi := ?oo4n1041) (v := ?vv4n1041) ?hi4n1041 (by kernel_rfl) (by kernel_rfl) (by kernel_rfl) ?hQ4n1041 ?hy4n1041 (by assumption) ?rest4n1041
            case hi4n1041 => (simp only [List.getElem?_toArray, List.getElem?_cons_zero, List.getElem?_cons_succ]; rfl)
            case hQ4n1041 => exact fun _ _ _ h => h
            case hy4n1041 => exact Or.inl ⟨by rfl, by intro wS hSw; (try dsimp only at hSw); go_simp; try first | (with_reducible rfl) | (simp only [*]; done) | omega⟩
            try simp only [Act.put, List.setIfInBounds_toArray, List.set_cons_zero, List.set_cons_succ]
            refine wpAnyH_take (i := 5) (oi := ?oo5n1042) (v := .bool true) ?hi5n1042 (by kernel_rfl) (by kernel_rfl) (by kernel_rfl) ?hQ5n1042 ?hy5n1042 (by assumption) ?rest5n1042
            case hi5n1042 => (simp only [List.getElem?_toArray, List.getElem?_cons_zero, List.getElem?_cons_succ]; rfl)
            case hQ5n1042 => exact fun _ _ _ h => h
            case hy5n1042 => exact Or.inl ⟨by rfl, by intro wS hSw; (try dsimp only at hSw); go_simp; try first | (with_reducible rfl) | (simp only [*]; done) | omega⟩
            try simp only [Act.put, List.setIfInBounds_toArray, List.set_cons_zero, List.set_cons_succ]
            refine wpAnyH_take (i := 6) (oi := ?oo6n1043) (v := ?vv6n1043) ?hi6n1043 (by kernel_rfl) (by kernel_rfl) (by kernel_rfl) ?hQ6n1043 ?hy6n1043 (by assumption) ?rest6n1043
            case hi6n1043 => (simp only [List.getElem?_toArray, List.getElem?_cons_zero, List.getElem?_cons_succ]; rfl)
            case hQ6n1043 => exact fun _ _ _ h => h
            case hy6n1043 => exact Or.inl ⟨by rfl, by intro wS hSw; (try dsimp only at hSw); go_simp; try first | (with_reducible rfl) | (simp only [*]; done) | omega⟩
            try simp only [Act.put, List.setIfInBounds_toArray, List.set_cons_zero, List.set_cons_succ]
            refine wpAnyH_take (i := 7) (oi := ?oo7n1044) (v := ?vv7n1044) ?hi7n1044 (by kernel_rfl) (by kernel_rfl) (by kernel_rfl) ?hQ7n1044 ?hy7n1044 (by assumption) ?rest7n1044
            case hi7n1044 => (simp only [List.getElem?_toArray, List.getElem?_cons_zero, List.getElem?_cons_succ]; rfl)
            case hQ7n1044 => exact fun _ _ _ h => h
            case hy7n1044 => exact Or.inl ⟨by rfl, by intro wS hSw; (try dsimp only at hSw); go_simp; try first | (with_reducible rfl) | (simp only [*]; done) | omega⟩
            try simp only [Act.put, List.setIfInBounds_toArray, List.set_cons_zero, List.set_cons_succ]
            refine wpAnyH_take (i := 8) (oi := ?oo8n1045) (v := ?vv8n1045) ?hi8n1045 (by kernel_rfl) (by kernel_rfl) (by kernel_rfl) ?hQ8n1045 ?hy8n1045 (by assumption) ?rest8n1045
            case hi8n1045 => (simp only [List.getElem?_toArray, List.getElem?_cons_zero, List.getElem?_cons_succ]; rfl)
            case hQ8n1045 => exact fun _ _ _ h => h
            case hy8n1045 => exact Or.inl ⟨by rfl, by intro wS hSw; (try dsimp only at hSw); go_simp; try first | (with_reducible rfl) | (simp only [*]; done) | omega⟩
            try simp only [Act.put, List.setIfInBounds_toArray, List.set_cons_zero, List.set_cons_succ]
            refine wpAnyH_take (i := 9) (oi := ?oo9n1046) (v := ?vv9n1046) ?hi9n1046 (by kernel_rfl) (by kernel_rfl) (by kernel_rfl) ?hQ9n1046 ?hy9n1046 (by assumption) ?rest9n1046
            case hi9n1046 => (simp only [List.getElem?_toArray, List.getElem?_cons_zero, List.getElem?_cons_succ]; rfl)
            case hQ9n1046 => exact fun _ _ _ h => h
            case hy9n1046 => exact Or.inl ⟨by rfl, by intro wS hSw; (try dsimp only at hSw); go_simp; try first | (with_reducible rfl) | (simp only [*]; done) | omega⟩
            try simp only [Act.put, List.setIfInBounds_toArray, List.set_cons_zero, List.set_cons_succ]
            refine wpAnyH_take (i := 10) (oi := ?oo10n1047) (v := ?vv10n1047) ?hi10n1047 (by kernel_rfl) (by kernel_rfl) (by kernel_rfl) ?hQ10n1047 ?hy10n1047 (by assumption) ?rest10n1047
            case hi10n1047 => (simp only [List.getElem?_toArray, List.getElem?_cons_zero, List.getElem?_cons_succ]; rfl)
            case hQ10n1047 => exact fun _ _ _ h => h
            case hy10n1047 => exact Or.inl ⟨by rfl, by intro wS hSw; (try dsimp only at hSw); go_simp; try first | (with_reducible rfl) | (simp only [*]; done) | omega⟩
            try simp only [Act.put, List.setIfInBounds_toArray, List.set_cons_zero, List.set_cons_succ]
            refine wpAnyH_take (i := 11) (oi := ?oo11n1048) (v := ?vv11n1048) ?hi11n1048 (by kernel_rfl) (by kernel_rfl) (by kernel_rfl) ?hQ11n1048 ?hy11n1048 (by assumption) ?rest11n1048
            case hi11n1048 => (simp only [List.getElem?_toArray, List.getElem?_cons_zero, List.getElem?_cons_succ]; rfl)
            case hQ11n1048 => exact fun _ _ _ h => h
            case hy11n1048 => exact Or.inl ⟨by rfl, by intro wS hSw; (try dsimp only at hSw); go_simp; try first | (with_reducible rfl) | (simp only [*]; done) | omega⟩
            try simp only [Act.put, List.setIfInBounds_toArray, List.set_cons_zero, List.set_cons_succ]
            refine wpAnyH_take (i := 12) (oi := ?oo12n1049) (v := ?vv12n1049) ?hi12n1049 (by kernel_rfl) (by kernel_rfl) (by kernel_rfl) ?hQ12n1049 ?hy12n1049 (by assumption) ?rest12n1049
            case hi12n1049 => (simp only [List.getElem?_toArray, List.getElem?_cons_zero, List.getElem?_cons_succ]; rfl)
            case hQ12n1049 => exact fun _ _ _ h => h
            case hy12n1049 => exact Or.inl ⟨by rfl, by intro wS hSw; (try dsimp only at hSw); go_simp; try first | (with_reducible rfl) | (simp only [*]; done) | omega⟩
            try simp only [Act.put, List.setIfInBounds_toArray, List.set_cons_zero, List.set_cons_succ]
            refine wpAnyH_take (i := 13) (oi := ?oo13n1050) (v := ?vv13n1050) ?hi13n1050 (by kernel_rfl) (by kernel_rfl) (by kernel_rfl) ?hQ13n1050 ?hy13n1050 (by assumption) ?rest13n1050
            case hi13n1050 => (simp only [List.getElem?_toArray, List.getElem?_cons_zero, List.getElem?_cons_succ]; rfl)
            case hQ13n1050 => exact fun _ _ _ h => h
            case hy13n1050 => exact Or.inl ⟨by rfl, by intro wS hSw; (try dsimp only at hSw); go_simp; try first | (with_reducible rfl) | (simp only [*]; done) | omega⟩
            try simp only [Act.put, List.setIfInBounds_toArray, List.set_cons_zero, List.set_cons_succ]
            refine wpAnyH_take (i := 14) (oi := ?oo14n1051) (v := ?vv14n1051) ?hi14n1051 (by kernel_rfl) (by kernel_rfl) (by kernel_rfl) ?hQ14n1051 ?hy14n1051 (by assumption) ?rest14n1051
            case hi14n1051 => (simp only [List.getElem?_toArray, List.getElem?_cons_zero, List.getElem?_cons_succ]; rfl)
            case hQ14n1051 => exact fun _ _ _ h => h
            case hy14n1051 => exact Or.inl ⟨by rfl, by intro wS hSw; (try dsimp only at hSw); go_simp; try first | (with_reducible rfl) | (simp only [*]; done) | omega⟩
            try simp only [Act.put, List.setIfInBounds_toArray, List.set_cons_zero, List.set_cons_succ]
            refine wpAnyH_take (i := 15) (oi := ?oo15n1052) (v := ?vv15n1052) ?hi15n1052 (by kernel_rfl) (by kernel_rfl) (by kernel_rfl) ?hQ15n1052 ?hy15n1052 (by assumption) ?rest15n1052
            case hi15n1052 => (simp only [List.getElem?_toArray, List.getElem?_cons_zero, List.getElem?_cons_succ]; rfl)
            case hQ15n1052 => exact fun _ _ _ h => h
            case hy15n1052 => exact Or.inl ⟨by rfl, by intro wS hSw; (try dsimp only at hSw); go_simp; try first | (with_reducible rfl) | (simp only [*]; done) | omega⟩
            try simp only [Act.put, List.setIfInBounds_toArray, List.set_cons_zero, List.set_cons_succ]
            refine wpAnyH_take (i := 16) (oi := ?oo16n1053) (v := ?vv16n1053) ?hi16n1053 (by kernel_rfl) (by kernel_rfl) (by kernel_rfl) ?hQ16n1053 ?hy16n1053 (by assumption) ?rest16n1053
            case hi16n1053 => (simp only [List.getElem?_toArray, List.getElem?_cons_zero, List.getElem?_cons_succ]; rfl)
            case hQ16n1053 => exact fun _ _ _ h => h
            case hy16n1053 => exact Or.inl ⟨by rfl, by intro wS hSw; (try dsimp only at hSw); go_simp; try first | (with_reducible rfl) | (simp only [*]; done) | omega⟩
            try simp only [Act.put, List.setIfInBounds_toArray, List.set_cons_zero, List.set_cons_succ]
            refine wpAnyH_take (i := 17) (oi := ?oo17n1054) (v := ?vv17n1054) ?hi17n1054 (by kernel_rfl) (by kernel_rfl) (by kernel_rfl) ?hQ17n1054 ?hy17n1054 (by assumption) ?rest17n1054
            case hi17n1054 => (simp only [List.getElem?_toArray, List.getElem?_cons_zero, List.getElem?_cons_succ]; rfl)
            case hQ17n1054 => exact fun _ _ _ h => h
            case hy17n1054 => exact Or.inl ⟨by rfl, by intro wS hSw; (try dsimp only at hSw); go_simp; try first | (with_reducible rfl) | (simp only [*]; done) | omega⟩
            try simp only [Act.put, List.setIfInBounds_toArray, List.set_cons_zero, List.set_cons_succ]
            refine wpAnyH_done (by kernel_rfl) ?_ _
            go_wp2
            go_ret
            exact ⟨ret_bool (by rw [attrsB, allOk_false hlt (by rw [stepOk, unhide HX, Nat.add_sub_cancel, unhide HP]; simp [hord])]; rfl), bthen (by (repeat (first | with_reducible assumption | with_reducible exact Below.refl _ _ | with_reducible refine Below.drew ?_ | with_reducible refine bdrewN ?_ _ | (with_reducible refine Below.alloc ?_ ?side _; case side => (first | omega | (simp [go_sem]; done) | (simp [go_sem]; omega))) | (with_reducible refine Below.setCell ?_ ?side _; case side => (first | omega | (simp [go_sem]; done) | (simp [go_sem]; omega)))))) hb2⟩
          · go_wp2_with fail
            refine wp_region_held_drew (S := fun w' => w'.cell? ⟨wr.heap.size, 0, none⟩ = some (.string kk) ∧ w'.cell? ⟨wr.heap.size, 1, none⟩ = some (.bool bb) ∧ w'.cell? ⟨wr.heap.size, 2, none⟩ = some (.int .i64 nn) ∧ w'.cell? ⟨wr.heap.size, 3, none⟩ = some (.string tt) ∧ w'.cell? ⟨b, o + m * 4, none⟩ = some (.string kp)) (by kernel_rfl) ?_ (fun hHeld => ?_)
            · (try dsimp only); go_keep
            refine wpAnyH_take (i := 0) (oi := ?oo0n1055) (v := ?vv0n1055) ?hi0n1055 (by kernel_rfl) (by kernel_rfl) (by kernel_rfl) ?hQ0n1055 ?hy0n1055 (by assumption) ?rest0n1055
            case hi0n1055 => (simp only [List.getElem?_toArray, List.getElem?_cons_zero]; rfl)
            case hQ0n1055 => exact fun _ _ _ h => h
            case hy0n1055 => exact Or.inl ⟨by rfl, by intro wS hSw; (try dsimp only at hSw); go_simp; try first | (with_reducible rfl) | (simp only [*]; done) | omega⟩
            try simp only [Act.put, List.setIfInBounds_toArray, List.set_cons_zero, List.set_cons_succ]
            refine wpAnyH_ready (rs := [1]) (by kernel_rfl) (by simp) ?_
            refine AllReadyH.cons (o := ?oo1n1056) ?hi1n1056 (fun K hK => ?rest1n1056) AllReadyH.nil
            case hi1n1056 => (simp only [List.getElem?_toArray, List.getElem?_cons_zero, List.getElem?_cons_succ]; rfl)
            go_simp
            refine (implAttrOk kk bb nn tt _ hw1 hw2).mono ?_
            rintro e w2 ⟨rfl, hb2⟩
            rw [hA]
            go_wp2_with fail
            refine hK.out _ _ ?_ (fun hHeld => ?_)
            · refine ⟨?_, ?_, ?_, ?_, ?_⟩
              iterate 4 (rw [hb2.cell (by simp [go_sem])]; simp [go_sem])
              rw [hb2.cell (by simp [go_sem]; omega)]
              simp [go_sem, hbw, p0]
            clear hK
            refine wpAnyH_take (i := 2) (oi := ?oo2n1057) (v := ?vv2n1057) ?hi2n1057 (by kernel_rfl) (by kernel_rfl) (by kernel_rfl) ?hQ2n1057 ?hy2n1057 (by assumption) ?rest2n1057
            case hi2n1057 => (simp only [List.getElem?_toArray, List.getElem?_cons_zero, List.getElem?_cons_succ]; rfl)
            case hQ2n1057 => exact fun _ _ _ h => h
            case hy2n1057 => exact Or.inl ⟨by rfl, by intro wS hSw; (try dsimp only at hSw); go_simp; try first | (with_reducible rfl) | (simp only [*]; done) | omega⟩
            try simp only [Act.put, List.setIfInBounds_toArray, List.set_cons_zero, List.set_cons_succ]
            refine wpAnyH_take (i := 3) (oi := ?oo3n1058) (v := ?vv3n1058) ?hi3n1058 (by kernel_rfl) (by kernel_rfl) (by kernel_rfl) ?hQ3n1058 ?hy3n1058 (by assumption) ?rest3n1058
            case hi3n1058 => (simp only [List.getElem?_toArray, List.getElem?_cons_zero, List.getElem?_cons_succ]; rfl)
            case hQ3n1058 => exact fun _ _ _ h => h
            case hy3n1058 => exact Or.inl ⟨by rfl, by intro wS hSw; (try dsimp only at hSw); go_simp; try first | (with_reducible rfl) | (simp only [*]; done) | omega⟩
            try simp only [Act.put, List.setIfInBounds_toArray, List.set_cons_zero, List.set_cons_succ]
            refine wpAnyH_take (i := 4) (oi := ?oo4n1059) (v := ?vv4n1059) ?hi4n1059 (by kernel_rfl) (by kernel_rfl) (by kernel_rfl) ?hQ4n1059 ?hy4n1059 (by assumption) ?rest4n1059
            case hi4n1059 => (simp only [List.getElem?_toArray, List.getElem?_cons_zero, List.getElem?_cons_succ]; rfl)
            case hQ4n1059 => exact fun _ _ _ h => h
            case hy4n1059 => exact Or.inl ⟨by rfl, by intro wS hSw; (try dsimp only at hSw); go_simp; try first | (with_reducible rfl) | (simp only [*]; done) | omega⟩
            try simp only [Act.put, List.setIfInBounds_toArray, List.set_cons_zero, List.set_cons_succ]
            refine wpAnyH_take (i := 5) (oi := ?oo5n1060) (v := .bool true) ?hi5n1060 (by kernel_rfl) (by kernel_rfl) (by kernel_rfl) ?hQ5n1060 ?hy5n1060 (by assumption) ?rest5n1060
            case hi5n1060 => (simp only [List.getElem?_toArray, List.getElem?_cons_zero, List.getElem?_cons_succ]; rfl)
            case hQ5n1060 => exact fun _ _ _ h => h
            case hy5n1060 => exact Or.inl ⟨by rfl, by intro wS hSw; (try dsimp only at hSw); go_simp; try first | (with_reducible rfl) | (simp only [*]; done) | omega⟩
            try simp only [Act.put, List.setIfInBounds_toArray, List.set_cons_zero, List.set_cons_succ]
            refine wpAnyH_take (i := 6) (oi := ?oo6n1061) (v := ?vv6n1061) ?hi6n1061 (by kernel_rfl) (by kernel_rfl) (by kernel_rfl) ?hQ6n1061 ?hy6n1061 (by assumption) ?rest6n1061
            case hi6n1061 => (simp only [List.getElem?_toArray, List.getElem?_cons_zero, List.getElem?_cons_succ]; rfl)
            case hQ6n1061 => exact fun _ _ _ h => h
            case hy6n1061 => exact Or.inl ⟨by rfl, by intro wS hSw; (try dsimp only at hSw); go_simp; try first | (with_reducible rfl) | (simp only [*]; done) | omega⟩
            try simp only [Act.put, List.setIfInBounds_toArray, List.set_cons_zero, List.set_cons_succ]
            refine wpAnyH_take (i := 7) (oi := ?oo7n1062) (v := ?vv7n1062) ?hi7n1062 (by kernel_rfl) (by kernel_rfl) (by kernel_rfl) ?hQ7n1062 ?hy7n1062 (by assumption) ?rest7n1062
            case hi7n1062 => (simp only [List.getElem?_toArray, List.getElem?_cons_zero, List.getElem?_cons_succ]; rfl)
            case hQ7n1062 => exact fun _ _ _ h => h
            case hy7n1062 => exact Or.inl ⟨by rfl, by intro wS hSw; (try dsimp only at hSw); go_simp; try first | (with_reducible rfl) | (simp only [*]; done) | omega⟩
            try simp only [Act.put, List.setIfInBounds_toArray, List.set_cons_zero, List.set_cons_succ]
            refine wpAnyH_take (i := 8) (oi := ?oo8n1063) (v := ?vv8n1063) ?hi8n1063 (by kernel_rfl) (by kernel_rfl) (by kernel_rfl) ?hQ8n1063 ?hy8n1063 (by assumption) ?rest8n1063
            case hi8n1063 => (simp only [List.getElem?_toArray, List.getElem?_cons_zero, List.getElem?_cons_succ]; rfl)
            case hQ8n1063 => exact fun _ _ _ h => h
            case hy8n1063 => exact Or.inl ⟨by rfl, by intro wS hSw; (try dsimp only at hSw); go_simp; try first | (with_reducible rfl) | (simp only [*]; done) | omega⟩
            try simp only [Act.put, List.setIfInBounds_toArray, List.set_cons_zero, List.set_cons_succ]
            refine wpAnyH_take (i := 9) (oi := ?oo9n1064) (v := ?vv9n1064) ?hi9n1064 (by kernel_rfl) (by kernel_rfl) (by kernel_rfl) ?hQ9n1064 ?hy9n1064 (by assumption) ?rest9n1064
            case hi9n1064 => (simp only [List.getElem?_toArray, List.getElem?_cons_zero, List.getElem?_cons_succ]; rfl)
            case hQ9n1064 => exact fun _ _ _ h => h
            case hy9n1064 => exact Or.inl ⟨by rfl, by intro wS hSw; (try dsimp only at hSw); go_simp; try first | (with_reducible rfl) | (simp only [*]; done) | omega⟩
            try simp only [Act.put, List.setIfInBounds_toArray, List.set_cons_zero, List.set_cons_succ]
            refine wpAnyH_take (i := 10) (oi := ?oo10n1065) (v := ?vv10n1065) ?hi10n1065 (by kernel_rfl) (by kernel_rfl) (by kernel_rfl) ?hQ10n1065 ?hy10n1065 (by assumption) ?rest10n1065
            case hi10n1065 => (simp only [List.getElem?_toArray, List.getElem?_cons_zero, List.getElem?_cons_succ]; rfl)
            case hQ10n1065 => exact fun _ _ _ h => h
            case hy10n1065 => exact Or.inl ⟨by rfl, by intro wS hSw; (try dsimp only at hSw); go_simp; try first | (with_reducible rfl) | (simp only [*]; done) | omega⟩
            try simp only [Act.put, List.setIfInBounds_toArray, List.set_cons_zero, List.set_cons_succ]
            refine wpAnyH_take (i := 11) (oi := ?oo11n1066) (v := ?vv11n1066) ?hi11n1066 (by kernel_rfl) (by kernel_rfl) (by kernel_rfl) ?hQ11n1066 ?hy11n1066 (by assumption) ?rest11n1066
            case hi11n1066 => (simp only [List.getElem?_toArray, List.getElem?_cons_zero, List.getElem?_cons_succ]; rfl)
            case hQ11n1066 => exact fun _ _ _ h => h
            case hy11n1066 => exact Or.inl ⟨by rfl, by intro wS hSw; (try dsimp only at hSw); go_simp; try first | (with_reducible rfl) | (simp only [*]; done) | omega⟩
            try simp only [Act.put, List.setIfInBounds_toArray, List.set_cons_zero, List.set_cons_succ]
            refine wpAnyH_take (i := 12) (oi := ?oo12n1067) (v := ?vv12n1067) ?hi12n1067 (by kernel_rfl) (by kernel_rfl) (by kernel_rfl) ?hQ12n1067 ?hy12n1067 (by assumption) ?rest12n1067
            case hi12n1067 => (simp only [List.getElem?_toArray, List.getElem?_cons_zero, List.getElem?_cons_succ]; rfl)
            case hQ12n1067 => exact fun _ _ _ h => h
            case hy12n1067 => exact Or.inl ⟨by rfl, by intro wS hSw; (try dsimp only at hSw); go_simp; try first | (with_reducible rfl) | (simp only [*]; done) | omega⟩
            try simp only [Act.put, List.setIfInBounds_toArray, List.set_cons_zero, List.set_cons_succ]
            refine wpAnyH_take (i := 13) (oi := ?oo13n1068) (v := ?vv13n1068) ?hi13n1068 (by kernel_rfl) (by kernel_rfl) (by kernel_rfl) ?hQ13n1068 ?hy13n1068 (by assumption) ?rest13n1068
            case hi13n1068 => (simp only [List.getElem?_toArray, List.getElem?_cons_zero, List.getElem?_cons_succ]; rfl)
            case hQ13n1068 => exact fun _ _ _ h => h
            case hy13n1068 => exact Or.inl ⟨by rfl, by intro wS hSw; (try dsimp only at hSw); go_simp; try first | (with_reducible rfl) | (simp only [*]; done) | omega⟩
            try simp only [Act.put, List.setIfInBounds_toArray, List.set_cons_zero, List.set_cons_succ]
            refine wpAnyH_take (i := 14) (oi := ?oo14n1069) (v := ?vv14n1069) ?hi14n1069 (by kernel_rfl) (by kernel_rfl) (by kernel_rfl) ?hQ14n1069 ?hy14n1069 (by assumption) ?rest14n1069
            case hi14n1069 => (simp only [List.getElem?_toArray, List.getElem?_cons_zero, List.getElem?_cons_succ]; rfl)
            case hQ14n1069 => exact fun _ _ _ h => h
            case hy14n1069 => exact Or.inl ⟨by rfl, by intro wS hSw; (try dsimp only at hSw); go_simp; try first | (with_reducible rfl) | (simp only [*]; done) | omega⟩
            try simp only [Act.put, List.setIfInBounds_toArray, List.set_cons_zero, List.set_cons_succ]
            refine wpAnyH_take (i := 15) (oi := ?oo15n1070) (v := ?vv15n1070) ?hi15n1070 (by kernel_rfl) (by kernel_rfl) (by kernel_rfl) ?hQ15n1070 ?hy15n1070 (by assumption) ?rest15n1070
            case hi15n1070 => (simp only [List.getElem?_toArray, List.getElem?_cons_zero, List.getElem?_cons_succ]; rfl)
            case hQ15n1070 => exact fun _ _ _ h => h
            case hy15n1070 => exact Or.inl ⟨by rfl, by intro wS hSw; (try dsimp only at hSw); go_simp; try first | (with_reducible rfl) | (simp only [*]; done) | omega⟩
            try simp only [Act.put, List.setIfInBounds_toArray, List.set_cons_zero, List.set_cons_succ]
            refine wpAnyH_take (i := 16) (oi := ?oo16n1071) (v := ?vv16n1071) ?hi16n1071 (by kernel_rfl) (by kernel_rfl) (by kernel_rfl) ?hQ16n1071 ?hy16n1071 (by assumption) ?rest16n1071
            case hi16n1071 => (simp only [List.getElem?_toArray, List.getElem?_cons_zero, List.getElem?_cons_succ]; rfl)
            case hQ16n1071 => exact fun _ _ _ h => h
            case hy16n1071 => exact Or.inl ⟨by rfl, by intro wS hSw; (try dsimp only at hSw); go_simp; try first | (with_reducible rfl) | (simp only [*]; done) | omega⟩
            try simp only [Act.put, List.setIfInBounds_toArray, List.set_cons_zero, List.set_cons_succ]
            refine wpAnyH_take (i := 17) (oi := ?oo17n1072) (v := ?vv17n1072) ?hi17n1072 (by kernel_rfl) (by kernel_rfl) (by kernel_rfl) ?hQ17n1072 ?hy17n1072 (by assumption) ?rest17n1072
            case hi17n1072 => (simp only [List.getElem?_toArray, List.getElem?_cons_zero, List.getElem?_cons_succ]; rfl)
            case hQ17n1072 => exact fun _ _ _ h => h
            case hy17n1072 => exact Or.inl ⟨by rfl, by intro wS hSw; (try dsimp only at hSw); go_simp; try first | (with_reducible rfl) | (simp only [*]; done) | omega⟩
            try simp only [Act.put, List.setIfInBounds_toArray, List.set_cons_zero, List.set_cons_succ]
            refine wpAnyH_done (by kernel_rfl) ?_ _
            go_wp2
            refine ⟨⟨m + 1 + 1, by omega, by go_num, hide ?_, bthen (by (repeat (first | with_reducible assumption | with_reducible exact Below.refl _ _ | with_reducible refine Below.drew ?_ | with_reducible refine bdrewN ?_ _ | (with_reducible refine Below.alloc ?_ ?side _; case side => (first | omega | (simp [go_sem]; done) | (simp [go_sem]; omega))) | (with_reducible refine Below.setCell ?_ ?side _; case side => (first | omega | (simp [go_sem]; done) | (simp [go_sem]; omega)))))) hb2⟩, by simp [intOf]; omega⟩
            rw [allOk_succ, unhide hok, Bool.true_and, stepOk, unhide HX, Nat.add_sub_cancel, unhide HP]
            simp [attrD, hA, hord]
    · have hki : ¬ (k : Int) < (l.length : Int) := by omega
      obtain rfl : k = l.length := by omega
      go_wp2
      go_ret
      exact ⟨ret_bool (by rw [attrsB, unhide hok, Bool.true_and, decide_eq_true (p := l.length ≤ 4) (by omega)]), hbl⟩

end Go.Proofs.Ytjhlammjnggghaa
