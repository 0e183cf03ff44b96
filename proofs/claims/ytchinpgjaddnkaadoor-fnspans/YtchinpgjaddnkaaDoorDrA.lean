/-
  What is drawn of what is said of a thing: contracts of the specification's drawing functions.
-/
import Derived.Test.YtchinpgjaddnkaaDoorDrB
import Derived.Test.YtchinpgjaddnkaaDoorDrawStr
import Derived.Test.YtchinpgjaddnkaaDoorAAttr
import Derived.Test.YtchinpgjaddnkaaDoorCopy0
namespace Go.Proofs.YtchinpgjaddnkaaDoor
open Go.ChangeShapes Go.WideShapes Go.ChangeAt Go.RowKit
set_option linter.unusedVariables false
set_option maxRecDepth 100000
variable {B : Nat}

def TinyA (x : AttrD) : Prop := x.1.size ≤ 40 ∧ x.2.2.2.size ≤ 40
def AllT (l : List AttrD) : Prop := ∀ x ∈ l, TinyA x
theorem tiny_own {w : World} {S : Nat → Prop} {x : AttrD} (h : TinyA x) : attrO w S [.string x.1, .bool x.2.1, .int .i64 x.2.2.1, .string x.2.2.2] x := ⟨rfl, by have := h.1; unfold maxLen; omega, by have := h.2; unfold maxLen; omega⟩
theorem infoAttrZ : (Tryd.prog.info? 49).map (fun i => (i.zero, i.size, i.bytes)) = some (some (.agg #[.string ⟨#[]⟩, .bool false, .int .i64 0, .string ⟨#[]⟩]), 4, 48) := by kernel_rfl
theorem one_attr (x : AttrD) : One [.string x.1, .bool x.2.1, .int .i64 x.2.2.1, .string x.2.2.2] := by
  intro v hv; simp only [List.mem_cons, List.not_mem_nil, or_false] at hv; rcases hv with rfl | rfl | rfl | rfl <;> rfl
set_option maxHeartbeats 1000000 in
theorem l2One_any (b : Nat) (key : ByteArray) (hk : key.size ≤ 40) (w : World) (hc : Cur B w b) :
    Calls Tryd.prog 62 #[.pointer (some ⟨b, 0, none⟩), .string key] w fun e w' => (∃ x : AttrD, e = .returned (.agg #[.string x.1, .bool x.2.1, .int .i64 x.2.2.1, .string x.2.2.2]) ∧ TinyA x) ∧ Cur B w' b ∧ Turns b w w' := by
  have hlt := hc.lt
  have hB := hc.high
  have hc0 := hc.keep (bnew w (.cells #[.string ⟨#[]⟩, .bool false, .int .i64 0, .string ⟨#[]⟩] 49))
  have T0 : Turns b w _ := Turns.allocs (.cells #[.string ⟨#[]⟩, .bool false, .int .i64 0, .string ⟨#[]⟩] 49)
  have R0 := WrAt.new w #[.string ⟨#[]⟩, .bool false, .int .i64 0, .string ⟨#[]⟩] 49 4 rfl
  clear hc
  go_enter Tryd.func62, Tryd.ntmps62
  go_upto_region 1 with fail
  generalize World.alloc w _ = w0 at *
  go_wp2_with fail
  refine (l1Once_any b 2 (by omega) w0 hc0).mono ?_
  rintro e w1 ⟨⟨x, rfl⟩, hc1, ht1⟩
  have R1 := R0.turn ht1.turn (by omega)
  have T1 := T0.trans ht1
  have hlt1 := hc1.lt
  clear hc0 R0 ht1 T0
  cases x with
  | true =>
    have T2 := T1.alloc (.cells #[.int .i64 0, .int .i64 1, .int .i64 5, .int .i64 200, .int .i64 500] 3)
    have R2 := R1.keep (bnew w1 (.cells #[.int .i64 0, .int .i64 1, .int .i64 5, .int .i64 200, .int .i64 500] 3))
    go_wp2_with fail
    refine (l1Int_any b w1.heap.size [0, 1, 5, 200, 500] 5 _ (hc1.keep (bnew _ _)) (by omega) (by simp) (by simp) (by simp) ?_).mono ?_
    · exact cells_ints w1 3 [0, 1, 5, 200, 500]
    rintro e w3 ⟨⟨y, rfl, hy⟩, hc3, ht3⟩
    have R3 := R2.turn ht3.turn (by omega)
    have T3 := T2.trans ht3
    have tt := putL_turn w.heap.size 0 [.string key, .bool true, .int .i64 y, .string ⟨#[]⟩] 0 w3
    have i3 := putL_at (b := w.heap.size) (o := 0) [.string key, .bool true, .int .i64 y, .string ⟨#[]⟩] 0 R3 (by omega) (by simp)
    have HF := hide (And.intro (hc3.new tt (fun q e => by omega)) (And.intro (T3.new tt (fun q e => by omega)) i3))
    clear hc1 hy ht3 T1 T2 R1 R2 hc3 T3 tt i3
    go_wp2_with (first | (refine wpl_store_at rfl 49 _ _ rfl _ 0 [.string key, .bool true, .int .i64 y, .string ⟨#[]⟩] rfl rfl R3 (one_attr (key, true, y, ⟨#[]⟩)) rowIAttr ?_))
    obtain ⟨c4, t4, i4⟩ := unhide HF
    exact bodyPost_ret (v := .agg #[.string key, .bool true, .int .i64 y, .string ⟨#[]⟩]) (res_row (t := 4) (cs := [.string key, .bool true, .int .i64 y, .string ⟨#[]⟩]) rfl rfl i4 rowIAttr) rfl ⟨⟨(key, true, y, ⟨#[]⟩), rfl, hk, by show (⟨#[]⟩ : ByteArray).size ≤ 40; decide⟩, c4, t4⟩
  | false =>
    have T2 := T1.alloc (.cells ([⟨#[97]⟩, ⟨#[98]⟩, ⟨#[111, 107]⟩, ⟨#[]⟩].map fun z => Value.string z).toArray 9)
    have R2 := R1.keep (bnew w1 (.cells ([⟨#[97]⟩, ⟨#[98]⟩, ⟨#[111, 107]⟩, ⟨#[]⟩].map fun z => Value.string z).toArray 9))
    go_wp2_with fail
    refine (l1Str_any b w1.heap.size [⟨#[97]⟩, ⟨#[98]⟩, ⟨#[111, 107]⟩, ⟨#[]⟩] 4 _ (hc1.keep (bnew _ _)) (by omega) (by simp) (by simp) (by simp) ?_).mono ?_
    · exact cells_strs w1 9 [⟨#[97]⟩, ⟨#[98]⟩, ⟨#[111, 107]⟩, ⟨#[]⟩]
    rintro e w3 ⟨⟨y, rfl, hy⟩, hc3, ht3⟩
    have HX := hide (short_of (by decide) hy)
    have R3 := R2.turn ht3.turn (by omega)
    have T3 := T2.trans ht3
    have tt := putL_turn w.heap.size 0 [.string key, .bool false, .int .i64 0, .string y] 0 w3
    have i3 := putL_at (b := w.heap.size) (o := 0) [.string key, .bool false, .int .i64 0, .string y] 0 R3 (by omega) (by simp)
    have HF := hide (And.intro (hc3.new tt (fun q e => by omega)) (And.intro (T3.new tt (fun q e => by omega)) i3))
    clear hc1 hy ht3 T1 T2 R1 R2 hc3 T3 tt i3
    go_wp2_with (first | (refine wpl_store_at rfl 49 _ _ rfl _ 0 [.string key, .bool false, .int .i64 0, .string y] rfl rfl R3 (one_attr (key, false, 0, y)) rowIAttr ?_))
    obtain ⟨c4, t4, i4⟩ := unhide HF
    exact bodyPost_ret (v := .agg #[.string key, .bool false, .int .i64 0, .string y]) (res_row (t := 4) (cs := [.string key, .bool false, .int .i64 0, .string y]) rfl rfl i4 rowIAttr) rfl ⟨⟨(key, false, 0, y), rfl, hk, unhide HX⟩, c4, t4⟩
def StrRow (w : World) (sb n : Nat) : Prop := sb < w.heap.size ∧ ∀ j, j < n → ∃ s : ByteArray, s.size ≤ 40 ∧ w.cell? ⟨sb, j, none⟩ = some (.string s)
theorem StrRow.turn {w w' : World} {sb n : Nat} (h : StrRow w sb n) {S : Nat → Prop} (ht : Turn S w w') (hS : ¬ S sb) : StrRow w' sb n :=
  ⟨Nat.lt_of_lt_of_le h.1 ht.size, fun j hj => by obtain ⟨s, h1, h2⟩ := h.2 j hj; exact ⟨s, h1, by rw [ht.cell (p := ⟨sb, j, none⟩) h.1 hS]; exact h2⟩⟩
theorem StrRow.made (w : World) (t : TypeId) (zs : List ByteArray) (h : ∀ z ∈ zs, z.size ≤ 40) : StrRow (w.alloc (.cells (zs.map (fun z => Value.string z)).toArray t)) w.heap.size zs.length :=
  ⟨by simp, fun j hj => ⟨zs.getD j ByteArray.empty, by
    rw [List.getD_eq_getElem?_getD, List.getElem?_eq_getElem hj]; exact h _ (List.getElem_mem hj), cells_strs w t zs j hj⟩⟩
theorem all_snoc {α : Type} {p : α → Prop} {l : List α} {x : α} (h : ∀ y ∈ l, p y) (hx : p x) : ∀ y ∈ l ++ [x], p y := by
  intro y hy
  rcases List.mem_append.1 hy with hy | hy
  · exact h y hy
  · rw [List.mem_singleton] at hy; rw [hy]; exact hx
set_option maxHeartbeats 1000000 in
theorem l2Draw_any (b : Nat) (w : World) (hc : Cur B w b) :
    Calls Tryd.prog 57 #[.pointer (some ⟨b, 0, none⟩)] w fun e w' => (∃ v l, e = .returned v ∧ l.length ≤ 5 ∧ AllT l ∧ GrowL 4 attrO 49 w.heap.size w' v l) ∧ Cur B w' b ∧ Turns b w w' := by
  have hlt := hc.lt
  obtain ⟨i0, hi, hz0, hz1, hz2⟩ := info_parts infoAttrZ
  have hg0 := (GrowL.start (α := AttrD) (N := 4) (C := attrO) (t := 49) (Nat.le_refl w.heap.size)).keep attrO_keeps (bnew (w.alloc (.cells #[] 49)) (.cells ([⟨#[99, 111, 100, 101]⟩, ⟨#[102, 97, 105, 108, 101, 100]⟩, ⟨#[107]⟩, ⟨#[112, 97, 116, 104]⟩, ⟨#[117, 115, 101, 114]⟩].map fun z => Value.string z).toArray 9))
  have hs0 := StrRow.made (w.alloc (.cells #[] 49)) 9 [⟨#[99, 111, 100, 101]⟩, ⟨#[102, 97, 105, 108, 101, 100]⟩, ⟨#[107]⟩, ⟨#[112, 97, 116, 104]⟩, ⟨#[117, 115, 101, 114]⟩] (fun z hz => short_of (by decide) hz)
  have hc0 := (hc.keep (bnew w (.cells #[] 49))).keep (bnew _ (.cells ([⟨#[99, 111, 100, 101]⟩, ⟨#[102, 97, 105, 108, 101, 100]⟩, ⟨#[107]⟩, ⟨#[112, 97, 116, 104]⟩, ⟨#[117, 115, 101, 114]⟩].map fun z => Value.string z).toArray 9))
  have t0 := (Turns.allocs (b := b) (w := w) (.cells #[] 49)).alloc (.cells ([⟨#[99, 111, 100, 101]⟩, ⟨#[102, 97, 105, 108, 101, 100]⟩, ⟨#[107]⟩, ⟨#[112, 97, 116, 104]⟩, ⟨#[117, 115, 101, 114]⟩].map fun z => Value.string z).toArray 9)
  have hsb : (w.alloc (.cells #[] 49)).heap.size = w.heap.size + 1 := by simp
  rw [hsb] at hs0
  have HG0 := hide hg0
  have HS0 := hide hs0
  have hB := hc.high
  have hbB := hc.low
  have HSB := hide hsb
  clear hc hg0 hs0 hsb
  go_enter Tryd.func57, Tryd.ntmps57
  go_upto_region 3 with fail
  go_loopw [3, 9] (fun o i wk => ∃ (k : Nat) (l : List AttrD), k ≤ 5 ∧ i = .int .i64 k ∧ l.length ≤ k ∧ Hid (AllT l) ∧ Hid (GrowL 4 attrO 49 w.heap.size wk o l) ∧ Hid (o.ownBlock ≠ some (w.heap.size + 1)) ∧ Hid (StrRow wk (w.heap.size + 1) 5) ∧ Cur B wk b ∧ Turns b w wk ∧ ∃ a c, o = .slice a l.length c) (fun _ i _ => 5 - (intOf i).toNat)
  case atStart => exact ⟨0, [], by omega, rfl, by simp, hide (fun x hx => by simp at hx), HG0, hide (by intro e; have e2 : some w.heap.size = some (w.heap.size + 1) := e; rw [Option.some.injEq] at e2; omega), HS0, hc0, t0, _, _, rfl⟩
  case round =>
    obtain ⟨k, l, hk, rfl, hlk, HT, HG, HO, HS, hc, ht, ao, co, rfl⟩ := hrel
    have hbs := ht.size
    clear hc0 t0 HG0 HS0
    by_cases hlt5 : k < 5
    · have hki : (k : Int) < 5 := by omega
      obtain ⟨s, hs40, hcs⟩ := (unhide HS).2 k hlt5
      have hsz := (unhide HS).1
      have hbw := hc.lt
      go_wp2_with fail
      refine (l1Once_any b 4 (by omega) wr hc).mono ?_
      rintro e w1 ⟨⟨x, rfl⟩, hc1, ht1⟩
      have HS1 := hide ((unhide HS).turn ht1.turn (by omega))
      have HG1 := hide ((unhide HG).keepT attrO_keeps ht1.turn (fun k e => by omega))
      have t1 := ht.trans ht1
      have hbs1 := t1.size
      clear hcs hc ht ht1 HS HG
      cases x with
      | false =>
        go_wp2
        go_roundw
        case rel => exact ⟨k + 1, l, by omega, by go_num, by omega, HT, HG1, HO, HS1, hc1, t1, _, _, rfl⟩
        case measure => simp [intOf]; omega
      | true =>
        go_wp2_with fail
        refine (l2One_any b s hs40 w1 hc1).mono ?_
        rintro e w2 ⟨⟨x, rfl, hx⟩, hc2, ht2⟩
        obtain ⟨v', w', hr, hg', hgr, hob, hob', a', c', rfl⟩ := GrowL.app1 (ty := 24) (tl := 24) attrO_keeps Tryd.underlying24 hi hz0 hz1 hz2 rfl (by decide) (unhide HG1) hbs1 ht2.turn (fun k e => by omega) (tiny_own (S := None1) hx) (fun k h => False.elim h) rfl (one_attr x) (by omega) (by unfold maxLen; omega)
        have ta := (Turns.allocs (b := b) (w := w2) (.cells [.string x.1, .bool x.2.1, .int .i64 x.2.2.1, .string x.2.2.2].toArray 49))
        have tg := grown_turn hgr
        have hsz2 := ht2.size
        have HS2 := hide ((((unhide HS1).turn ht2.turn (by omega)).turn ta.turn (by have := (unhide HS1).1; omega)).turn tg (fun e => unhide HO e))
        have hc3 := (hc2.keep (bnew w2 (.cells [.string x.1, .bool x.2.1, .int .i64 x.2.2.1, .string x.2.2.2].toArray 49))).new tg (fun q e => by have := (hob q e).1; omega)
        have t3 := ((t1.trans ht2).trans ta).new tg (fun q e => (hob q e).1)
        have HF := hide (And.intro hg' (And.intro HS2 (And.intro hc3 t3)))
        have HO2 : Hid ((Value.slice a' (l.length + 1) c').ownBlock ≠ some (w.heap.size + 1)) := hide (by
          intro e
          rcases hob' with h | h
          · rw [h] at e; exact unhide HO e
          · rw [h, Option.some.injEq] at e; have := (unhide HS1).1; omega)
        have HT2 : Hid (AllT (l ++ [x])) := hide (all_snoc (unhide HT) hx)
        clear hc1 hc2 ht2 ta tg hg' hgr hob hob' HS1 HG1 HS2 hc3 t3 t1 HO hx
        go_wp2_with (first | (at_builtin; refine wpl_app rfl rfl rfl rfl hr ?_))
        obtain ⟨hg', HS2, hc3, t3⟩ := unhide HF
        go_roundw
        case rel => exact ⟨k + 1, l ++ [x], by omega, by go_num, by simp; omega, HT2, hide hg', HO2, HS2, hc3, t3, a', c', by rw [List.length_append]; rfl⟩
        case measure => simp [intOf]; omega
    · have hki : ¬ (k : Int) < 5 := by omega
      have HF := hide (And.intro HG (And.intro hc ht))
      clear hc ht HG HS
      go_wp2
      go_ret
      obtain ⟨HG, hc, ht⟩ := unhide HF
      exact ⟨⟨_, rfl, l, by omega, unhide HT, unhide HG⟩, hc, ht⟩
end Go.Proofs.YtchinpgjaddnkaaDoor
