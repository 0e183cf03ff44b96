/-
  SpanText of both, of a Span that lies in memory.
-/
import Derived.Test.YtchinpgjaddnkaaDoorSpT2
import Derived.Test.YtchinpgjaddnkaaDoorASpan
import Derived.Test.YtchinpgjaddnkaaDoorBridge
namespace Go.Proofs.YtchinpgjaddnkaaDoor
open Go.ChangeShapes Go.WideShapes Go.ChangeAt Go.RowKit
set_option linter.unusedVariables false
set_option maxRecDepth 100000

def spanX (x : SpanD) : ByteArray := spanT x.1 x.2.1 x.2.2.1 x.2.2.2.1 x.2.2.2.2.1 x.2.2.2.2.2
theorem spanX_size (x : SpanD) : (spanX x).size ≤ 2000 := by
  unfold spanX spanT
  cases hS : spanB x.1 x.2.1 x.2.2.1 x.2.2.2.1 x.2.2.2.2.2
  · simp [ByteArray.size]
  · rw [if_pos rfl]
    simp only [spanB, attrsB, Bool.and_eq_true, inB_iff, decide_eq_true_eq] at hS
    obtain ⟨m1, m2, m3, m4, ⟨_, m5⟩, _⟩ := hS
    have hd := headT_size x.1 x.2.1 x.2.2.1 x.2.2.2.1 (by omega) (by omega) (by omega) (by omega)
    have hf : failT.size = 7 := rfl
    have hr := restT_size (if x.2.2.2.2.1 = true then headT x.1 x.2.1 x.2.2.1 x.2.2.2.1 ++ failT else headT x.1 x.2.1 x.2.2.1 x.2.2.2.1) x.2.2.2.2.2
    have hh : (if x.2.2.2.2.1 = true then headT x.1 x.2.1 x.2.2.1 x.2.2.2.1 ++ failT else headT x.1 x.2.1 x.2.2.1 x.2.2.2.1).size ≤ 207 := by
      split
      · rw [ByteArray.size_append, hf]; omega
      · omega
    omega
theorem specSpTN (x : SpanD) (S0 : Nat → Prop) (c0 : List Value) (w : World) (h0 : spanR w S0 c0 x) (b0 : spanBulk x ≤ 1048576) :
    Calls Tryd.prog 18 #[.agg c0.toArray] w fun e w' => e = .returned (.string (spanX x)) ∧ Below w.heap.size w w' := by
  obtain ⟨s, rfl, g⟩ := h0
  have q1 := bulk_span x
  exact specSpanText x.1 x.2.1 x.2.2.1 x.2.2.2.1 x.2.2.2.2.1 x.2.2.2.2.2 s w (attrs_old g) (by omega) (by omega)
theorem implSpTN (x : SpanD) (S0 : Nat → Prop) (c0 : List Value) (w : World) (h0 : spanR w S0 c0 x) (b0 : spanBulk x ≤ 1048576) (htab : Lib.TabIs Tryd.prog w "internal/strconv.uint64pow10" .u64 Lib.pow10Tab) :
    Calls Tryd.prog 17 #[.agg c0.toArray] w fun e w' => e = .returned (.string (spanX x)) ∧ Below w.heap.size w w' := by
  obtain ⟨s, rfl, g⟩ := h0
  have q1 := bulk_span x
  exact implSpanText x.1 x.2.1 x.2.2.1 x.2.2.2.1 x.2.2.2.2.1 x.2.2.2.2.2 s w (attrs_old g) (by omega) (by omega) htab
end Go.Proofs.YtchinpgjaddnkaaDoor
