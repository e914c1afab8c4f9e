/- What the law FnExactSecCut does: its walk; the statement itself is proved elsewhere. -/
import Derived.Test.YtiffpgnmnahelabSt
import Derived.Test.YtiffpgnmnahelabCut
namespace Go.Proofs.Ytiffpgnmnahelab
open Go.RowKit

theorem cutK_len (kept : List ByteArray) (wait : List (Int × ByteArray)) (ks : List Int) : (cutK kept wait ks).length ≤ 512 := by
  unfold cutK
  split
  · rw [cutL_len]
    exact (okB_parts ‹_›).1
  · simp

theorem markIntS_at (S : Nat → Prop) (v : Value) (n : Nat) (cs : List Value) (a : Int) (k0 : Nat) (w : World) (hr : Row w 3 1 S v n cs) (ha : a = k0) (h1 : 1 ≤ k0) (h2 : k0 + n ≤ 1099511627776) :
    Calls Try.prog 16 #[v, .int .i64 a] w fun e w' => e = .returned (.int .i64 (k0 + n : Nat)) ∧ Upd S w w' := by
  subst ha
  exact markIntS_any S v n cs k0 w hr h1 h2

theorem Row.within {w : World} {e : TypeId} {size : Nat} {v : Value} {n lo : Nat} {cs : List Value} (h : Row w e size (fun k => lo ≤ k) v n cs) (hi : Nat) (he : hi = w.heap.size) : Row w e size (fun k => lo ≤ k ∧ k < hi) v n cs := by
  subst he
  exact h.mono (fun k hk h => ⟨h, hk⟩)

end Go.Proofs.Ytiffpgnmnahelab
