/- What the law FnExactSecCut does: its walk; the statement itself is proved elsewhere. -/
import Derived.Test.YtapflnabiobonaaDoorSt
import Derived.Test.YtapflnabiobonaaDoorCut
namespace Go.Proofs.YtapflnabiobonaaDoor
open Go.RowKit

theorem cutK_len (kept : List ByteArray) (wait : List (Int × ByteArray)) (ks : List Int) : (cutK kept wait ks).length ≤ 512 := by
  unfold cutK
  split
  · rw [cutL_len]
    exact (okB_parts ‹_›).1
  · simp

theorem Row.within {w : World} {e : TypeId} {size : Nat} {v : Value} {n lo : Nat} {cs : List Value} (h : Row w e size (fun k => lo ≤ k) v n cs) (hi : Nat) (he : hi = w.heap.size) : Row w e size (fun k => lo ≤ k ∧ k < hi) v n cs := by
  subst he
  exact h.mono (fun k hk h => ⟨h, hk⟩)

end Go.Proofs.YtapflnabiobonaaDoor
