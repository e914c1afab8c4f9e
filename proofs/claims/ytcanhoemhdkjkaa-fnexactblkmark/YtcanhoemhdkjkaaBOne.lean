/- Marks from one on: contracts; no statement of the seat is proved here. -/
import Derived.Test.YtcanhoemhdkjkaaBH
namespace Go.Proofs.Ytcanhoemhdkjkaa
open Go.RowKit

theorem rowWithin {w : World} {e : TypeId} {size : Nat} {v : Value} {n lo : Nat} {cs : List Value} (h : Row w e size (fun k => lo ≤ k) v n cs) (hi : Nat) (he : hi = w.heap.size) : Row w e size (fun k => lo ≤ k ∧ k < hi) v n cs := by
  subst he
  exact h.mono (fun k hk h => ⟨h, hk⟩)
theorem markBlkPieceS_one (S : Nat → Prop) (v : Value) (n : Nat) (cs : List Value) (M : Int) (w : World) (hr : Row w 47 4 S v n cs) (hM : M = ((1 + n * 4 : Nat) : Int)) (h2 : n ≤ 1048576) :
    Calls Try.prog 16 #[v, .int .i64 1] w fun e w' => e = .returned (.int .i64 M) ∧ Row w' 47 4 S v n (pcells (mkP 1 n)) ∧ Upd S w w' := by
  subst hM
  exact markBlkPieceS_any S v n cs 1 w hr (Nat.le_refl _) (by omega)
theorem heldBlkPieceS_one (v : Value) (n : Nat) (M : Int) (w : World) (hr : RowR w 4 v n (pcells (mkP 1 n))) (hM : M = ((1 + n * 4 : Nat) : Int)) (h2 : n ≤ 1048576) :
    Calls Try.prog 17 #[v, .int .i64 1] w fun e w' => e = .returned (.int .i64 M) ∧ Below w.heap.size w w' := by
  subst hM
  exact heldBlkPieceS_ok v n 1 w hr (Nat.le_refl _) (by omega)

end Go.Proofs.Ytcanhoemhdkjkaa
