/- Marks from one on: contracts; no statement of the seat is proved here. -/
import Derived.Test.YtcanhoemhdkjkaaBOne
import Derived.Test.YtcanhoemhdkjkaaBHL
namespace Go.Proofs.Ytcanhoemhdkjkaa
open Go.RowKit

theorem markBlkLastS_one (S : Nat → Prop) (v : Value) (n : Nat) (cs : List Value) (M : Int) (w : World) (hr : Row w 62 2 S v n cs) (hM : M = ((1 + n * 2 : Nat) : Int)) (h2 : n ≤ 1048576) :
    Calls Try.prog 29 #[v, .int .i64 1] w fun e w' => e = .returned (.int .i64 M) ∧ Row w' 62 2 S v n (lcells (mkL 1 n)) ∧ Upd S w w' := by
  subst hM
  exact markBlkLastS_any S v n cs 1 w hr (Nat.le_refl _) (by omega)
theorem heldBlkLastS_one (v : Value) (n : Nat) (M : Int) (w : World) (hr : RowR w 2 v n (lcells (mkL 1 n))) (hM : M = ((1 + n * 2 : Nat) : Int)) (h2 : n ≤ 1048576) :
    Calls Try.prog 30 #[v, .int .i64 1] w fun e w' => e = .returned (.int .i64 M) ∧ Below w.heap.size w w' := by
  subst hM
  exact heldBlkLastS_ok v n 1 w hr (Nat.le_refl _) (by omega)

end Go.Proofs.Ytcanhoemhdkjkaa
