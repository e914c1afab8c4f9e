/- What the law on SecCut is drawn from: contracts; no statement of the seat is proved here. -/
import Derived.Test.YtapflnabiobonaaDoorDraw4
namespace Go.Proofs.YtapflnabiobonaaDoor
open Go.RowKit

theorem pick_at (w0 w : World) (R p k : Nat) (a : Int) (ha : a = k) (hr : Rd w0 w R p) (hk : 1 ≤ k) (hk' : k ≤ 1073741824) (hp : p ≤ 1073741824) :
    Calls Tryd.prog 55 #[.pointer (some ⟨R, 0, none⟩), .int .i64 a] w fun e w' => ∃ q : Nat, e = .returned (.int .i64 q) ∧ q < k ∧ Rd w0 w' R (p + 1) ∧ Upd (fun j => j = R) w w' := by
  subst ha
  exact pick_any w0 w R p k hr hk hk' hp

end Go.Proofs.YtapflnabiobonaaDoor
