/- What the laws on SecPut are drawn from: a contract; no statement of the seat is proved here. -/
import Derived.Deep.RegionHeld3
import Derived.Test.YtapflnabiobonaaDoorDraw5
namespace Go.Proofs.YtapflnabiobonaaDoor
open Go.RowKit

theorem wrapLen (q : Nat) (h : q ≤ 512 + 1) : IntKind.i64.wrap ((q : Int) + 2) = ((q + 2 : Nat) : Int) := by
  simp [IntKind.wrap, IntKind.bits, IntKind.signed]
  omega

theorem heldUpd {W w' : World} {B R Q : Nat} {x y : Value} (t0 : W.cell? ⟨B, 0, none⟩ = some x) (t1 : W.cell? ⟨B, 1, none⟩ = some y) (tl : B < W.heap.size) (hne : ¬ B = R) (hnq : ¬ B = Q) (hu : Upd (fun j => j = R ∨ j = Q) W w') :
    w'.cell? ⟨B, 0, none⟩ = some x ∧ w'.cell? ⟨B, 1, none⟩ = some y :=
  ⟨(World.cell?_of_block (a := ⟨B, 0, none⟩) (hu.block B tl (by omega))).trans t0, (World.cell?_of_block (a := ⟨B, 1, none⟩) (hu.block B tl (by omega))).trans t1⟩
theorem updL {R Q : Nat} {W w' : World} (h : Upd (fun j => j = R) W w') : Upd (fun j => j = R ∨ j = Q) W w' := h.mono (fun _ h => .inl h)

end Go.Proofs.YtapflnabiobonaaDoor
