/- How a disk that is an argument is opened; no statement of the seat is proved here. -/
import Derived.Test.YtapflnabiobonaaDoorOkLaw
import Derived.Test.YtapflnabiobonaaDoorArg
namespace Go.Proofs.YtapflnabiobonaaDoor
open Go.ChangeShapes Go.WideShapes Go.ChangeAt Go.RowKit Go.Deep Go.Joins

theorem seat_own : ownKnob Tryd.prog.godebug = none := by kernel_rfl
theorem seat_laidOut : laidOutB Tryd.prog = true := by kernel_rfl

set_option maxRecDepth 100000 in
theorem diskIn_of {H : Type} {enc : TypeId × Value → H} {w : World} {base : Nat} {spare : Nat → Bool} {held : Bool} {r : Reach} {b0 : Nat} {v : Value} {d : DataW H} {p : List MemPlace}
    (hv : Value.okWide Tryd.prog w r b0 25 v) (h : DataW.Trod enc Tryd.prog w base spare held 25 v d p) : ∃ kept wait, DiskIn w v kept wait := by
  obtain ⟨c0, c1, y0, y1, m, rfl, -, -, h0, h1⟩ := open_agg2 Tryd.underlying25 (by kernel_rfl) (by kernel_rfl) hv h
  obtain ⟨kept, k1, k2⟩ := rowR_of_strs Tryd.underlying22 Tryd.underlying9 (by kernel_rfl) h0
  obtain ⟨wait, w1, w2⟩ := rowR_of_pairs Tryd.underlying23 Tryd.underlying101 (by kernel_rfl) rfl rfl (by kernel_rfl) (by kernel_rfl) Tryd.underlying3 Tryd.underlying9 h1
  exact ⟨kept, wait, ⟨_, _, rfl, k1, w1⟩, k2, w2⟩

end Go.Proofs.YtapflnabiobonaaDoor
