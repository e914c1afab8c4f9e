/- BlkOk of both, at a slice: contracts; no statement of the seat is proved here. -/
import Derived.Test.YtcanhoemhdkjkaaBS4
namespace Go.Proofs.Ytcanhoemhdkjkaa
open Go.RowKit

theorem specBlkOk_at (ao : Option Addr) (ca : Nat) (xs : List Pc) (w : World) (hr : RowR w 4 (.slice ao xs.length ca) xs.length (pcells xs)) :
    Calls Try.prog 10 #[.slice ao xs.length ca] w fun e w' => e = .returned (.bool (okP xs)) ∧ Below w.heap.size w w' := specBlkOk_any _ xs w hr
theorem implBlkOk_at (ao : Option Addr) (ca : Nat) (xs : List Pc) (w : World) (hr : RowR w 4 (.slice ao xs.length ca) xs.length (pcells xs)) :
    Calls Try.prog 12 #[.slice ao xs.length ca] w fun e w' => e = .returned (.bool (okP xs)) ∧ Below w.heap.size w w' := implBlkOk_any _ xs w hr

end Go.Proofs.Ytcanhoemhdkjkaa
