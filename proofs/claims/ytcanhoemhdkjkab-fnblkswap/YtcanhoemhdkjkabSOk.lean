/- What SecOk of the specification does: a contract; no statement of the seat is proved here. -/
import Derived.Test.YtcanhoemhdkjkabH5
namespace Go.Proofs.Ytcanhoemhdkjkab
open Go.RowKit

/-- Whether a write is ok on n sectors. -/
def writeOkB (n : Nat) (x : Int × ByteArray) : Bool := inB x.1 0 ((n : Int) - 1) && decide (x.2.size ≤ 16)
/-- Whether a disk is ok. -/
def okB (kept : List ByteArray) (wait : List (Int × ByteArray)) : Bool :=
  decide (kept.length ≤ 512) && decide (wait.length ≤ 600) && kept.all (fun s => decide (s.size ≤ 16)) && wait.all (writeOkB kept.length)

end Go.Proofs.Ytcanhoemhdkjkab
