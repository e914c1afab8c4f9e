/- How a disk that is an argument is opened; no statement of the seat is proved here. -/
import Derived.Test.YtcanhoemhdkjkabOkLaw
import Derived.Test.YtcanhoemhdkjkabArg
namespace Go.Proofs.Ytcanhoemhdkjkab
open Go.ChangeShapes Go.WideShapes Go.ChangeAt Go.RowKit Go.Deep Go.Joins

theorem seat_own : ownKnob Try.prog.godebug = none := by kernel_rfl
theorem seat_laidOut : laidOutB Try.prog = true := by kernel_rfl

end Go.Proofs.Ytcanhoemhdkjkab
