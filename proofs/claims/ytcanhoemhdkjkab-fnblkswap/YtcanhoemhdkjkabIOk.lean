/- What SecOk of the program does: contracts; no statement of the seat is proved here. -/
import Derived.Test.YtcanhoemhdkjkabTold
import Derived.Test.YtcanhoemhdkjkabR
namespace Go.Proofs.Ytcanhoemhdkjkab
open Go.RowKit Go.Shelf

attribute [local go_sem] Oper.semAt_some

end Go.Proofs.Ytcanhoemhdkjkab
