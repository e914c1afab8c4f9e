/- What SecOk of the program does: contracts; no statement of the seat is proved here. -/
import Derived.Test.YtcanhoemhdkjkaaTold
import Derived.Test.YtcanhoemhdkjkaaR
namespace Go.Proofs.Ytcanhoemhdkjkaa
open Go.RowKit Go.Shelf

attribute [local go_sem] Oper.semAt_some

end Go.Proofs.Ytcanhoemhdkjkaa
