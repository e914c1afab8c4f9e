/- What the laws' own helpers do with numbers: contracts; no statement of the seat is proved here. -/
import Derived.Test.YtapflnabiobonaaDoorH5
namespace Go.Proofs.YtapflnabiobonaaDoor
open Go.RowKit

theorem infoInt : (Tryd.prog.info? 3).map (fun i => (i.zero, i.size, i.bytes)) = some (some (.int .i64 0), 1, 8) := by kernel_rfl

end Go.Proofs.YtapflnabiobonaaDoor
