/- What the program's table says of int. -/
import Derived.Test.YtfdbnolifimnhaaRows
import Derived.Test.YtfdbnolifimnhaaOwn
namespace Go.Proofs.Ytfdbnolifimnhaa.Own
open Go.RowKit Go.Proofs.Ytfdbnolifimnhaa.Mem
theorem intInfo : (Try.prog.info? 3).map (fun i => (i.zero, i.size, i.bytes)) = some (some (.int .i64 0), 1, 8) := by kernel_rfl
end Go.Proofs.Ytfdbnolifimnhaa.Own
