/- What the program's table says of int. -/
import Derived.Test.YtfdbnolifimnhabRows
import Derived.Test.YtfdbnolifimnhabOwn
namespace Go.Proofs.Ytfdbnolifimnhab.Own
open Go.RowKit Go.Proofs.Ytfdbnolifimnhab.Mem
theorem intInfo : (Try.prog.info? 3).map (fun i => (i.zero, i.size, i.bytes)) = some (some (.int .i64 0), 1, 8) := by kernel_rfl
end Go.Proofs.Ytfdbnolifimnhab.Own
