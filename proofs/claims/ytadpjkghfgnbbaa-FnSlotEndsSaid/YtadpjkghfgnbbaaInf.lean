/- What the program's table says of int. -/
import Derived.Test.YtadpjkghfgnbbaaRows
import Derived.Test.YtadpjkghfgnbbaaOwn
namespace Go.Proofs.Ytadpjkghfgnbbaa.Own
open Go.RowKit Go.Proofs.Ytadpjkghfgnbbaa.Mem
theorem intInfo : (Try.prog.info? 3).map (fun i => (i.zero, i.size, i.bytes)) = some (some (.int .i64 0), 1, 8) := by kernel_rfl
end Go.Proofs.Ytadpjkghfgnbbaa.Own
