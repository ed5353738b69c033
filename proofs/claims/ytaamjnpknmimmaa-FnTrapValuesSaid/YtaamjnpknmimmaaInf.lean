/- What the program's table says of int. -/
import Derived.Test.YtaamjnpknmimmaaRows
import Derived.Test.YtaamjnpknmimmaaOwn
namespace Go.Proofs.Ytaamjnpknmimmaa.Own
open Go.RowKit Go.Proofs.Ytaamjnpknmimmaa.Mem
theorem intInfo : (Try.prog.info? 3).map (fun i => (i.zero, i.size, i.bytes)) = some (some (.int .i64 0), 1, 8) := by kernel_rfl
end Go.Proofs.Ytaamjnpknmimmaa.Own
