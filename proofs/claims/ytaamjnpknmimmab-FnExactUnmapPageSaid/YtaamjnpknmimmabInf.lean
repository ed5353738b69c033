/- What the program's table says of int. -/
import Derived.Test.YtaamjnpknmimmabRows
import Derived.Test.YtaamjnpknmimmabOwn
namespace Go.Proofs.Ytaamjnpknmimmab.Own
open Go.RowKit Go.Proofs.Ytaamjnpknmimmab.Mem
theorem intInfo : (Try.prog.info? 3).map (fun i => (i.zero, i.size, i.bytes)) = some (some (.int .i64 0), 1, 8) := by kernel_rfl
end Go.Proofs.Ytaamjnpknmimmab.Own
