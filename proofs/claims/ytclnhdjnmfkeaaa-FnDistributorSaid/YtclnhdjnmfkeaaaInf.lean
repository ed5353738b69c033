/- What the program's table says of int. -/
import Derived.Test.YtclnhdjnmfkeaaaRows
import Derived.Test.YtclnhdjnmfkeaaaOwn
namespace Go.Proofs.Ytclnhdjnmfkeaaa.Own
open Go.RowKit Go.Proofs.Ytclnhdjnmfkeaaa.Mem
theorem intInfo : (Try.prog.info? 3).map (fun i => (i.zero, i.size, i.bytes)) = some (some (.int .i64 0), 1, 8) := by kernel_rfl
end Go.Proofs.Ytclnhdjnmfkeaaa.Own
