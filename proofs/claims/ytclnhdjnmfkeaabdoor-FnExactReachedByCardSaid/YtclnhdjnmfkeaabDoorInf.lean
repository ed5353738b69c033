/- What the program's table says of int. -/
import Derived.Test.YtclnhdjnmfkeaabDoorRows
import Derived.Test.YtclnhdjnmfkeaabDoorOwn
namespace Go.Proofs.YtclnhdjnmfkeaabDoor.Own
open Go.RowKit Go.Proofs.YtclnhdjnmfkeaabDoor.Mem
theorem intInfo : (Tryd.prog.info? 3).map (fun i => (i.zero, i.size, i.bytes)) = some (some (.int .i64 0), 1, 8) := by kernel_rfl
end Go.Proofs.YtclnhdjnmfkeaabDoor.Own
