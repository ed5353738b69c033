/- What the program's table says of int. -/
import Derived.Test.YtfdbnolifimnhabDoorRows
import Derived.Test.YtfdbnolifimnhabDoorOwn
namespace Go.Proofs.YtfdbnolifimnhabDoor.Own
open Go.RowKit Go.Proofs.YtfdbnolifimnhabDoor.Mem
theorem intInfo : (Tryd.prog.info? 3).map (fun i => (i.zero, i.size, i.bytes)) = some (some (.int .i64 0), 1, 8) := by kernel_rfl
end Go.Proofs.YtfdbnolifimnhabDoor.Own
