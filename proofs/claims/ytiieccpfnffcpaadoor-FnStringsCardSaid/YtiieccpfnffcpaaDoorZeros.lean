/- A text of zeros, made by make and a conversion. -/
import Derived.Test.YtiieccpfnffcpaaDoorRows
import Derived.Test.YtiieccpfnffcpaaDoorMem
import Derived.Laws.IdiomStrings
namespace Go.Proofs.YtiieccpfnffcpaaDoor.Draw
open Go.RowKit Go.Proofs.YtiieccpfnffcpaaDoor.Mem
theorem u8Info : (Tryd.prog.info? 5).map (fun i => (i.zero, i.size, i.bytes)) = some (some (.int .u8 0), 1, 1) := by kernel_rfl
/-- a text of zeros -/
def Zb (m : Nat) : ByteArray := ⟨(List.replicate m (0 : UInt8)).toArray⟩
theorem conv_zeros {w : World} {base b m : Nat} (hown : w.ownsRow base 5 1 (.slice (some ⟨b, 0, none⟩) m m) m (madeCells (Value.int .u8 0).cells (m * 1)).toList) :
    (convert 22 9 (.slice (some ⟨b, 0, none⟩) m m)).run Tryd.prog w = .ok (.string (Zb m)) w := by
  have h := run_convert_bytes_back w 22 9 5 ⟨b, 0, none⟩ m (List.replicate m 0) Tryd.underlying22 Tryd.underlying5 Tryd.underlying9 (P := Tryd.prog) (fun j hj => ?_)
  · rw [List.length_replicate] at h; exact h
  · have hj' : j < m := by simpa using hj
    have hc := hown.cells (g := b) rfl j (.int .u8 0) (by
      rw [show (Value.int IntKind.u8 0).cells = #[Value.int .u8 0] from rfl, Nat.mul_one, toList_madeCells_one]
      simp [hj'])
    rw [hc]
    simp
theorem zeros_size (m : Nat) : (Zb m).size = m := by
  show (List.replicate m (0 : UInt8)).toArray.size = m
  simp
end Go.Proofs.YtiieccpfnffcpaaDoor.Draw
