/- The answer of a call that hands back slots and one slot. -/
import Derived.Test.YtadpjkghfgnbbaaSlX
import Derived.Test.YtadpjkghfgnbbaaSloB
namespace Go.Proofs.Ytadpjkghfgnbbaa.L8
open Go Go.RowKit Go.Proofs.Ytadpjkghfgnbbaa.Mem Go.Proofs.Ytadpjkghfgnbbaa.Own Go.Proofs.Ytadpjkghfgnbbaa.L6
/-- an answer of slots, one slot, and whether there is one -/
def EvPost (w : World) (r : List Slt × Slt × Bool) (e : Ending) (w' : World) : Prop :=
  ∃ A' c' t, e = .returned (.tuple #[.slice A' r.1.length c', .agg #[.int .i64 r.2.1.st, .int .i64 r.2.1.iq, .int .i64 r.2.1.pr], .bool r.2.2]) ∧ w'.ownsRow w.heap.size t 3 (.slice A' r.1.length c') r.1.length (FL r.1) ∧ Below w.heap.size w w'
theorem evPost_no {w w' : World} (hb : Below w.heap.size w w') : EvPost w ([], nul, false) (.returned (.tuple #[.slice none 0 0, .agg #[.int .i64 0, .int .i64 0, .int .i64 0], .bool false])) w' := ⟨none, 0, 33, rfl, World.ownsRow_nil _ _ _ _, hb⟩
theorem evPost_nil {w w' : World} {g : Nat} (ho : w'.ownsRow w.heap.size 33 3 (.slice (some ⟨g, 0, none⟩) 0 0) 0 []) (hb : Below w.heap.size w w') : EvPost w ([], nul, false) (.returned (.tuple #[.slice (some ⟨g, 0, none⟩) 0 0, .agg #[.int .i64 0, .int .i64 0, .int .i64 0], .bool false])) w' := ⟨_, 0, 33, rfl, ho, hb⟩
theorem evPost_4 {w w' : World} {l : List Slt} {x : Slt} {g c : Nat} {t : TypeId} (hl : l.length = 4) (ho : w'.ownsRow w.heap.size t 3 (.slice (some ⟨g, 0, none⟩) 4 c) 4 (FL l)) (hb : Below w.heap.size w w') : EvPost w (l, x, true) (.returned (.tuple #[.slice (some ⟨g, 0, none⟩) 4 c, .agg #[.int .i64 x.st, .int .i64 x.iq, .int .i64 x.pr], .bool true])) w' :=
  ⟨some ⟨g, 0, none⟩, c, t, by rw [hl], by rw [hl]; exact ho, hb⟩
end Go.Proofs.Ytadpjkghfgnbbaa.L8
