/- What spec.LessString and impl.LessString answer. -/
import Derived.Test.YtiieccpfnffcpaaRows
import Derived.WalkKit
import Derived.WalkLawsBesides
namespace Go.Proofs.Ytiieccpfnffcpaa.L1
open Go.RowKit
theorem specLess (a b : ByteArray) (p : Bool) (hp : Op.bytesLess a.toList b.toList = p) (w : World) :
    Calls Try.prog 16 #[.string a, .string b] w fun e w' => e = .returned (.bool p) ∧ w = w' := by
  subst hp
  go_enter Try.func16, Try.ntmps16
  go_wp2
  go_ret
  exact ⟨rfl, rfl⟩
theorem implLess (a b : ByteArray) (p : Bool) (hp : Op.bytesLess a.toList b.toList = p) (w : World) :
    Calls Try.prog 15 #[.string a, .string b] w fun e w' => e = .returned (.bool p) ∧ w = w' := by
  subst hp
  go_enter Try.func15, Try.ntmps15
  go_wp2
  go_ret
  exact ⟨rfl, rfl⟩
end Go.Proofs.Ytiieccpfnffcpaa.L1
