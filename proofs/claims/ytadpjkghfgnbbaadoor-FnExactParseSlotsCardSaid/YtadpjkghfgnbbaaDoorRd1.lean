/- What spec.l1Read answers, whatever the text. -/
import Derived.Test.YtadpjkghfgnbbaaDoorRead
namespace Go.Proofs.YtadpjkghfgnbbaaDoor.L1
open Go Go.RowKit
theorem l1Read_any (s : ByteArray) (r : Int) (b : Bool) (hr : ReadIs s r b) (w : World) (hs : s.size ≤ 1048576) :
    Calls Tryd.prog 22 #[.string s] w fun e w' => e = .returned (.tuple #[.int .i64 r, .bool b]) ∧ ∃ j, w' = w.drewN j := by
  by_cases h1 : 1 < s.size
  · by_cases h0 : s[0] = 45
    · exact l1Read_neg s r b hr w hs h1 h0
    · refine l1Read_pos s r b hr w hs h1 ?_ (strip_pos (.inr ⟨by omega, h0⟩))
      simp only [beq_eq_false_iff_ne, ne_eq]
      intro h
      apply h0
      apply UInt8.toNat_inj.1
      have : (45 : UInt8).toNat = 45 := rfl
      omega
  · exact l1Read_one s r b hr w hs (by omega) (strip_pos (.inl (by omega)))
end Go.Proofs.YtadpjkghfgnbbaaDoor.L1
