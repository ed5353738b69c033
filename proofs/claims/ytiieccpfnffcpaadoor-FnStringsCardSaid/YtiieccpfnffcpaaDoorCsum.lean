/- What spec.l1Sum, spec.Checksum and impl.Checksum answer: the checksum of the bytes; the world stays. -/
import Derived.Test.YtiieccpfnffcpaaDoorRows
import Derived.Test.YtiieccpfnffcpaaDoorL1Pure
import Derived.WalkKit
import Derived.Lib.Hide
namespace Go.Proofs.YtiieccpfnffcpaaDoor.L1
open Go.RowKit
set_option maxHeartbeats 400000 in
theorem l1Sum_any (s : ByteArray) (w : World) (hs : s.size ≤ maxLen) :
    Calls Tryd.prog 42 #[.string s] w fun e w' => e = .returned (.int .i64 (csum s.data.toList)) ∧ w = w' := by
  unfold maxLen at hs
  go_enter Tryd.func42, Tryd.ntmps42
  go_wp2
  go_loop [3, 4] (fun n i => ∃ k : Nat, k ≤ s.size ∧ i = .int .i64 k ∧ n = .int .i64 (csum (s.data.toList.take k))) (fun _ i => s.size - (intOf i).toNat)
  case atStart => exact ⟨0, Nat.zero_le _, rfl, rfl⟩
  case round =>
    obtain ⟨k, hk, rfl, rfl⟩ := hrel
    have hd := csum_bd (s.data.toList.take k)
    by_cases hlt : k < s.size
    · have HS : Hid (csum (s.data.toList.take (k + 1)) = cstep (csum (s.data.toList.take k)) s[k]) := by rw [take_snoc s k hlt]; exact csum_snoc _ _
      obtain ⟨h, hh⟩ : ∃ h, csum (s.data.toList.take k) = h := ⟨_, rfl⟩
      rw [hh] at hd HS ⊢
      clear hh
      have hb : (s[k].toNat : Int) ≤ 255 := by have := s[k].toNat_lt; omega
      go_wp2
      all_goals
        go_round
        case rel => exact ⟨k + 1, by omega, by go_num, by rw [HS.out]; rfl⟩
        case measure => simp [intOf]; omega
    · go_wp2
      go_ret
      exact ⟨ret_int (by rw [take_all s k (by omega)]), rfl⟩
end Go.Proofs.YtiieccpfnffcpaaDoor.L1
