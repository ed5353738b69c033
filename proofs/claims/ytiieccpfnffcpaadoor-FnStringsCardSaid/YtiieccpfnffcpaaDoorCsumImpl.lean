/- What impl.Checksum answers: the checksum of the bytes of a short text; the world stays. -/
import Derived.Test.YtiieccpfnffcpaaDoorRows
import Derived.Test.YtiieccpfnffcpaaDoorL1Pure
import Derived.WalkKit
import Derived.Lib.Hide
namespace Go.Proofs.YtiieccpfnffcpaaDoor.L1
open Go.RowKit
theorem implCk_big (s : ByteArray) (w : World) (hs : s.size ≤ maxLen) (h : 4000 < s.size) :
    Calls Tryd.prog 31 #[.string s] w fun e w' => e = .returned (.tuple #[.int .i64 0, .bool false]) ∧ w = w' := by
  unfold maxLen at hs
  go_enter Tryd.func31, Tryd.ntmps31
  go_wp2
  go_ret2
  exact ⟨rfl, rfl⟩
set_option maxHeartbeats 400000 in
theorem implCk_fit (s : ByteArray) (w : World) (h : s.size ≤ 4000) :
    Calls Tryd.prog 31 #[.string s] w fun e w' => e = .returned (.tuple #[.int .i64 (csum s.data.toList), .bool true]) ∧ w = w' := by
  go_enter Tryd.func31, Tryd.ntmps31
  go_wp2
  go_loop [4, 5, 11] (fun n _ i => ∃ k : Nat, k ≤ s.size ∧ i = .int .i64 k ∧ n = .int .i64 (csum (s.data.toList.take k))) (fun _ _ i => s.size - (intOf i).toNat)
  case atStart => exact ⟨0, Nat.zero_le _, rfl, rfl⟩
  case round =>
    obtain ⟨k, hk, rfl, rfl⟩ := hrel
    have hd := csum_bd (s.data.toList.take k)
    by_cases hlt : k < s.size
    · have HS : Hid (csum (s.data.toList.take (k + 1)) = cstep (csum (s.data.toList.take k)) s[k]) := by rw [take_snoc s k hlt]; exact csum_snoc _ _
      obtain ⟨h, hh⟩ : ∃ h, csum (s.data.toList.take k) = h := ⟨_, rfl⟩
      rw [hh] at hd HS ⊢
      clear hh
      have hb : (s[k].toNat : Int) ≤ 255 := by have := s[k].toNat_lt; omega
      go_wp2
      all_goals
        go_round
        case rel => exact ⟨k + 1, by omega, by go_num, by rw [HS.out]; rfl⟩
        case measure => simp [intOf]; omega
    · go_wp2
      go_ret2
      rw [take_all s k (by omega)]
      exact ⟨rfl, rfl⟩
end Go.Proofs.YtiieccpfnffcpaaDoor.L1
