/- What spec.l1Stands answers: whether a byte stands in a text; the world stays. -/
import Derived.Test.YtiieccpfnffcpaaDoorRows
import Derived.Test.YtiieccpfnffcpaaDoorL1Pure
import Derived.WalkKit
import Derived.Lib.Hide
namespace Go.Proofs.YtiieccpfnffcpaaDoor.L1
open Go.RowKit
theorem take_contains_succ (s : ByteArray) (c : UInt8) (k : Nat) (h : k < s.size) (h0 : (s.data.toList.take k).contains c = false) (h1 : s[k] ≠ c) : (s.data.toList.take (k + 1)).contains c = false := by
  rw [take_snoc s k h]
  simp only [List.contains_eq_mem, List.mem_append, List.mem_singleton, decide_eq_false_iff_not] at h0 ⊢
  rintro (h2 | h2)
  · exact h0 h2
  · exact h1 h2.symm
theorem contains_at (s : ByteArray) (c : UInt8) (k : Nat) (h : k < s.size) (h1 : s[k] = c) : s.data.toList.contains c = true := by
  simp only [List.contains_eq_mem, decide_eq_true_eq]
  rw [← h1]
  have e : s[k] = s.data.toList[k]'(by simpa using h) := rfl
  rw [e]
  exact List.getElem_mem _
set_option maxHeartbeats 400000 in
theorem stands_any (s : ByteArray) (c : UInt8) (n : Int) (hn : n = c.toNat) (b : Bool) (hb : s.data.toList.contains c = b) (w : World) (hs : s.size ≤ maxLen) :
    Calls Tryd.prog 33 #[.string s, .int .u8 n] w fun e w' => e = .returned (.bool b) ∧ w = w' := by
  unfold maxLen at hs
  have HN := Lib.hid hn
  have HB := Lib.hid hb
  clear hn hb
  go_enter Tryd.func33, Tryd.ntmps33
  go_wp2
  go_loop [5] (fun i => ∃ k : Nat, k ≤ s.size ∧ i = .int .i64 k ∧ Hid ((s.data.toList.take k).contains c = false)) (fun i => s.size - (intOf i).toNat)
  case atStart => exact ⟨0, Nat.zero_le _, rfl, Lib.hid (by simp)⟩
  case round =>
    obtain ⟨k, hk, rfl, HC⟩ := hrel
    by_cases hlt : k < s.size
    · by_cases he : s[k] = c
      · have t1 : ((s[k].toNat : Int) == n) = true := by rw [HN.out, he]; simp
        have HE := Lib.hid he
        clear he
        go_wp2
        go_ret
        exact ⟨by rw [← HB.out, contains_at s c k hlt HE.out]; rfl, rfl⟩
      · have t1 : ((s[k].toNat : Int) == n) = false := by
          rw [HN.out]
          simp only [beq_eq_false_iff_ne, ne_eq, Int.natCast_inj]
          intro h; exact he (UInt8.toNat_inj.1 h)
        have HE := Lib.hid he
        clear he
        go_wp2
        all_goals
          go_round
          case rel => exact ⟨k + 1, by omega, by go_num, Lib.hid (take_contains_succ s c k hlt HC.out HE.out)⟩
          case measure => simp [intOf]; omega
    · go_wp2
      go_ret
      refine ⟨?_, rfl⟩
      have h := HC.out
      rw [take_all s k (by omega)] at h
      rw [← HB.out, h]
      rfl
end Go.Proofs.YtiieccpfnffcpaaDoor.L1
