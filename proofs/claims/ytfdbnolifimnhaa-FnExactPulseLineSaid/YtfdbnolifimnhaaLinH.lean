/- What the laws' looks at marked slices of Line answer. -/
import Derived.Test.YtfdbnolifimnhaaLinM
namespace Go.Proofs.Ytfdbnolifimnhaa.L7
open Go Go.RowKit Go.Proofs.Ytfdbnolifimnhaa.Mem Go.Proofs.Ytfdbnolifimnhaa.Own
set_option maxRecDepth 100000 in
set_option maxHeartbeats 4000000 in
theorem heldLineS_step (A : Option Addr) (n c k0 : Nat) (K : Int) (hK : K = k0) (w : World) (hn : n ≤ 1048576) (hk1 : k0 ≤ 4294967296) (hr : Reads w w.heap.size 4 A n (FL (upLin k0 n))) :
    Calls Try.prog 86 #[.slice A n c, .int .i64 K] w fun e w' => e = .returned (.int .i64 (K + 4 * n)) ∧ Below w.heap.size w w' := by
  subst hK
  have HR := Lib.hid hr
  clear hr
  go_enter Try.func86, Try.ntmps86
  go_wp2
  go_loopw [1, 5] (fun k i wr => ∃ (q : Nat), i = .int .i64 q ∧ k = .int .i64 (k0 + 4 * q) ∧ q ≤ n ∧ wr = w) (fun _ i _ => n - (intOf i).toNat)
  case atStart => exact ⟨0, rfl, by go_num, Nat.zero_le _, rfl⟩
  case round =>
    obtain ⟨q, rfl, rfl, hq, rfl⟩ := hrel
    by_cases hlt : q < n
    · obtain ⟨b, off, x, rfl, hbB, hu, c0, c1, c2, c3⟩ := lin_at HR.out hlt
      rw [upLin_at k0 n q hlt] at hu
      obtain rfl := Option.some.inj hu
      dsimp only at c0 c1 c2 c3
      obtain ⟨bq2, hbq2⟩ : ∃ b, decide (((k0 : Int) + 4 * (q : Int) + 1 + 1) % 3 = 0) = b := ⟨_, rfl⟩
      have hb12 : (((k0 : Int) + 4 * q + 1 + 1) % 3 == 0) = bq2 := by rw [← hbq2, Bool.eq_iff_iff]; simp
      have hb22 : (((k0 : Int) + 4 * q + 1 + 1).tmod 3 == 0) = bq2 := by rw [Int.tmod_eq_emod_of_nonneg (by omega)]; exact hb12
      obtain ⟨bq3, hbq3⟩ : ∃ b, decide (((k0 : Int) + 4 * (q : Int) + 1 + 1 + 1) % 3 = 0) = b := ⟨_, rfl⟩
      have hb13 : (((k0 : Int) + 4 * q + 1 + 1 + 1) % 3 == 0) = bq3 := by rw [← hbq3, Bool.eq_iff_iff]; simp
      have hb23 : (((k0 : Int) + 4 * q + 1 + 1 + 1).tmod 3 == 0) = bq3 := by rw [Int.tmod_eq_emod_of_nonneg (by omega)]; exact hb13
      rw [hbq2] at c2
      rw [hbq3] at c3
      clear hu hbq2 hbq3
      go_wp2
      go_roundw
      case rel => exact ⟨q + 1, by go_num, by go_num, by omega, by first | rfl | trivial⟩
      case measure => simp [intOf]; omega
    · have hqn : q = n := by omega
      subst hqn
      go_wp2
      go_ret
      exact ⟨rfl, Below.refl _ _⟩
end Go.Proofs.Ytfdbnolifimnhaa.L7
