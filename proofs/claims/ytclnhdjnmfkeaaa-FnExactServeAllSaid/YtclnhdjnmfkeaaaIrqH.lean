/- What the laws' looks at marked slices of Irq answer. -/
import Derived.Test.YtclnhdjnmfkeaaaIrqM
namespace Go.Proofs.Ytclnhdjnmfkeaaa.L6
open Go Go.RowKit Go.Proofs.Ytclnhdjnmfkeaaa.Mem Go.Proofs.Ytclnhdjnmfkeaaa.Own
set_option maxRecDepth 100000 in
set_option maxHeartbeats 4000000 in
theorem heldIrqS_step (A : Option Addr) (n c k0 : Nat) (K : Int) (hK : K = k0) (w : World) (hn : n ≤ 1048576) (hk1 : k0 ≤ 4294967296) (hr : Reads w w.heap.size 5 A n (FL (upIrq k0 n))) :
    Calls Try.prog 23 #[.slice A n c, .int .i64 K] w fun e w' => e = .returned (.int .i64 (K + 5 * n)) ∧ Below w.heap.size w w' := by
  subst hK
  have HR := Lib.hid hr
  clear hr
  go_enter Try.func23, Try.ntmps23
  go_wp2
  go_loopw [1, 5] (fun k i wr => ∃ (q : Nat), i = .int .i64 q ∧ k = .int .i64 (k0 + 5 * q) ∧ q ≤ n ∧ wr = w) (fun _ i _ => n - (intOf i).toNat)
  case atStart => exact ⟨0, rfl, by go_num, Nat.zero_le _, rfl⟩
  case round =>
    obtain ⟨q, rfl, rfl, hq, rfl⟩ := hrel
    by_cases hlt : q < n
    · obtain ⟨b, off, x, rfl, hbB, hu, c0, c1, c2, c3, c4⟩ := irq_at HR.out hlt
      rw [upIrq_at k0 n q hlt] at hu
      obtain rfl := Option.some.inj hu
      dsimp only at c0 c1 c2 c3 c4
      obtain ⟨bq0, hbq0⟩ : ∃ b, decide (((k0 : Int) + 5 * (q : Int)) % 3 = 0) = b := ⟨_, rfl⟩
      have hb10 : (((k0 : Int) + 5 * q) % 3 == 0) = bq0 := by rw [← hbq0, Bool.eq_iff_iff]; simp
      have hb20 : (((k0 : Int) + 5 * q).tmod 3 == 0) = bq0 := by rw [Int.tmod_eq_emod_of_nonneg (by omega)]; exact hb10
      obtain ⟨bq1, hbq1⟩ : ∃ b, decide (((k0 : Int) + 5 * (q : Int) + 1) % 3 = 0) = b := ⟨_, rfl⟩
      have hb11 : (((k0 : Int) + 5 * q + 1) % 3 == 0) = bq1 := by rw [← hbq1, Bool.eq_iff_iff]; simp
      have hb21 : (((k0 : Int) + 5 * q + 1).tmod 3 == 0) = bq1 := by rw [Int.tmod_eq_emod_of_nonneg (by omega)]; exact hb11
      obtain ⟨bq2, hbq2⟩ : ∃ b, decide (((k0 : Int) + 5 * (q : Int) + 1 + 1) % 3 = 0) = b := ⟨_, rfl⟩
      have hb12 : (((k0 : Int) + 5 * q + 1 + 1) % 3 == 0) = bq2 := by rw [← hbq2, Bool.eq_iff_iff]; simp
      have hb22 : (((k0 : Int) + 5 * q + 1 + 1).tmod 3 == 0) = bq2 := by rw [Int.tmod_eq_emod_of_nonneg (by omega)]; exact hb12
      rw [hbq0] at c0
      rw [hbq1] at c1
      rw [hbq2] at c2
      clear hu hbq0 hbq1 hbq2
      go_wp2
      go_roundw
      case rel => exact ⟨q + 1, by go_num, by go_num, by omega, by first | rfl | trivial⟩
      case measure => simp [intOf]; omega
    · have hqn : q = n := by omega
      subst hqn
      go_wp2
      go_ret
      exact ⟨rfl, Below.refl _ _⟩
end Go.Proofs.Ytclnhdjnmfkeaaa.L6
