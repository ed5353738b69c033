/- What the laws' comparisons vInts and vPairs answer on equal lists; vBig. -/
import Derived.Test.YtlpngmcnelmpmaaPairs
import Derived.ChangeKeysEq
import Derived.Laws.StructEq
namespace Go.Proofs.Ytlpngmcnelmpmaa.Own
open Go.RowKit Go.Proofs.Ytlpngmcnelmpmaa.Mem
set_option maxHeartbeats 1000000 in
theorem vInts_same (A A' : Option Addr) (n c c' : Nat) (xs : List Int) (w : World) (hn : n ≤ 1048576) (hx : Reads w w.heap.size 1 A n (I xs)) (hy : Reads w w.heap.size 1 A' n (I xs)) :
    Calls Try.prog 21 #[.slice A n c, .slice A' n c'] w fun e w' => e = .returned (.bool true) ∧ Below w.heap.size w w' := by
  go_enter Try.func21, Try.ntmps21
  go_wp2
  go_loopw [5] (fun i wr => ∃ (k j : Nat), i = .int .i64 k ∧ k ≤ n ∧ wr = w.drewN j) (fun i _ => n - (intOf i).toNat)
  case atStart => exact ⟨0, 0, rfl, Nat.zero_le _, rfl⟩
  case round =>
    obtain ⟨k, j, rfl, hk, rfl⟩ := hrel
    by_cases hlt : k < n
    · obtain ⟨b1, o1, x, rfl, _, hu, hc⟩ := hx.int_at hlt
      obtain ⟨b2, o2, y, rfl, _, hv, hc'⟩ := hy.int_at hlt
      obtain rfl : x = y := by rw [hu] at hv; exact Option.some.inj hv
      clear hu hv
      go_wp2
      go_quiet (fail)
      go_wp2
      go_roundw
      case rel => exact ⟨k + 1, _, by go_num, by omega, rfl⟩
      case measure => simp [intOf]; omega
    · go_wp2
      go_ret
      exact ⟨rfl, below_drewN w j⟩
theorem pair_neq (x y : Int) (w : World) : (binOp .neq 37 (.agg #[.int .i64 x, .int .i64 y]) (.agg #[.int .i64 x, .int .i64 y])).run Try.prog w = .ok (.bool false) w := by
  obtain ⟨i0, hi, hz0, hz1, hz2⟩ := info_parts intInfo
  have hc : Try.prog.cellsOf 3 = 1 := by kernel_rfl
  rw [run_neq_struct, run_equalIn_array w 9999 _ _ Try.underlying37 hi, hc]
  simp [List.range_succ, Op.eqItems, part, sizeOf, typeInfo, hi, hz1, run_equalIn_int w 9998 3 .i64 .i64 _ _ Try.underlying3]
set_option maxHeartbeats 1000000 in
theorem vPairs_same (A A' : Option Addr) (n c c' : Nat) (ys : List Int) (w : World) (hn : n ≤ 1048576) (hx : Reads w w.heap.size 2 A n (I ys)) (hy : Reads w w.heap.size 2 A' n (I ys)) :
    Calls Try.prog 25 #[.slice A n c, .slice A' n c'] w fun e w' => e = .returned (.bool true) ∧ Below w.heap.size w w' := by
  go_enter Try.func25, Try.ntmps25
  go_wp2
  go_loopw [5] (fun i wr => ∃ (k j : Nat), i = .int .i64 k ∧ k ≤ n ∧ wr = w.drewN j) (fun i _ => n - (intOf i).toNat)
  case atStart => exact ⟨0, 0, rfl, Nat.zero_le _, rfl⟩
  case round =>
    obtain ⟨k, j, rfl, hk, rfl⟩ := hrel
    by_cases hlt : k < n
    · obtain ⟨b1, o1, x, y, rfl, _, hx1, hy1, cx1, cy1⟩ := pair_at hx hlt
      obtain ⟨b2, o2, x', y', rfl, _, hx2, hy2, cx2, cy2⟩ := pair_at hy hlt
      obtain rfl : x' = x := by rw [hx1] at hx2; exact (Option.some.inj hx2).symm
      obtain rfl : y' = y := by rw [hy1] at hy2; exact (Option.some.inj hy2).symm
      have hneq := pair_neq x' y'
      have hm : Try.prog.eqGuardType Try.prog.depth 37 = false := by kernel_rfl
      clear hx1 hx2 hy1 hy2
      go_wp2
      go_quiet (fail)
      go_wp2
      go_roundw
      case rel => exact ⟨k + 1, _, by go_num, by omega, rfl⟩
      case measure => simp [intOf]; omega
    · go_wp2
      go_ret
      exact ⟨rfl, below_drewN w j⟩
theorem vBig_any (A : Option Addr) (n c : Nat) (w : World) :
    Calls Try.prog 14 #[.slice A n c] w fun e w' => e = .returned (.bool (decide ((65536 : Int) < n))) ∧ w = w' := by
  go_enter Try.func14, Try.ntmps14
  go_wp2
  go_ret
  exact ⟨rfl, rfl⟩
end Go.Proofs.Ytlpngmcnelmpmaa.Own
