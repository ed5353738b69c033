/- What l3Value and computed answer. -/
import Derived.Test.YtfdbnolifimnhabDoorAre
namespace Go.Proofs.YtfdbnolifimnhabDoor.L3
open Go Go.RowKit Go.Proofs.YtfdbnolifimnhabDoor.Mem Go.Proofs.YtfdbnolifimnhabDoor.Own Go.Proofs.YtfdbnolifimnhabDoor.L1 Go.Proofs.YtfdbnolifimnhabDoor.Bit
theorem below_bd (w : World) (o : Obj) (j : Nat) : Below w.heap.size w ((w.alloc o).drewN j) :=
  have h := below_more (Below.refl w.heap.size w) o
  ⟨h.os, h.tape, h.output, h.size, h.block⟩
theorem pow_small (m : Nat) (hm : m ≤ 15) : (1 : Int) ≤ 2 ^ m ∧ (2 : Int) ^ m ≤ 32768 := by
  have h1 : 2 ^ m ≤ 2 ^ 15 := Nat.pow_le_pow_right (by decide) hm
  have h2 : 0 < 2 ^ m := Nat.two_pow_pos m
  have e : ((2 ^ m : Nat) : Int) = (2 : Int) ^ m := by simp
  omega
theorem shl_range (u : Int) (m : Nat) (hu : 0 ≤ u ∧ u ≤ 65535) (hm : m ≤ 15) : 0 ≤ u * 2 ^ m ∧ u * 2 ^ m ≤ 2147450880 := by
  obtain ⟨h1, h2⟩ := pow_small m hm
  refine ⟨Int.mul_nonneg hu.1 (by omega), ?_⟩
  have := Int.mul_le_mul hu.2 h2 (by omega) (by omega)
  omega
theorem shl_val (u : Int) (m : Nat) (hu : 0 ≤ u ∧ u ≤ 65535) (hm : m ≤ 15) : (wrap64 (u * 2 ^ min m 64)).tmod 65536 = u * 2 ^ m % 65536 := by
  obtain ⟨h1, h2⟩ := shl_range u m hu hm
  rw [Nat.min_eq_left (by omega)]
  have h3 : wrap64 (u * 2 ^ m) = u * 2 ^ m := by
    unfold wrap64
    omega
  rw [h3]
  exact Int.tmod_eq_emod_of_nonneg h1
set_option maxRecDepth 100000 in
set_option maxHeartbeats 4000000 in
theorem l3Value_any (op xn : Int) (ka kb : Nat) (u v : Int) (b off c : Nat) (w : World) (h1 : 1 ≤ op) (h6 : op ≤ 6) (ha : ka < 4) (hb : kb < 4) (hn0 : 0 ≤ xn) (hn2 : xn ≤ 65535) (hn1 : op = 6 → xn ≤ 15) (hu : 0 ≤ u ∧ u ≤ 65535) (hv : 0 ≤ v ∧ v ≤ 65535)
    (hlt : b < w.heap.size) (ca : w.cell? ⟨b, off + ka, none⟩ = some (.int .i64 u)) (cb : w.cell? ⟨b, off + kb, none⟩ = some (.int .i64 v)) :
    Calls Tryd.prog 74 #[.agg #[.int .i64 op, .int .i64 ka, .int .i64 kb, .int .i64 xn], .slice (some ⟨b, off, none⟩) 4 c] w fun e w' => e = .returned (.int .i64 (valueOf ⟨op, ka, kb, xn⟩ u v)) ∧ Below w.heap.size w w' := by
  rcases (show op = 1 ∨ op = 2 ∨ op = 3 ∨ op = 4 ∨ op = 5 ∨ op = 6 by omega) with rfl | rfl | rfl | rfl | rfl | rfl
  · go_enter Tryd.func74, Tryd.ntmps74
    go_wp2
    go_quiet (fail)
    go_wp2
    go_ret
    exact ⟨rfl, below_bd _ _ _⟩
  · go_enter Tryd.func74, Tryd.ntmps74
    go_wp2
    go_quiet (fail)
    go_wp2
    go_ret
    exact ⟨rfl, below_bd _ _ _⟩
  · have t1 : (u + v).tmod 65536 = (u + v) % 65536 := Int.tmod_eq_emod_of_nonneg (by omega)
    go_enter Tryd.func74, Tryd.ntmps74
    go_wp2
    go_quiet (fail)
    go_wp2
    go_ret
    exact ⟨rfl, below_bd _ _ _⟩
  · have t1 : (u - v + 65536).tmod 65536 = (u - v + 65536) % 65536 := Int.tmod_eq_emod_of_nonneg (by omega)
    go_enter Tryd.func74, Tryd.ntmps74
    go_wp2
    go_quiet (fail)
    go_wp2
    go_ret
    refine ⟨?_, below_bd _ _ _⟩
    show Ending.returned (Value.int .i64 ((u - v) % 65536)) = _
    rw [show (u - v) % 65536 = (u - v + 65536) % 65536 by omega]
    rfl
  · go_enter Tryd.func74, Tryd.ntmps74
    go_wp2
    go_quiet (fail)
    go_wp2
    go_ret
    exact ⟨rfl, below_bd _ _ _⟩
  · obtain ⟨m, rfl⟩ := Int.eq_ofNat_of_zero_le hn0
    have t1 := shl_val u m hu (by have := hn1 rfl; omega)
    have T1 := Lib.hid t1
    clear t1
    go_enter Tryd.func74, Tryd.ntmps74
    go_wp2
    go_quiet (fail)
    go_wp2
    go_ret
    refine ⟨?_, below_bd _ _ _⟩
    show Ending.returned (Value.int .i64 ((wrap64 (u * 2 ^ min m 64)).tmod 65536)) = _
    rw [T1.out]
    rfl
set_option maxRecDepth 100000 in
set_option maxHeartbeats 4000000 in
theorem computed_any (op xn : Int) (ka kb : Nat) (u v : Int) (b off c : Nat) (w : World) (h1 : 1 ≤ op) (h6 : op ≤ 6) (ha : ka < 4) (hb : kb < 4) (hn0 : 0 ≤ xn) (hn2 : xn ≤ 65535) (hn1 : op = 6 → xn ≤ 15) (hu : 0 ≤ u ∧ u ≤ 65535) (hv : 0 ≤ v ∧ v ≤ 65535)
    (hlt : b < w.heap.size) (ca : w.cell? ⟨b, off + ka, none⟩ = some (.int .i64 u)) (cb : w.cell? ⟨b, off + kb, none⟩ = some (.int .i64 v)) :
    Calls Tryd.prog 73 #[.agg #[.int .i64 op, .int .i64 ka, .int .i64 kb, .int .i64 xn], .slice (some ⟨b, off, none⟩) 4 c] w fun e w' => e = .returned (.int .i64 (valueOf ⟨op, ka, kb, xn⟩ u v)) ∧ Below w.heap.size w w' := by
  rcases (show op = 1 ∨ op = 2 ∨ op = 3 ∨ op = 4 ∨ op = 5 ∨ op = 6 by omega) with rfl | rfl | rfl | rfl | rfl | rfl
  · have t1 : bits .and .i64 xn 65535 = xn := by rw [mask16]; omega
    go_enter Tryd.func73, Tryd.ntmps73
    go_wp2
    go_ret
    exact ⟨rfl, below_more (Below.refl _ _) _⟩
  · have t1 : bits .and .i64 v 65535 = v := by rw [mask16]; omega
    go_enter Tryd.func73, Tryd.ntmps73
    go_wp2
    go_ret
    exact ⟨rfl, below_more (Below.refl _ _) _⟩
  · have t1 : bits .and .i64 (u + v) 65535 = (u + v) % 65536 := by rw [mask16]
    go_enter Tryd.func73, Tryd.ntmps73
    go_wp2
    go_quiet (fail)
    go_wp2
    go_ret
    exact ⟨rfl, below_bd _ _ _⟩
  · have t1 : bits .and .i64 (u - v) 65535 = (u - v + 65536) % 65536 := by rw [mask16]; omega
    go_enter Tryd.func73, Tryd.ntmps73
    go_wp2
    go_quiet (fail)
    go_wp2
    go_ret
    refine ⟨?_, below_bd _ _ _⟩
    show Ending.returned (Value.int .i64 ((u - v) % 65536)) = _
    rw [show (u - v) % 65536 = (u - v + 65536) % 65536 by omega]
    rfl
  · have t0 := and16 u v hu.1 (by omega) hv.1 (by omega)
    have t1 : bits .and .i64 (bits .and .i64 u v) 65535 = bits .and .i64 u v := by rw [mask16]; omega
    clear t0
    go_enter Tryd.func73, Tryd.ntmps73
    go_wp2
    go_quiet (fail)
    go_wp2
    go_ret
    exact ⟨rfl, below_bd _ _ _⟩
  · obtain ⟨m, rfl⟩ := Int.eq_ofNat_of_zero_le hn0
    have hm : m ≤ 15 := by have := hn1 rfl; omega
    have t0 := shl_range u m hu hm
    have t2 : IntKind.i64.wrap (u * 2 ^ m) = u * 2 ^ m := wraps_i64 _ t0.1 (by omega)
    have t1 : bits .and .i64 (u * 2 ^ m) 65535 = u * 2 ^ m % 65536 := mask16 _
    have t3 : min m 64 = m := Nat.min_eq_left (by omega)
    go_enter Tryd.func73, Tryd.ntmps73
    go_wp2
    go_quiet (fail)
    go_wp2
    go_ret
    exact ⟨rfl, below_bd _ _ _⟩
end Go.Proofs.YtfdbnolifimnhabDoor.L3
