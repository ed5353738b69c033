/- For every argument the law FnExactUnmapPage returns true. -/
import Derived.Test.YtaamjnpknmimmabRows
import Derived.Test.YtaamjnpknmimmabFrame
import Derived.Test.YtaamjnpknmimmabUnB
import Derived.Test.YtaamjnpknmimmabOpenT
import Derived.Test.YtaamjnpknmimmabOnly
import Derived.Deep.RegionHeld3
import Derived.Deep.Cut
import Derived.Deep.CutRange
namespace Go.Proofs.Ytaamjnpknmimmab.fnExactUnmapPage
open Go.ChangeShapes Go.WideShapes Go.ChangeAt Go.RowKit
open Go.ChangeMaps (open_string shut_string)
open Go Go.Proofs.Ytaamjnpknmimmab.L4 Go.Proofs.Ytaamjnpknmimmab.Mem Go.Proofs.Ytaamjnpknmimmab.Own
set_option linter.unusedVariables false
theorem own : ownKnob Try.prog.godebug = none := by kernel_rfl
theorem laidOut : laidOutB Try.prog = true := by kernel_rfl
set_option maxRecDepth 100000 in
set_option maxHeartbeats 20000000 in
theorem big0 (W : World) (A0 : Option Addr) (n0 c0 : Nat) (D0 : Option Addr) (m0 d0 : Nat) (t0 : Tab) (hr0 : ReadsT W W.heap.size A0 n0 D0 m0 t0) (hx0 : n0 ≤ maxLen) (hk0 : m0 ≤ maxLen) (n1 : Int) (hy0 : 1048576 < (n0 + (m0 + tot t0.leaves))) :
    Calls Try.prog 3 #[.agg #[.slice A0 n0 c0, .slice D0 m0 d0], .int .i64 n1] W fun e W' => e = .returned (.bool true) ∧ Below W.heap.size W W' := by
  skip
  have hW0 : Hid (Below W.heap.size W W) := Lib.hid (Below.refl _ _)
  replace hr0 := Lib.hid hr0
  go_enter Try.func3, Try.ntmps3
  obtain ⟨v1, hv⟩ : ∃ v1, W.alloc (.cells #[.slice A0 n0 c0, .slice D0 m0 d0] 25) = v1 := ⟨_, rfl⟩
  have hb : Below W.heap.size W v1 := by rw [← hv]; exact below_more (Below.refl _ _) _
  have o_a0 : Hid (Blk v1 W.heap.size 25 #[.slice A0 n0 c0, .slice D0 m0 d0]) := Lib.hid (by rw [← hv]; exact Blk.new _ _ _)
  have HV1 := Lib.hid hv
  clear hv
  have hW1 := Lib.hid (below_then hW0.out hb)
  have sz1 := Lib.hid o_a0.out.lt
  clear hb hW0
  have k_a0_0 : (W.alloc (.cells #[.slice A0 n0 c0, .slice D0 m0 d0] 25)).cell? ⟨W.heap.size, 0, none⟩ = some (.slice A0 n0 c0) := by rw [HV1.out]; exact o_a0.out.cell 0 _ rfl
  have k_a0_1 : (W.alloc (.cells #[.slice A0 n0 c0, .slice D0 m0 d0] 25)).cell? ⟨W.heap.size, 1, none⟩ = some (.slice D0 m0 d0) := by rw [HV1.out]; exact o_a0.out.cell 1 _ rfl
  go_wp2_with fail
  clear k_a0_0 k_a0_1
  rw [HV1.out]
  clear HV1
  refine (szTable_no A0 n0 c0 D0 m0 d0 t0 (1048576) _ (hr0.out.grow hW1.out) (by omega) (by omega) (by omega) hx0 hk0).mono ?_
  rintro e u2 ⟨rfl, hb⟩
  have hW2 := Lib.hid (below_then hW1.out hb)
  replace o_a0 := Lib.hid (o_a0.out.below hb)
  have sz2 := Lib.hid hb.size
  clear hb hW1
  go_wp2_with fail
  go_ret
  exact ⟨rfl, hW2.out⟩
set_option maxRecDepth 100000 in
set_option maxHeartbeats 20000000 in
theorem walk0 (W : World) (A0 : Option Addr) (n0 c0 : Nat) (D0 : Option Addr) (m0 d0 : Nat) (t0 : Tab) (hr0 : ReadsT W W.heap.size A0 n0 D0 m0 t0) (hx0 : n0 ≤ maxLen) (hk0 : m0 ≤ maxLen) (n1 : Int) (hy0 : (n0 + (m0 + tot t0.leaves)) ≤ 1048576) :
    Calls Try.prog 3 #[.agg #[.slice A0 n0 c0, .slice D0 m0 d0], .int .i64 n1] W fun e W' => e = .returned (.bool true) ∧ Below W.heap.size W W' := by
  unfold maxLen at hx0
  have hn0 : n0 ≤ 1048576 := by omega
  have hm0 : m0 ≤ 1048576 := by omega
  have ht0 : tot t0.leaves ≤ 1048576 := by omega
  have hl0 : ∀ xs ∈ t0.leaves, xs.length ≤ 1048576 := fun xs hh => by have := len_le_tot hh; omega
  obtain ⟨r, hr_⟩ : ∃ r, unmapOf t0 n1 = r := ⟨_, rfl⟩
  obtain ⟨tt0, b⟩ := r
  have HS := Lib.hid fun (A5 D5 : Option Addr) (w : World) (hx : ReadsT w w.heap.size A5 n0 D5 m0 t0) => specUnm_any A5 n0 n0 D5 m0 m0 n1 t0 w hx hn0 hm0 hl0 (Nat.le_refl _) tt0 b hr_
  have HI := Lib.hid fun (A5 D5 : Option Addr) (w : World) (hx : ReadsT w w.heap.size A5 n0 D5 m0 t0) => implUnm_any A5 n0 n0 D5 m0 m0 n1 t0 w hx hn0 hm0 hl0 tt0 b hr_
  obtain ⟨hz1, hz2, hz3⟩ := unmapOf_sizes hr_
  have hdl0 := hr0.dlen
  have hll0 := hr0.leaves.len
  obtain ⟨r0, hm1⟩ : ∃ m, tt0.dirs.length = m := ⟨_, rfl⟩
  obtain ⟨s0, hm2⟩ : ∃ m, tt0.leaves.length = m := ⟨_, rfl⟩
  rw [hm1, hm2] at HS HI
  have hr_0 : r0 ≤ 1048576 := by omega
  have hs_0 : s0 ≤ 1048576 := by omega
  have ht_0 : tot tt0.leaves ≤ 1048576 := by omega
  have hl_0 : ∀ xs ∈ tt0.leaves, xs.length ≤ 1048576 := fun xs hx => by have := len_le_tot hx; omega
  clear hr_ hz1 hz2 hz3 hdl0 hll0 hm1 hm2
  replace hr0 := Lib.hid hr0
  have hW0 : Hid (Below W.heap.size W W) := Lib.hid (Below.refl _ _)
  go_enter Try.func3, Try.ntmps3
  obtain ⟨v1, hv⟩ : ∃ v1, W.alloc (.cells #[.slice A0 n0 c0, .slice D0 m0 d0] 25) = v1 := ⟨_, rfl⟩
  have hb : Below W.heap.size W v1 := by rw [← hv]; exact below_more (Below.refl _ _) _
  have o_a0 : Hid (Blk v1 W.heap.size 25 #[.slice A0 n0 c0, .slice D0 m0 d0]) := Lib.hid (by rw [← hv]; exact Blk.new _ _ _)
  have HV1 := Lib.hid hv
  clear hv
  have hW1 := Lib.hid (below_then hW0.out hb)
  have sz1 := Lib.hid o_a0.out.lt
  clear hb hW0
  have k_a0_0 : (W.alloc (.cells #[.slice A0 n0 c0, .slice D0 m0 d0] 25)).cell? ⟨W.heap.size, 0, none⟩ = some (.slice A0 n0 c0) := by rw [HV1.out]; exact o_a0.out.cell 0 _ rfl
  have k_a0_1 : (W.alloc (.cells #[.slice A0 n0 c0, .slice D0 m0 d0] 25)).cell? ⟨W.heap.size, 1, none⟩ = some (.slice D0 m0 d0) := by rw [HV1.out]; exact o_a0.out.cell 1 _ rfl
  go_wp2_with fail
  clear k_a0_0 k_a0_1
  rw [HV1.out]
  clear HV1
  refine (szTable_yes A0 n0 c0 D0 m0 d0 t0 (1048576) _ (hr0.out.grow hW1.out) (by omega) (by omega)).mono ?_
  rintro e u2 ⟨rfl, hb⟩
  have hW2 := Lib.hid (below_then hW1.out hb)
  replace o_a0 := Lib.hid (o_a0.out.below hb)
  have sz2 := Lib.hid hb.size
  clear hb hW1
  have k_a0_0 : u2.cell? ⟨W.heap.size, 0, none⟩ = some (.slice A0 n0 c0) := o_a0.out.cell 0 _ rfl
  have k_a0_1 : u2.cell? ⟨W.heap.size, 1, none⟩ = some (.slice D0 m0 d0) := o_a0.out.cell 1 _ rfl
  go_wp2_with fail
  clear k_a0_0 k_a0_1
  refine (toTable_any A0 n0 c0 D0 m0 d0 _ t0 _ ((hr0.out.below hW2.out).more hW2.out.size) (Nat.le_refl _) hn0 hm0 hl0).mono ?_
  rintro e u3 ⟨g_t0, e_t0, rfl, h_t0, hb⟩
  have hW3 := Lib.hid (below_then hW2.out hb)
  replace o_a0 := Lib.hid (o_a0.out.below hb)
  have sz3 := Lib.hid hb.size
  clear hb hW2
  have o_t0 : Hid (OwnT u3 u2.heap.size u3.heap.size (some ⟨g_t0, 0, none⟩) n0 n0 (some ⟨e_t0, 0, none⟩) m0 m0 t0) := Lib.hid (by first | exact h_t0 | exact Row.of h_t0)
  clear h_t0
  go_wp2_with fail
  refine (HS.out _ _ _ o_t0.out.reads).mono ?_
  rintro e u4 ⟨A_w0, c_w0, D_w0, d_w0, rfl, h_w0, hb⟩
  have hW4 := Lib.hid (below_then hW3.out hb)
  replace o_a0 := Lib.hid (o_a0.out.below hb)
  replace o_t0 := Lib.hid (o_t0.out.below hb)
  have sz4 := Lib.hid hb.size
  clear hb hW3
  have o_w0 : Hid (OwnT u4 u3.heap.size u4.heap.size A_w0 r0 c_w0 D_w0 s0 d_w0 tt0) := Lib.hid (by first | exact h_w0 | exact Row.of h_w0)
  clear h_w0
  obtain ⟨v5, hv⟩ : ∃ v5, u4.alloc (.cells #[.slice A_w0 r0 c_w0, .slice D_w0 s0 d_w0] 29) = v5 := ⟨_, rfl⟩
  have hb : Below u4.heap.size u4 v5 := by rw [← hv]; exact below_more (Below.refl _ _) _
  have o_Lw0 : Hid (Blk v5 u4.heap.size 29 #[.slice A_w0 r0 c_w0, .slice D_w0 s0 d_w0]) := Lib.hid (by rw [← hv]; exact Blk.new _ _ _)
  have HV5 := Lib.hid hv
  clear hv
  have hW5 := Lib.hid (below_then hW4.out hb)
  replace o_a0 := Lib.hid (o_a0.out.below hb)
  replace o_t0 := Lib.hid (o_t0.out.below hb)
  replace o_w0 := Lib.hid (o_w0.out.below hb)
  have sz5 := Lib.hid o_Lw0.out.lt
  clear hb hW4
  clear o_t0
  have k_a0_0 : (u4.alloc (.cells #[.slice A_w0 r0 c_w0, .slice D_w0 s0 d_w0] 29)).cell? ⟨W.heap.size, 0, none⟩ = some (.slice A0 n0 c0) := by rw [HV5.out]; exact o_a0.out.cell 0 _ rfl
  have k_a0_1 : (u4.alloc (.cells #[.slice A_w0 r0 c_w0, .slice D_w0 s0 d_w0] 29)).cell? ⟨W.heap.size, 1, none⟩ = some (.slice D0 m0 d0) := by rw [HV5.out]; exact o_a0.out.cell 1 _ rfl
  go_wp2_with fail
  clear k_a0_0 k_a0_1
  rw [HV5.out]
  clear HV5
  refine (toTable_any A0 n0 c0 D0 m0 d0 _ t0 _ ((hr0.out.below hW5.out).more hW5.out.size) (Nat.le_refl _) hn0 hm0 hl0).mono ?_
  rintro e u6 ⟨g_x0, e_x0, rfl, h_x0, hb⟩
  have hW6 := Lib.hid (below_then hW5.out hb)
  replace o_a0 := Lib.hid (o_a0.out.below hb)
  replace o_w0 := Lib.hid (o_w0.out.below hb)
  replace o_Lw0 := Lib.hid (o_Lw0.out.below hb)
  have sz6 := Lib.hid hb.size
  clear hb hW5
  have o_x0 : Hid (OwnT u6 v5.heap.size u6.heap.size (some ⟨g_x0, 0, none⟩) n0 n0 (some ⟨e_x0, 0, none⟩) m0 m0 t0) := Lib.hid (by first | exact h_x0 | exact Row.of h_x0)
  clear h_x0
  obtain ⟨v7, hv⟩ : ∃ v7, u6.alloc (.cells #[.slice (some ⟨g_x0, 0, none⟩) n0 n0, .slice (some ⟨e_x0, 0, none⟩) m0 m0] 29) = v7 := ⟨_, rfl⟩
  have hb : Below u6.heap.size u6 v7 := by rw [← hv]; exact below_more (Below.refl _ _) _
  have o_Lx0 : Hid (Blk v7 u6.heap.size 29 #[.slice (some ⟨g_x0, 0, none⟩) n0 n0, .slice (some ⟨e_x0, 0, none⟩) m0 m0]) := Lib.hid (by rw [← hv]; exact Blk.new _ _ _)
  have HV7 := Lib.hid hv
  clear hv
  have hW7 := Lib.hid (below_then hW6.out hb)
  replace o_a0 := Lib.hid (o_a0.out.below hb)
  replace o_w0 := Lib.hid (o_w0.out.below hb)
  replace o_Lw0 := Lib.hid (o_Lw0.out.below hb)
  replace o_x0 := Lib.hid (o_x0.out.below hb)
  have sz7 := Lib.hid o_Lx0.out.lt
  clear hb hW6
  have k_Lx0_0 : (u6.alloc (.cells #[.slice (some ⟨g_x0, 0, none⟩) n0 n0, .slice (some ⟨e_x0, 0, none⟩) m0 m0] 29)).cell? ⟨u6.heap.size, 0, none⟩ = some (.slice (some ⟨g_x0, 0, none⟩) n0 n0) := by rw [HV7.out]; exact o_Lx0.out.cell 0 _ rfl
  have k_Lx0_1 : (u6.alloc (.cells #[.slice (some ⟨g_x0, 0, none⟩) n0 n0, .slice (some ⟨e_x0, 0, none⟩) m0 m0] 29)).cell? ⟨u6.heap.size, 1, none⟩ = some (.slice (some ⟨e_x0, 0, none⟩) m0 m0) := by rw [HV7.out]; exact o_Lx0.out.cell 1 _ rfl
  go_wp2_with fail
  clear k_Lx0_0 k_Lx0_1
  rw [HV7.out]
  clear HV7
  refine (HI.out _ _ _ o_x0.out.reads).mono ?_
  rintro e u8 ⟨A_g0, c_g0, D_g0, d_g0, rfl, h_g0, hb⟩
  have hW8 := Lib.hid (below_then hW7.out hb)
  replace o_a0 := Lib.hid (o_a0.out.below hb)
  replace o_w0 := Lib.hid (o_w0.out.below hb)
  replace o_Lw0 := Lib.hid (o_Lw0.out.below hb)
  replace o_x0 := Lib.hid (o_x0.out.below hb)
  replace o_Lx0 := Lib.hid (o_Lx0.out.below hb)
  have sz8 := Lib.hid hb.size
  clear hb hW7
  have o_g0 : Hid (OwnT u8 v7.heap.size u8.heap.size A_g0 r0 c_g0 D_g0 s0 d_g0 tt0) := Lib.hid (by first | exact h_g0 | exact Row.of h_g0)
  clear h_g0
  obtain ⟨v9, hv⟩ : ∃ v9, u8.alloc (.cells #[.slice A_g0 r0 c_g0, .slice D_g0 s0 d_g0] 29) = v9 := ⟨_, rfl⟩
  have hb : Below u8.heap.size u8 v9 := by rw [← hv]; exact below_more (Below.refl _ _) _
  have o_Lg0 : Hid (Blk v9 u8.heap.size 29 #[.slice A_g0 r0 c_g0, .slice D_g0 s0 d_g0]) := Lib.hid (by rw [← hv]; exact Blk.new _ _ _)
  have HV9 := Lib.hid hv
  clear hv
  have hW9 := Lib.hid (below_then hW8.out hb)
  replace o_a0 := Lib.hid (o_a0.out.below hb)
  replace o_w0 := Lib.hid (o_w0.out.below hb)
  replace o_Lw0 := Lib.hid (o_Lw0.out.below hb)
  replace o_x0 := Lib.hid (o_x0.out.below hb)
  replace o_Lx0 := Lib.hid (o_Lx0.out.below hb)
  replace o_g0 := Lib.hid (o_g0.out.below hb)
  have sz9 := Lib.hid o_Lg0.out.lt
  clear hb hW8
  have k_Lg0_0 : (u8.alloc (.cells #[.slice A_g0 r0 c_g0, .slice D_g0 s0 d_g0] 29)).cell? ⟨u8.heap.size, 0, none⟩ = some (.slice A_g0 r0 c_g0) := by rw [HV9.out]; exact o_Lg0.out.cell 0 _ rfl
  have k_Lg0_1 : (u8.alloc (.cells #[.slice A_g0 r0 c_g0, .slice D_g0 s0 d_g0] 29)).cell? ⟨u8.heap.size, 1, none⟩ = some (.slice D_g0 s0 d_g0) := by rw [HV9.out]; exact o_Lg0.out.cell 1 _ rfl
  have k_Lw0_0 : (u8.alloc (.cells #[.slice A_g0 r0 c_g0, .slice D_g0 s0 d_g0] 29)).cell? ⟨u4.heap.size, 0, none⟩ = some (.slice A_w0 r0 c_w0) := by rw [HV9.out]; exact o_Lw0.out.cell 0 _ rfl
  have k_Lw0_1 : (u8.alloc (.cells #[.slice A_g0 r0 c_g0, .slice D_g0 s0 d_g0] 29)).cell? ⟨u4.heap.size, 1, none⟩ = some (.slice D_w0 s0 d_w0) := by rw [HV9.out]; exact o_Lw0.out.cell 1 _ rfl
  go_wp2_with fail
  clear k_Lg0_0 k_Lg0_1 k_Lw0_0 k_Lw0_1
  rw [HV9.out]
  clear HV9
  refine (eqTable_step _ _ _ _ _ _ _ _ _ _ tt0 _ hr_0 hs_0 hl_0 o_g0.out.reads o_w0.out.reads).mono ?_
  rintro e u10 ⟨rfl, hb⟩
  have hW10 := Lib.hid (below_then hW9.out hb)
  replace o_a0 := Lib.hid (o_a0.out.below hb)
  replace o_w0 := Lib.hid (o_w0.out.below hb)
  replace o_Lw0 := Lib.hid (o_Lw0.out.below hb)
  replace o_x0 := Lib.hid (o_x0.out.below hb)
  replace o_Lx0 := Lib.hid (o_Lx0.out.below hb)
  replace o_g0 := Lib.hid (o_g0.out.below hb)
  replace o_Lg0 := Lib.hid (o_Lg0.out.below hb)
  have sz10 := Lib.hid hb.size
  clear hb hW9
  go_wp2_with fail
  have k_Lx0_0 : u10.cell? ⟨u6.heap.size, 0, none⟩ = some (.slice (some ⟨g_x0, 0, none⟩) n0 n0) := o_Lx0.out.cell 0 _ rfl
  have k_Lx0_1 : u10.cell? ⟨u6.heap.size, 1, none⟩ = some (.slice (some ⟨e_x0, 0, none⟩) m0 m0) := o_Lx0.out.cell 1 _ rfl
  have k_a0_0 : u10.cell? ⟨W.heap.size, 0, none⟩ = some (.slice A0 n0 c0) := o_a0.out.cell 0 _ rfl
  have k_a0_1 : u10.cell? ⟨W.heap.size, 1, none⟩ = some (.slice D0 m0 d0) := o_a0.out.cell 1 _ rfl
  go_region_held3 (fun w' => w'.cell? ⟨u6.heap.size, 0, none⟩ = some (.slice (some ⟨g_x0, 0, none⟩) n0 n0) ∧ w'.cell? ⟨u6.heap.size, 1, none⟩ = some (.slice (some ⟨e_x0, 0, none⟩) m0 m0) ∧ w'.cell? ⟨W.heap.size, 0, none⟩ = some (.slice A0 n0 c0) ∧ w'.cell? ⟨W.heap.size, 1, none⟩ = some (.slice D0 m0 d0)) (first | exact ⟨k_Lx0_0, k_Lx0_1, k_a0_0, k_a0_1⟩ | go_keep)
    (first
      | (go_at_call 10; refine (toTable_any A0 n0 c0 D0 m0 d0 _ t0 _ ((hr0.out.below hW10.out).more hW10.out.size).drew (Nat.le_refl _) hn0 hm0 hl0).mono ?_; rintro e u11 ⟨g_y0, e_y0, rfl, h_y0, hb⟩; replace hb := below_then (below_drew1 _) hb; have hW11 := Lib.hid (below_then hW10.out hb); replace o_a0 := Lib.hid (o_a0.out.below hb); replace o_w0 := Lib.hid (o_w0.out.below hb); replace o_Lw0 := Lib.hid (o_Lw0.out.below hb); replace o_x0 := Lib.hid (o_x0.out.below hb); replace o_Lx0 := Lib.hid (o_Lx0.out.below hb); replace o_g0 := Lib.hid (o_g0.out.below hb); replace o_Lg0 := Lib.hid (o_Lg0.out.below hb); have sz11 := Lib.hid hb.size; clear hb hW10; have o_y0 : Hid (OwnT u11 u10.heap.size u11.heap.size (some ⟨g_y0, 0, none⟩) n0 n0 (some ⟨e_y0, 0, none⟩) m0 m0 t0) := Lib.hid (by first | exact h_y0 | exact Row.of h_y0); clear h_y0; clear k_Lx0_0 k_Lx0_1 k_a0_0 k_a0_1; have k_Lx0_0 : u11.cell? ⟨u6.heap.size, 0, none⟩ = some (.slice (some ⟨g_x0, 0, none⟩) n0 n0) := o_Lx0.out.cell 0 _ rfl; have k_Lx0_1 : u11.cell? ⟨u6.heap.size, 1, none⟩ = some (.slice (some ⟨e_x0, 0, none⟩) m0 m0) := o_Lx0.out.cell 1 _ rfl; have k_a0_0 : u11.cell? ⟨W.heap.size, 0, none⟩ = some (.slice A0 n0 c0) := o_a0.out.cell 0 _ rfl; have k_a0_1 : u11.cell? ⟨W.heap.size, 1, none⟩ = some (.slice D0 m0 d0) := o_a0.out.cell 1 _ rfl)
      | (go_at_call 12; refine (eqTable_step _ _ _ _ _ _ _ _ _ _ t0 _ hn0 hm0 hl0 o_x0.out.reads o_y0.out.reads).mono ?_; rintro e u12 ⟨rfl, hb⟩; have hW12 := Lib.hid (below_then hW11.out hb); replace o_a0 := Lib.hid (o_a0.out.below hb); replace o_w0 := Lib.hid (o_w0.out.below hb); replace o_Lw0 := Lib.hid (o_Lw0.out.below hb); replace o_x0 := Lib.hid (o_x0.out.below hb); replace o_Lx0 := Lib.hid (o_Lx0.out.below hb); replace o_g0 := Lib.hid (o_g0.out.below hb); replace o_Lg0 := Lib.hid (o_Lg0.out.below hb); replace o_y0 := Lib.hid (o_y0.out.below hb); have sz12 := Lib.hid hb.size; clear hb hW11; clear k_Lx0_0 k_Lx0_1 k_a0_0 k_a0_1; have k_Lx0_0 : u12.cell? ⟨u6.heap.size, 0, none⟩ = some (.slice (some ⟨g_x0, 0, none⟩) n0 n0) := o_Lx0.out.cell 0 _ rfl; have k_Lx0_1 : u12.cell? ⟨u6.heap.size, 1, none⟩ = some (.slice (some ⟨e_x0, 0, none⟩) m0 m0) := o_Lx0.out.cell 1 _ rfl; have k_a0_0 : u12.cell? ⟨W.heap.size, 0, none⟩ = some (.slice A0 n0 c0) := o_a0.out.cell 0 _ rfl; have k_a0_1 : u12.cell? ⟨W.heap.size, 1, none⟩ = some (.slice D0 m0 d0) := o_a0.out.cell 1 _ rfl))
  clear k_Lx0_0 k_Lx0_1 k_a0_0 k_a0_1
  clear o_y0
  have k_Lx0_0 : u12.cell? ⟨u6.heap.size, 0, none⟩ = some (.slice (some ⟨g_x0, 0, none⟩) n0 n0) := o_Lx0.out.cell 0 _ rfl
  have k_Lx0_1 : u12.cell? ⟨u6.heap.size, 1, none⟩ = some (.slice (some ⟨e_x0, 0, none⟩) m0 m0) := o_Lx0.out.cell 1 _ rfl
  go_wp2_with fail
  clear k_Lx0_0 k_Lx0_1
  refine (markTable_step _ _ _ _ _ _ _ _ t0 (1) (1) (by first | rfl | (push_cast; omega)) _ hn0 hm0 ht0 (by omega) o_x0.out).mono ?_
  rintro e u13 ⟨rfl, _, ho⟩
  have ysz1 := sz1.out; have ysz2 := sz2.out; have ysz3 := sz3.out; have ysz4 := sz4.out; have ysz5 := sz5.out; have ysz6 := sz6.out; have ysz7 := sz7.out; have ysz8 := sz8.out; have ysz9 := sz9.out; have ysz10 := sz10.out; have ysz11 := sz11.out; have ysz12 := sz12.out
  have hw0 := hW12.out.size
  have q_a0 := o_a0.out.lt
  have q_Lw0 := o_Lw0.out.lt
  have q_Lx0 := o_Lx0.out.lt
  have q_Lg0 := o_Lg0.out.lt
  have hW13 := Lib.hid (ho.below hW12.out (by omega))
  replace o_a0 := Lib.hid (o_a0.out.only ho (by omega))
  replace o_w0 := Lib.hid (o_w0.out.only ho (by omega))
  replace o_Lw0 := Lib.hid (o_Lw0.out.only ho (by omega))
  replace o_Lx0 := Lib.hid (o_Lx0.out.only ho (by omega))
  replace o_g0 := Lib.hid (o_g0.out.only ho (by omega))
  replace o_Lg0 := Lib.hid (o_Lg0.out.only ho (by omega))
  clear q_a0
  clear q_Lw0
  clear q_Lx0
  clear q_Lg0
  clear ysz1 ysz2 ysz3 ysz4 ysz5 ysz6 ysz7 ysz8 ysz9 ysz10 ysz11 ysz12 hw0
  have sz13 := Lib.hid ho.size
  clear ho hW12
  clear o_x0
  clear o_Lx0
  have k_Lg0_0 : u13.cell? ⟨u8.heap.size, 0, none⟩ = some (.slice A_g0 r0 c_g0) := o_Lg0.out.cell 0 _ rfl
  have k_Lg0_1 : u13.cell? ⟨u8.heap.size, 1, none⟩ = some (.slice D_g0 s0 d_g0) := o_Lg0.out.cell 1 _ rfl
  have k_Lw0_0 : u13.cell? ⟨u4.heap.size, 0, none⟩ = some (.slice A_w0 r0 c_w0) := o_Lw0.out.cell 0 _ rfl
  have k_Lw0_1 : u13.cell? ⟨u4.heap.size, 1, none⟩ = some (.slice D_w0 s0 d_w0) := o_Lw0.out.cell 1 _ rfl
  go_wp2_with fail
  clear k_Lg0_0 k_Lg0_1 k_Lw0_0 k_Lw0_1
  refine (eqTable_step _ _ _ _ _ _ _ _ _ _ tt0 _ hr_0 hs_0 hl_0 o_g0.out.reads o_w0.out.reads).mono ?_
  rintro e u14 ⟨rfl, hb⟩
  have hW14 := Lib.hid (below_then hW13.out hb)
  replace o_a0 := Lib.hid (o_a0.out.below hb)
  replace o_w0 := Lib.hid (o_w0.out.below hb)
  replace o_Lw0 := Lib.hid (o_Lw0.out.below hb)
  replace o_g0 := Lib.hid (o_g0.out.below hb)
  replace o_Lg0 := Lib.hid (o_Lg0.out.below hb)
  have sz14 := Lib.hid hb.size
  clear hb hW13
  have k_Lg0_0 : u14.cell? ⟨u8.heap.size, 0, none⟩ = some (.slice A_g0 r0 c_g0) := o_Lg0.out.cell 0 _ rfl
  have k_Lg0_1 : u14.cell? ⟨u8.heap.size, 1, none⟩ = some (.slice D_g0 s0 d_g0) := o_Lg0.out.cell 1 _ rfl
  go_wp2_with fail
  clear k_Lg0_0 k_Lg0_1
  refine (markTable_step _ _ _ _ _ _ _ _ tt0 (1) (1) (by first | rfl | (push_cast; omega)) _ hr_0 hs_0 ht_0 (by omega) o_g0.out).mono ?_
  rintro e u15 ⟨rfl, h_g0, ho⟩
  have ysz1 := sz1.out; have ysz2 := sz2.out; have ysz3 := sz3.out; have ysz4 := sz4.out; have ysz5 := sz5.out; have ysz6 := sz6.out; have ysz7 := sz7.out; have ysz8 := sz8.out; have ysz9 := sz9.out; have ysz10 := sz10.out; have ysz11 := sz11.out; have ysz12 := sz12.out; have ysz13 := sz13.out; have ysz14 := sz14.out
  have hw0 := hW14.out.size
  have q_a0 := o_a0.out.lt
  have q_Lw0 := o_Lw0.out.lt
  have q_Lg0 := o_Lg0.out.lt
  have hW15 := Lib.hid (ho.below hW14.out (by omega))
  replace o_a0 := Lib.hid (o_a0.out.only ho (by omega))
  replace o_w0 := Lib.hid (o_w0.out.only ho (by omega))
  replace o_Lw0 := Lib.hid (o_Lw0.out.only ho (by omega))
  replace o_Lg0 := Lib.hid (o_Lg0.out.only ho (by omega))
  clear q_a0
  clear q_Lw0
  clear q_Lg0
  clear ysz1 ysz2 ysz3 ysz4 ysz5 ysz6 ysz7 ysz8 ysz9 ysz10 ysz11 ysz12 ysz13 ysz14 hw0
  have sz15 := Lib.hid ho.size
  clear ho hW14
  have n_g0 : Hid (OwnT u15 v7.heap.size u8.heap.size A_g0 r0 c_g0 D_g0 s0 d_g0 (upT (1) tt0)) := Lib.hid h_g0
  clear h_g0 o_g0
  have o_g0 := n_g0
  clear n_g0
  have k_Lg0_0 : u15.cell? ⟨u8.heap.size, 0, none⟩ = some (.slice A_g0 r0 c_g0) := o_Lg0.out.cell 0 _ rfl
  have k_Lg0_1 : u15.cell? ⟨u8.heap.size, 1, none⟩ = some (.slice D_g0 s0 d_g0) := o_Lg0.out.cell 1 _ rfl
  go_wp2_with fail
  clear k_Lg0_0 k_Lg0_1
  refine (heldTable_step _ _ _ _ _ _ tt0 (1) (1) (by first | rfl | (push_cast; omega)) _ hr_0 hs_0 ht_0 (by omega) o_g0.out.reads).mono ?_
  rintro e u16 ⟨rfl, hb⟩
  have hW16 := Lib.hid (below_then hW15.out hb)
  replace o_a0 := Lib.hid (o_a0.out.below hb)
  replace o_w0 := Lib.hid (o_w0.out.below hb)
  replace o_Lw0 := Lib.hid (o_Lw0.out.below hb)
  replace o_g0 := Lib.hid (o_g0.out.below hb)
  replace o_Lg0 := Lib.hid (o_Lg0.out.below hb)
  have sz16 := Lib.hid hb.size
  clear hb hW15
  have k_a0_0 : u16.cell? ⟨W.heap.size, 0, none⟩ = some (.slice A0 n0 c0) := o_a0.out.cell 0 _ rfl
  have k_a0_1 : u16.cell? ⟨W.heap.size, 1, none⟩ = some (.slice D0 m0 d0) := o_a0.out.cell 1 _ rfl
  go_wp2_with fail
  clear k_a0_0 k_a0_1
  refine (toTable_any A0 n0 c0 D0 m0 d0 _ t0 _ ((hr0.out.below hW16.out).more hW16.out.size) (Nat.le_refl _) hn0 hm0 hl0).mono ?_
  rintro e u17 ⟨g_r0, e_r0, rfl, h_r0, hb⟩
  have hW17 := Lib.hid (below_then hW16.out hb)
  replace o_a0 := Lib.hid (o_a0.out.below hb)
  replace o_w0 := Lib.hid (o_w0.out.below hb)
  replace o_Lw0 := Lib.hid (o_Lw0.out.below hb)
  replace o_g0 := Lib.hid (o_g0.out.below hb)
  replace o_Lg0 := Lib.hid (o_Lg0.out.below hb)
  have sz17 := Lib.hid hb.size
  clear hb hW16
  have o_r0 : Hid (OwnT u17 u16.heap.size u17.heap.size (some ⟨g_r0, 0, none⟩) n0 n0 (some ⟨e_r0, 0, none⟩) m0 m0 t0) := Lib.hid (by first | exact h_r0 | exact Row.of h_r0)
  clear h_r0
  go_wp2_with fail
  refine (HI.out _ _ _ o_r0.out.reads).mono ?_
  rintro e u18 ⟨A_h0, c_h0, D_h0, d_h0, rfl, h_h0, hb⟩
  have hW18 := Lib.hid (below_then hW17.out hb)
  replace o_a0 := Lib.hid (o_a0.out.below hb)
  replace o_w0 := Lib.hid (o_w0.out.below hb)
  replace o_Lw0 := Lib.hid (o_Lw0.out.below hb)
  replace o_g0 := Lib.hid (o_g0.out.below hb)
  replace o_Lg0 := Lib.hid (o_Lg0.out.below hb)
  replace o_r0 := Lib.hid (o_r0.out.below hb)
  have sz18 := Lib.hid hb.size
  clear hb hW17
  have o_h0 : Hid (OwnT u18 u17.heap.size u18.heap.size A_h0 r0 c_h0 D_h0 s0 d_h0 tt0) := Lib.hid (by first | exact h_h0 | exact Row.of h_h0)
  clear h_h0
  obtain ⟨v19, hv⟩ : ∃ v19, u18.alloc (.cells #[.slice A_h0 r0 c_h0, .slice D_h0 s0 d_h0] 29) = v19 := ⟨_, rfl⟩
  have hb : Below u18.heap.size u18 v19 := by rw [← hv]; exact below_more (Below.refl _ _) _
  have o_Lh0 : Hid (Blk v19 u18.heap.size 29 #[.slice A_h0 r0 c_h0, .slice D_h0 s0 d_h0]) := Lib.hid (by rw [← hv]; exact Blk.new _ _ _)
  have HV19 := Lib.hid hv
  clear hv
  have hW19 := Lib.hid (below_then hW18.out hb)
  replace o_a0 := Lib.hid (o_a0.out.below hb)
  replace o_w0 := Lib.hid (o_w0.out.below hb)
  replace o_Lw0 := Lib.hid (o_Lw0.out.below hb)
  replace o_g0 := Lib.hid (o_g0.out.below hb)
  replace o_Lg0 := Lib.hid (o_Lg0.out.below hb)
  replace o_r0 := Lib.hid (o_r0.out.below hb)
  replace o_h0 := Lib.hid (o_h0.out.below hb)
  have sz19 := Lib.hid o_Lh0.out.lt
  clear hb hW18
  clear o_r0
  have k_Lh0_0 : (u18.alloc (.cells #[.slice A_h0 r0 c_h0, .slice D_h0 s0 d_h0] 29)).cell? ⟨u18.heap.size, 0, none⟩ = some (.slice A_h0 r0 c_h0) := by rw [HV19.out]; exact o_Lh0.out.cell 0 _ rfl
  have k_Lh0_1 : (u18.alloc (.cells #[.slice A_h0 r0 c_h0, .slice D_h0 s0 d_h0] 29)).cell? ⟨u18.heap.size, 1, none⟩ = some (.slice D_h0 s0 d_h0) := by rw [HV19.out]; exact o_Lh0.out.cell 1 _ rfl
  have k_Lw0_0 : (u18.alloc (.cells #[.slice A_h0 r0 c_h0, .slice D_h0 s0 d_h0] 29)).cell? ⟨u4.heap.size, 0, none⟩ = some (.slice A_w0 r0 c_w0) := by rw [HV19.out]; exact o_Lw0.out.cell 0 _ rfl
  have k_Lw0_1 : (u18.alloc (.cells #[.slice A_h0 r0 c_h0, .slice D_h0 s0 d_h0] 29)).cell? ⟨u4.heap.size, 1, none⟩ = some (.slice D_w0 s0 d_w0) := by rw [HV19.out]; exact o_Lw0.out.cell 1 _ rfl
  go_wp2_with fail
  clear k_Lh0_0 k_Lh0_1 k_Lw0_0 k_Lw0_1
  rw [HV19.out]
  clear HV19
  refine (eqTable_step _ _ _ _ _ _ _ _ _ _ tt0 _ hr_0 hs_0 hl_0 o_h0.out.reads o_w0.out.reads).mono ?_
  rintro e u20 ⟨rfl, hb⟩
  have hW20 := Lib.hid (below_then hW19.out hb)
  replace o_a0 := Lib.hid (o_a0.out.below hb)
  replace o_w0 := Lib.hid (o_w0.out.below hb)
  replace o_Lw0 := Lib.hid (o_Lw0.out.below hb)
  replace o_g0 := Lib.hid (o_g0.out.below hb)
  replace o_Lg0 := Lib.hid (o_Lg0.out.below hb)
  replace o_h0 := Lib.hid (o_h0.out.below hb)
  replace o_Lh0 := Lib.hid (o_Lh0.out.below hb)
  have sz20 := Lib.hid hb.size
  clear hb hW19
  have k_Lg0_0 : u20.cell? ⟨u8.heap.size, 0, none⟩ = some (.slice A_g0 r0 c_g0) := o_Lg0.out.cell 0 _ rfl
  have k_Lg0_1 : u20.cell? ⟨u8.heap.size, 1, none⟩ = some (.slice D_g0 s0 d_g0) := o_Lg0.out.cell 1 _ rfl
  go_wp2_with fail
  clear k_Lg0_0 k_Lg0_1
  refine (heldTable_step _ _ _ _ _ _ tt0 (1) (1) (by first | rfl | (push_cast; omega)) _ hr_0 hs_0 ht_0 (by omega) o_g0.out.reads).mono ?_
  rintro e u21 ⟨rfl, hb⟩
  have hW21 := Lib.hid (below_then hW20.out hb)
  replace o_a0 := Lib.hid (o_a0.out.below hb)
  replace o_w0 := Lib.hid (o_w0.out.below hb)
  replace o_Lw0 := Lib.hid (o_Lw0.out.below hb)
  replace o_g0 := Lib.hid (o_g0.out.below hb)
  replace o_Lg0 := Lib.hid (o_Lg0.out.below hb)
  replace o_h0 := Lib.hid (o_h0.out.below hb)
  replace o_Lh0 := Lib.hid (o_Lh0.out.below hb)
  have sz21 := Lib.hid hb.size
  clear hb hW20
  go_wp2_with fail
  go_ret
  exact ⟨rfl, hW21.out⟩

set_option maxHeartbeats 4000000 in
set_option maxRecDepth 100000 in
/-- the law's Go text returns true, and nothing that was there has turned -/
theorem walk {H : Type} {enc : TypeId × Value → H} (W : World) (base : Nat) (v0 : Value) (d0 : DataW H) (p0 : List MemPlace) (q0 : Value.okWide Try.prog W .any base 25 v0) (h0 : DataW.Trod enc Try.prog W 0 (fun _ => true) true 25 v0 d0 p0) (l0 : ∀ x ∈ p0, x.block < W.heap.size) (n1 : Int) (b1 : (Lit.int .i64 n1).wf = true) (hL : laidMetH Try.prog Rows.fnExactUnmapPageRow.laid W) (hsh : W.ShapedOpen Try.prog) :
    Calls Try.prog 3 #[v0, .int .i64 n1] W fun e W' => e = .returned (.bool true) ∧ Below W.heap.size W W' := by
  obtain ⟨A0, n0, c0, D0, m0, d0, t0, rfl, hx0, hk0, hr0⟩ := open_table q0 h0
  by_cases hy0 : 1048576 < (n0 + (m0 + tot t0.leaves))
  · exact big0 W A0 n0 c0 D0 m0 d0 t0 hr0 hx0 hk0 n1  hy0
  exact walk0 W A0 n0 c0 D0 m0 d0 t0 hr0 hx0 hk0 n1 (by omega)
theorem laid_met (os : Os) : laidMetH Try.prog Rows.fnExactUnmapPageRow.laid ((World.holding Try.prog os ⟨#[], #[], []⟩).forCall (fun _ _ => 0) ⟨#[], #[(.agg #[.slice none 0 0, .slice none 0 0] : Value), .int .i64 0], []⟩).memory := ⟨[], rfl, List.nodup_nil, fun _ _ h => by cases h⟩
theorem reads (os : Os) {H : Type} (enc : TypeId × Value → H) : (DataW.whole enc Try.prog ((World.holding Try.prog os ⟨#[], #[], []⟩).forCall (fun _ _ => 0) ⟨#[], #[(.agg #[.slice none 0 0, .slice none 0 0] : Value), .int .i64 0], []⟩).memory Try.f3.params.toList Rows.fnExactUnmapPageSpec.vars false #[(.agg #[.slice none 0 0, .slice none 0 0] : Value), .int .i64 0].toList 8).isSome = true := by kernel_rfl
set_option maxRecDepth 100000 in
theorem lifted (os : Os) (started : os.Started) (H : Type) (enc : TypeId × Value → H) (F : Stop.Interp) :
    ReturnsInHanded {} Try.checked os 3 .any ((OpenSpec.ofChange Rows.fnExactUnmapPageSpec).preRow enc Try.prog Try.f3 Rows.fnExactUnmapPageRow.domain false Rows.fnExactUnmapPageRow.laid) (((OpenSpec.ofChange Rows.fnExactUnmapPageSpec).at F).post enc Try.prog Try.f3 false true false false) := by
  obtain ⟨x, hx⟩ := Option.isSome_iff_exists.1 (reads os enc)
  refine returnsInHanded_of_row (C := Try.checked) (s := OpenSpec.ofChange Rows.fnExactUnmapPageSpec) own started (by kernel_rfl) Try.func3
    (witness_row_at (enc := enc) (C := Try.checked) false (World.holding Try.prog os ⟨#[], #[], []⟩) #[(.agg #[.slice none 0 0, .slice none 0 0] : Value), .int .i64 0] rfl (by kernel_rfl) (by kernel_rfl) (by kernel_rfl)
      (OpenSpec.preRow_of_cond 8 hx (by rfl) (fun k hk => by cases hk) (by kernel_rfl) (laid_met os))) ?_
  intro W base args ds gs before hval0 hW _ hcond hsz hL hsh _
  have hval : ∀ (j : Nat) t v, Try.f3.params[j]? = some t → args[j]? = some v → Value.okWide Try.prog W .any base t v := hval0
  have hW' := hW
  obtain ⟨p, q, hA0, hV, rfl, hfz, hnd⟩ := hW
  have hA : DataW.TrodAll enc Try.prog W 0 (fun _ => true) true Try.f3.params.toList args.toList ds p := hA0
  rw [Try.params3] at hA hval
  obtain ⟨v0, vs0, d0, ds0, p0, q0, hargs, rfl, rfl, h0, r0⟩ := trodAll_cons hA
  obtain ⟨v1, vs1, d1, ds1, p1, q1, rfl, rfl, rfl, h1, r1⟩ := trodAll_cons r0
  obtain ⟨rfl, rfl, rfl⟩ := trodAll_nil r1
  obtain rfl : args = #[v0, v1] := by cases args; simp_all
  obtain ⟨rfl, rfl⟩ := trodVars_none hV
  obtain ⟨n1, rfl, rfl, rfl, b1⟩ := open_int Try.underlying3 (hval 1 3 v1 rfl rfl) h1
  clear hA0 hval0
  simp only [List.append_nil] at hW'
  refine (walk (enc := enc) W base v0 d0 p0 (hval 0 25 v0 rfl rfl) h0 (fun x hx => hW'.lt x (by simp [hx])) n1 b1 hL hsh).mono fun e W' ⟨he, hb⟩ => ⟨_, he, Fr.post_true laidOut (by kernel_rfl) (by kernel_rfl) Try.underlying4 rfl hW' (fun xs hx => by match xs, hx with | [x0, x1], _ => rfl) hb⟩
theorem said : Rows.FnExactUnmapPageSaid :=
  OpenClaim.holds_of_cond 3 Try.f3 rfl rfl rfl rfl rfl rfl rfl ⟨rfl, rfl, rfl, rfl, rfl⟩ rfl rfl rfl rfl rfl (by kernel_rfl) Try.func3 (by kernel_rfl)
    (of_decide_eq_true (by kernel_rfl)) (by unfold Func.isWrapper; first | (rw [if_pos (by decide +kernel)]; kernel_rfl) | (rw [if_neg (by decide +kernel)]; exact ⟨rfl, rfl⟩))
    (fun os started H enc _ F => by rw [OpenClaim.pre_eq_preRow]; exact lifted os started H enc F)
#print axioms said
end Go.Proofs.Ytaamjnpknmimmab.fnExactUnmapPage
