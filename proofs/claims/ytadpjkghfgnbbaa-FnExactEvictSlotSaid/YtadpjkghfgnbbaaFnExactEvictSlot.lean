/- For every argument the law FnExactEvictSlot returns true. -/
import Derived.Test.YtadpjkghfgnbbaaRows
import Derived.Test.YtadpjkghfgnbbaaFrame
import Derived.Test.YtadpjkghfgnbbaaSlFd
import Derived.Test.YtadpjkghfgnbbaaSlTe
import Derived.Test.YtadpjkghfgnbbaaSltE
import Derived.Test.YtadpjkghfgnbbaaSltM
import Derived.Test.YtadpjkghfgnbbaaSltH
import Derived.Test.YtadpjkghfgnbbaaSltP
import Derived.Deep.RegionHeld3
import Derived.Deep.Cut
import Derived.Deep.CutRange
namespace Go.Proofs.Ytadpjkghfgnbbaa.fnExactEvictSlot
open Go.ChangeShapes Go.WideShapes Go.ChangeAt Go.RowKit
open Go.ChangeMaps (open_string shut_string)
open Go Go.Proofs.Ytadpjkghfgnbbaa.L8 Go.Proofs.Ytadpjkghfgnbbaa.Mem Go.Proofs.Ytadpjkghfgnbbaa.Own
set_option linter.unusedVariables false
theorem own : ownKnob Try.prog.godebug = none := by kernel_rfl
theorem laidOut : laidOutB Try.prog = true := by kernel_rfl
set_option maxRecDepth 100000 in
set_option maxHeartbeats 20000000 in
theorem big0 (W : World) (A0 : Option Addr) (n0 c0 : Nat) (xs0 : List Slt) (hr0 : Reads W W.heap.size 3 A0 n0 (FL xs0)) (hx0 : n0 ≤ maxLen) (hy0 : 1048576 < n0) :
    Calls Try.prog 10 #[.slice A0 n0 c0] W fun e W' => e = .returned (.bool true) ∧ Below W.heap.size W W' := by
  unfold maxLen at hx0
  have hW0 : Hid (Below W.heap.size W W) := Lib.hid (Below.refl _ _)
  replace hr0 := Lib.hid hr0
  go_enter Try.func10, Try.ntmps10
  go_wp2_with fail
  refine (szSlotS_no A0 n0 c0 (1048576) (by omega) (by omega) _ (by omega) (by omega)).mono ?_
  rintro e w0 ⟨rfl, hw⟩
  subst hw
  go_wp2_with fail
  go_ret
  exact ⟨rfl, hW0.out⟩
set_option maxRecDepth 100000 in
set_option maxHeartbeats 20000000 in
theorem walk0 (W : World) (A0 : Option Addr) (n0 c0 : Nat) (xs0 : List Slt) (hr0 : Reads W W.heap.size 3 A0 n0 (FL xs0)) (hx0 : n0 ≤ maxLen) (hy0 : n0 ≤ 1048576) :
    Calls Try.prog 10 #[.slice A0 n0 c0] W fun e W' => e = .returned (.bool true) ∧ Below W.heap.size W W' := by
  unfold maxLen at hx0
  have hn0 : n0 ≤ 1048576 := by omega
  obtain ⟨r, hr_⟩ : ∃ r, evAns xs0 = r := ⟨_, rfl⟩
  have hll : r.1.length ≤ 4 := by rw [← hr_]; exact evAns_len _
  have HS := fun (A5 : Option Addr) (w : World) (hx : Reads w w.heap.size 3 A5 n0 (FL xs0)) => specEvict_any A5 n0 n0 xs0 w hx hn0
  have HI := fun (A5 : Option Addr) (w : World) (hx : Reads w w.heap.size 3 A5 n0 (FL xs0)) => implEvict_any A5 n0 n0 xs0 w hx (Nat.le_refl _)
  rw [hr_] at HS HI
  obtain ⟨l0, ⟨g1_0, g1_1, g1_2⟩, b⟩ := r
  unfold EvPost at HS HI
  simp only at HS HI hll
  obtain ⟨r0, hm1⟩ : ∃ m, l0.length = m := ⟨_, rfl⟩
  rw [hm1] at hll
  simp only [hm1] at HS HI
  have hr_0 : r0 ≤ 1048576 := by omega
  replace HS := Lib.hid HS
  replace HI := Lib.hid HI
  clear hr_ hll hm1
  replace hr0 := Lib.hid hr0
  have hW0 : Hid (Below W.heap.size W W) := Lib.hid (Below.refl _ _)
  go_enter Try.func10, Try.ntmps10
  go_wp2_with fail
  refine (szSlotS_yes A0 n0 c0 (1048576) (by omega) _ (by omega)).mono ?_
  rintro e w0 ⟨rfl, hw⟩
  subst hw
  go_wp2_with fail
  refine (toSlotS_any A0 n0 c0 _ xs0 _ ((hr0.out.below hW0.out).more hW0.out.size) (Nat.le_refl _) hn0).mono ?_
  rintro e u1 ⟨g_t0, rfl, h_t0, hb⟩
  have hW1 := Lib.hid (below_then hW0.out hb)
  have sz1 := Lib.hid hb.size
  clear hb hW0
  have o_t0 : Hid (Row u1 W.heap.size u1.heap.size 33 3 (.slice (some ⟨g_t0, 0, none⟩) n0 n0) n0 (FL xs0)) := Lib.hid (by first | exact h_t0 | exact Row.of h_t0)
  clear h_t0
  go_wp2_with fail
  refine (HS.out _ _ o_t0.out.reads).mono ?_
  rintro e u2 ⟨A_w0, c_w0, T_w0, rfl, h_w0, hb⟩
  have hW2 := Lib.hid (below_then hW1.out hb)
  replace o_t0 := Lib.hid (o_t0.out.below hb)
  have sz2 := Lib.hid hb.size
  clear hb hW1
  have o_w0 : Hid (Row u2 u1.heap.size u2.heap.size T_w0 3 (.slice A_w0 r0 c_w0) r0 (FL l0)) := Lib.hid (by first | exact h_w0 | exact Row.of h_w0)
  clear h_w0
  obtain ⟨v3, hv⟩ : ∃ v3, u2.alloc (.cells #[.int .i64 g1_0, .int .i64 g1_1, .int .i64 g1_2] 33) = v3 := ⟨_, rfl⟩
  have hb : Below u2.heap.size u2 v3 := by rw [← hv]; exact below_more (Below.refl _ _) _
  have o_Lw1 : Hid (Blk v3 u2.heap.size 33 #[.int .i64 g1_0, .int .i64 g1_1, .int .i64 g1_2]) := Lib.hid (by rw [← hv]; exact Blk.new _ _ _)
  have HV3 := Lib.hid hv
  clear hv
  have hW3 := Lib.hid (below_then hW2.out hb)
  replace o_t0 := Lib.hid (o_t0.out.below hb)
  replace o_w0 := Lib.hid (o_w0.out.below hb)
  have sz3 := Lib.hid o_Lw1.out.lt
  clear hb hW2
  clear o_t0
  go_wp2_with fail
  rw [HV3.out]
  clear HV3
  refine (toSlotS_any A0 n0 c0 _ xs0 _ ((hr0.out.below hW3.out).more hW3.out.size) (Nat.le_refl _) hn0).mono ?_
  rintro e u4 ⟨g_x0, rfl, h_x0, hb⟩
  have hW4 := Lib.hid (below_then hW3.out hb)
  replace o_w0 := Lib.hid (o_w0.out.below hb)
  replace o_Lw1 := Lib.hid (o_Lw1.out.below hb)
  have sz4 := Lib.hid hb.size
  clear hb hW3
  have o_x0 : Hid (Row u4 v3.heap.size u4.heap.size 33 3 (.slice (some ⟨g_x0, 0, none⟩) n0 n0) n0 (FL xs0)) := Lib.hid (by first | exact h_x0 | exact Row.of h_x0)
  clear h_x0
  go_wp2_with fail
  refine (HI.out _ _ o_x0.out.reads).mono ?_
  rintro e u5 ⟨A_g0, c_g0, T_g0, rfl, h_g0, hb⟩
  have hW5 := Lib.hid (below_then hW4.out hb)
  replace o_w0 := Lib.hid (o_w0.out.below hb)
  replace o_Lw1 := Lib.hid (o_Lw1.out.below hb)
  replace o_x0 := Lib.hid (o_x0.out.below hb)
  have sz5 := Lib.hid hb.size
  clear hb hW4
  have o_g0 : Hid (Row u5 u4.heap.size u5.heap.size T_g0 3 (.slice A_g0 r0 c_g0) r0 (FL l0)) := Lib.hid (by first | exact h_g0 | exact Row.of h_g0)
  clear h_g0
  obtain ⟨v6, hv⟩ : ∃ v6, u5.alloc (.cells #[.int .i64 g1_0, .int .i64 g1_1, .int .i64 g1_2] 33) = v6 := ⟨_, rfl⟩
  have hb : Below u5.heap.size u5 v6 := by rw [← hv]; exact below_more (Below.refl _ _) _
  have o_Lg1 : Hid (Blk v6 u5.heap.size 33 #[.int .i64 g1_0, .int .i64 g1_1, .int .i64 g1_2]) := Lib.hid (by rw [← hv]; exact Blk.new _ _ _)
  have HV6 := Lib.hid hv
  clear hv
  have hW6 := Lib.hid (below_then hW5.out hb)
  replace o_w0 := Lib.hid (o_w0.out.below hb)
  replace o_Lw1 := Lib.hid (o_Lw1.out.below hb)
  replace o_x0 := Lib.hid (o_x0.out.below hb)
  replace o_g0 := Lib.hid (o_g0.out.below hb)
  have sz6 := Lib.hid o_Lg1.out.lt
  clear hb hW5
  go_wp2_with fail
  rw [HV6.out]
  clear HV6
  refine (eqSlotS_step _ _ _ _ _ l0 _ hr_0 o_g0.out.reads o_w0.out.reads).mono ?_
  rintro e u7 ⟨rfl, hb⟩
  have hW7 := Lib.hid (below_then hW6.out hb)
  replace o_w0 := Lib.hid (o_w0.out.below hb)
  replace o_Lw1 := Lib.hid (o_Lw1.out.below hb)
  replace o_x0 := Lib.hid (o_x0.out.below hb)
  replace o_g0 := Lib.hid (o_g0.out.below hb)
  replace o_Lg1 := Lib.hid (o_Lg1.out.below hb)
  have sz7 := Lib.hid hb.size
  clear hb hW6
  have k_Lg1_0 : u7.cell? ⟨u5.heap.size, 0, none⟩ = some (.int .i64 g1_0) := o_Lg1.out.cell 0 _ rfl
  have k_Lg1_1 : u7.cell? ⟨u5.heap.size, 1, none⟩ = some (.int .i64 g1_1) := o_Lg1.out.cell 1 _ rfl
  have k_Lg1_2 : u7.cell? ⟨u5.heap.size, 2, none⟩ = some (.int .i64 g1_2) := o_Lg1.out.cell 2 _ rfl
  have k_Lw1_0 : u7.cell? ⟨u2.heap.size, 0, none⟩ = some (.int .i64 g1_0) := o_Lw1.out.cell 0 _ rfl
  have k_Lw1_1 : u7.cell? ⟨u2.heap.size, 1, none⟩ = some (.int .i64 g1_1) := o_Lw1.out.cell 1 _ rfl
  have k_Lw1_2 : u7.cell? ⟨u2.heap.size, 2, none⟩ = some (.int .i64 g1_2) := o_Lw1.out.cell 2 _ rfl
  go_wp2_with fail
  clear k_Lg1_0 k_Lg1_1 k_Lg1_2 k_Lw1_0 k_Lw1_1 k_Lw1_2
  refine (eqSlot_c g1_0 g1_1 g1_2 _).mono ?_
  rintro e u8 ⟨rfl, hb⟩
  have hW8 := Lib.hid (below_then hW7.out hb)
  replace o_w0 := Lib.hid (o_w0.out.below hb)
  replace o_Lw1 := Lib.hid (o_Lw1.out.below hb)
  replace o_x0 := Lib.hid (o_x0.out.below hb)
  replace o_g0 := Lib.hid (o_g0.out.below hb)
  replace o_Lg1 := Lib.hid (o_Lg1.out.below hb)
  have sz8 := Lib.hid hb.size
  clear hb hW7
  go_wp2_with fail
  refine (toSlotS_any A0 n0 c0 _ xs0 _ ((hr0.out.below hW8.out).more hW8.out.size) (Nat.le_refl _) hn0).mono ?_
  rintro e u9 ⟨g_y0, rfl, h_y0, hb⟩
  have hW9 := Lib.hid (below_then hW8.out hb)
  replace o_w0 := Lib.hid (o_w0.out.below hb)
  replace o_Lw1 := Lib.hid (o_Lw1.out.below hb)
  replace o_x0 := Lib.hid (o_x0.out.below hb)
  replace o_g0 := Lib.hid (o_g0.out.below hb)
  replace o_Lg1 := Lib.hid (o_Lg1.out.below hb)
  have sz9 := Lib.hid hb.size
  clear hb hW8
  have o_y0 : Hid (Row u9 u8.heap.size u9.heap.size 33 3 (.slice (some ⟨g_y0, 0, none⟩) n0 n0) n0 (FL xs0)) := Lib.hid (by first | exact h_y0 | exact Row.of h_y0)
  clear h_y0
  go_wp2_with fail
  refine (eqSlotS_step _ _ _ _ _ xs0 _ hn0 o_x0.out.reads o_y0.out.reads).mono ?_
  rintro e u10 ⟨rfl, hb⟩
  have hW10 := Lib.hid (below_then hW9.out hb)
  replace o_w0 := Lib.hid (o_w0.out.below hb)
  replace o_Lw1 := Lib.hid (o_Lw1.out.below hb)
  replace o_x0 := Lib.hid (o_x0.out.below hb)
  replace o_g0 := Lib.hid (o_g0.out.below hb)
  replace o_Lg1 := Lib.hid (o_Lg1.out.below hb)
  replace o_y0 := Lib.hid (o_y0.out.below hb)
  have sz10 := Lib.hid hb.size
  clear hb hW9
  clear o_y0
  go_wp2_with fail
  refine (markSlotS_step _ _ _ _ _ (1) (1) (by first | rfl | (push_cast; omega)) _ _ hn0 (by omega) o_x0.out).mono ?_
  rintro e u11 ⟨rfl, _, ho⟩
  have ysz1 := sz1.out; have ysz2 := sz2.out; have ysz3 := sz3.out; have ysz4 := sz4.out; have ysz5 := sz5.out; have ysz6 := sz6.out; have ysz7 := sz7.out; have ysz8 := sz8.out; have ysz9 := sz9.out; have ysz10 := sz10.out
  have hw0 := hW10.out.size
  have q_Lw1 := o_Lw1.out.lt
  have q_Lg1 := o_Lg1.out.lt
  have hW11 := Lib.hid (ho.below hW10.out (by omega))
  replace o_w0 := Lib.hid (o_w0.out.only ho (by omega))
  replace o_Lw1 := Lib.hid (o_Lw1.out.only ho (by omega))
  replace o_g0 := Lib.hid (o_g0.out.only ho (by omega))
  replace o_Lg1 := Lib.hid (o_Lg1.out.only ho (by omega))
  clear q_Lw1
  clear q_Lg1
  clear ysz1 ysz2 ysz3 ysz4 ysz5 ysz6 ysz7 ysz8 ysz9 ysz10 hw0
  have sz11 := Lib.hid ho.size
  clear ho hW10
  clear o_x0
  go_wp2_with fail
  refine (eqSlotS_step _ _ _ _ _ l0 _ hr_0 o_g0.out.reads o_w0.out.reads).mono ?_
  rintro e u12 ⟨rfl, hb⟩
  have hW12 := Lib.hid (below_then hW11.out hb)
  replace o_w0 := Lib.hid (o_w0.out.below hb)
  replace o_Lw1 := Lib.hid (o_Lw1.out.below hb)
  replace o_g0 := Lib.hid (o_g0.out.below hb)
  replace o_Lg1 := Lib.hid (o_Lg1.out.below hb)
  have sz12 := Lib.hid hb.size
  clear hb hW11
  have k_Lg1_0 : u12.cell? ⟨u5.heap.size, 0, none⟩ = some (.int .i64 g1_0) := o_Lg1.out.cell 0 _ rfl
  have k_Lg1_1 : u12.cell? ⟨u5.heap.size, 1, none⟩ = some (.int .i64 g1_1) := o_Lg1.out.cell 1 _ rfl
  have k_Lg1_2 : u12.cell? ⟨u5.heap.size, 2, none⟩ = some (.int .i64 g1_2) := o_Lg1.out.cell 2 _ rfl
  have k_Lw1_0 : u12.cell? ⟨u2.heap.size, 0, none⟩ = some (.int .i64 g1_0) := o_Lw1.out.cell 0 _ rfl
  have k_Lw1_1 : u12.cell? ⟨u2.heap.size, 1, none⟩ = some (.int .i64 g1_1) := o_Lw1.out.cell 1 _ rfl
  have k_Lw1_2 : u12.cell? ⟨u2.heap.size, 2, none⟩ = some (.int .i64 g1_2) := o_Lw1.out.cell 2 _ rfl
  go_wp2_with fail
  clear k_Lg1_0 k_Lg1_1 k_Lg1_2 k_Lw1_0 k_Lw1_1 k_Lw1_2
  refine (eqSlot_c g1_0 g1_1 g1_2 _).mono ?_
  rintro e u13 ⟨rfl, hb⟩
  have hW13 := Lib.hid (below_then hW12.out hb)
  replace o_w0 := Lib.hid (o_w0.out.below hb)
  replace o_Lw1 := Lib.hid (o_Lw1.out.below hb)
  replace o_g0 := Lib.hid (o_g0.out.below hb)
  replace o_Lg1 := Lib.hid (o_Lg1.out.below hb)
  have sz13 := Lib.hid hb.size
  clear hb hW12
  go_wp2_with fail
  refine (markSlotS_step _ _ _ _ _ (1) (1) (by first | rfl | (push_cast; omega)) _ _ hr_0 (by omega) o_g0.out).mono ?_
  rintro e u14 ⟨rfl, h_g0, ho⟩
  have ysz1 := sz1.out; have ysz2 := sz2.out; have ysz3 := sz3.out; have ysz4 := sz4.out; have ysz5 := sz5.out; have ysz6 := sz6.out; have ysz7 := sz7.out; have ysz8 := sz8.out; have ysz9 := sz9.out; have ysz10 := sz10.out; have ysz11 := sz11.out; have ysz12 := sz12.out; have ysz13 := sz13.out
  have hw0 := hW13.out.size
  have q_Lw1 := o_Lw1.out.lt
  have q_Lg1 := o_Lg1.out.lt
  have hW14 := Lib.hid (ho.below hW13.out (by omega))
  replace o_w0 := Lib.hid (o_w0.out.only ho (by omega))
  replace o_Lw1 := Lib.hid (o_Lw1.out.only ho (by omega))
  replace o_Lg1 := Lib.hid (o_Lg1.out.only ho (by omega))
  clear q_Lw1
  clear q_Lg1
  clear ysz1 ysz2 ysz3 ysz4 ysz5 ysz6 ysz7 ysz8 ysz9 ysz10 ysz11 ysz12 ysz13 hw0
  have sz14 := Lib.hid ho.size
  clear ho hW13
  have n_g0 : Hid (Row u14 u4.heap.size u5.heap.size T_g0 3 (.slice A_g0 r0 c_g0) r0 (FL (upSlt (1) r0))) := Lib.hid h_g0
  clear h_g0 o_g0
  have o_g0 := n_g0
  clear n_g0
  go_wp2_with fail
  refine (heldSlotS_step _ _ _ (1) (1) (by first | rfl | (push_cast; omega)) _ hr_0 (by omega) o_g0.out.reads).mono ?_
  rintro e u15 ⟨rfl, hb⟩
  have hW15 := Lib.hid (below_then hW14.out hb)
  replace o_w0 := Lib.hid (o_w0.out.below hb)
  replace o_Lw1 := Lib.hid (o_Lw1.out.below hb)
  replace o_g0 := Lib.hid (o_g0.out.below hb)
  replace o_Lg1 := Lib.hid (o_Lg1.out.below hb)
  have sz15 := Lib.hid hb.size
  clear hb hW14
  go_wp2_with fail
  refine (toSlotS_any A0 n0 c0 _ xs0 _ ((hr0.out.below hW15.out).more hW15.out.size) (Nat.le_refl _) hn0).mono ?_
  rintro e u16 ⟨g_r0, rfl, h_r0, hb⟩
  have hW16 := Lib.hid (below_then hW15.out hb)
  replace o_w0 := Lib.hid (o_w0.out.below hb)
  replace o_Lw1 := Lib.hid (o_Lw1.out.below hb)
  replace o_g0 := Lib.hid (o_g0.out.below hb)
  replace o_Lg1 := Lib.hid (o_Lg1.out.below hb)
  have sz16 := Lib.hid hb.size
  clear hb hW15
  have o_r0 : Hid (Row u16 u15.heap.size u16.heap.size 33 3 (.slice (some ⟨g_r0, 0, none⟩) n0 n0) n0 (FL xs0)) := Lib.hid (by first | exact h_r0 | exact Row.of h_r0)
  clear h_r0
  go_wp2_with fail
  refine (HI.out _ _ o_r0.out.reads).mono ?_
  rintro e u17 ⟨A_h0, c_h0, T_h0, rfl, h_h0, hb⟩
  have hW17 := Lib.hid (below_then hW16.out hb)
  replace o_w0 := Lib.hid (o_w0.out.below hb)
  replace o_Lw1 := Lib.hid (o_Lw1.out.below hb)
  replace o_g0 := Lib.hid (o_g0.out.below hb)
  replace o_Lg1 := Lib.hid (o_Lg1.out.below hb)
  replace o_r0 := Lib.hid (o_r0.out.below hb)
  have sz17 := Lib.hid hb.size
  clear hb hW16
  have o_h0 : Hid (Row u17 u16.heap.size u17.heap.size T_h0 3 (.slice A_h0 r0 c_h0) r0 (FL l0)) := Lib.hid (by first | exact h_h0 | exact Row.of h_h0)
  clear h_h0
  obtain ⟨v18, hv⟩ : ∃ v18, u17.alloc (.cells #[.int .i64 g1_0, .int .i64 g1_1, .int .i64 g1_2] 33) = v18 := ⟨_, rfl⟩
  have hb : Below u17.heap.size u17 v18 := by rw [← hv]; exact below_more (Below.refl _ _) _
  have o_Lh1 : Hid (Blk v18 u17.heap.size 33 #[.int .i64 g1_0, .int .i64 g1_1, .int .i64 g1_2]) := Lib.hid (by rw [← hv]; exact Blk.new _ _ _)
  have HV18 := Lib.hid hv
  clear hv
  have hW18 := Lib.hid (below_then hW17.out hb)
  replace o_w0 := Lib.hid (o_w0.out.below hb)
  replace o_Lw1 := Lib.hid (o_Lw1.out.below hb)
  replace o_g0 := Lib.hid (o_g0.out.below hb)
  replace o_Lg1 := Lib.hid (o_Lg1.out.below hb)
  replace o_r0 := Lib.hid (o_r0.out.below hb)
  replace o_h0 := Lib.hid (o_h0.out.below hb)
  have sz18 := Lib.hid o_Lh1.out.lt
  clear hb hW17
  clear o_r0
  go_wp2_with fail
  rw [HV18.out]
  clear HV18
  refine (eqSlotS_step _ _ _ _ _ l0 _ hr_0 o_h0.out.reads o_w0.out.reads).mono ?_
  rintro e u19 ⟨rfl, hb⟩
  have hW19 := Lib.hid (below_then hW18.out hb)
  replace o_w0 := Lib.hid (o_w0.out.below hb)
  replace o_Lw1 := Lib.hid (o_Lw1.out.below hb)
  replace o_g0 := Lib.hid (o_g0.out.below hb)
  replace o_Lg1 := Lib.hid (o_Lg1.out.below hb)
  replace o_h0 := Lib.hid (o_h0.out.below hb)
  replace o_Lh1 := Lib.hid (o_Lh1.out.below hb)
  have sz19 := Lib.hid hb.size
  clear hb hW18
  have k_Lh1_0 : u19.cell? ⟨u17.heap.size, 0, none⟩ = some (.int .i64 g1_0) := o_Lh1.out.cell 0 _ rfl
  have k_Lh1_1 : u19.cell? ⟨u17.heap.size, 1, none⟩ = some (.int .i64 g1_1) := o_Lh1.out.cell 1 _ rfl
  have k_Lh1_2 : u19.cell? ⟨u17.heap.size, 2, none⟩ = some (.int .i64 g1_2) := o_Lh1.out.cell 2 _ rfl
  have k_Lw1_0 : u19.cell? ⟨u2.heap.size, 0, none⟩ = some (.int .i64 g1_0) := o_Lw1.out.cell 0 _ rfl
  have k_Lw1_1 : u19.cell? ⟨u2.heap.size, 1, none⟩ = some (.int .i64 g1_1) := o_Lw1.out.cell 1 _ rfl
  have k_Lw1_2 : u19.cell? ⟨u2.heap.size, 2, none⟩ = some (.int .i64 g1_2) := o_Lw1.out.cell 2 _ rfl
  go_wp2_with fail
  clear k_Lh1_0 k_Lh1_1 k_Lh1_2 k_Lw1_0 k_Lw1_1 k_Lw1_2
  refine (eqSlot_c g1_0 g1_1 g1_2 _).mono ?_
  rintro e u20 ⟨rfl, hb⟩
  have hW20 := Lib.hid (below_then hW19.out hb)
  replace o_w0 := Lib.hid (o_w0.out.below hb)
  replace o_Lw1 := Lib.hid (o_Lw1.out.below hb)
  replace o_g0 := Lib.hid (o_g0.out.below hb)
  replace o_Lg1 := Lib.hid (o_Lg1.out.below hb)
  replace o_h0 := Lib.hid (o_h0.out.below hb)
  replace o_Lh1 := Lib.hid (o_Lh1.out.below hb)
  have sz20 := Lib.hid hb.size
  clear hb hW19
  go_wp2_with fail
  refine (heldSlotS_step _ _ _ (1) (1) (by first | rfl | (push_cast; omega)) _ hr_0 (by omega) o_g0.out.reads).mono ?_
  rintro e u21 ⟨rfl, hb⟩
  have hW21 := Lib.hid (below_then hW20.out hb)
  replace o_w0 := Lib.hid (o_w0.out.below hb)
  replace o_Lw1 := Lib.hid (o_Lw1.out.below hb)
  replace o_g0 := Lib.hid (o_g0.out.below hb)
  replace o_Lg1 := Lib.hid (o_Lg1.out.below hb)
  replace o_h0 := Lib.hid (o_h0.out.below hb)
  replace o_Lh1 := Lib.hid (o_Lh1.out.below hb)
  have sz21 := Lib.hid hb.size
  clear hb hW20
  go_wp2_with fail
  go_ret
  exact ⟨rfl, hW21.out⟩

set_option maxHeartbeats 4000000 in
set_option maxRecDepth 100000 in
/-- the law's Go text returns true, and nothing that was there has turned -/
theorem walk {H : Type} {enc : TypeId × Value → H} (W : World) (base : Nat) (v0 : Value) (d0 : DataW H) (p0 : List MemPlace) (q0 : Value.okWide Try.prog W .any base 43 v0) (h0 : DataW.Trod enc Try.prog W 0 (fun _ => true) true 43 v0 d0 p0) (l0 : ∀ x ∈ p0, x.block < W.heap.size) (hL : laidMetH Try.prog Rows.fnExactEvictSlotRow.laid W) (hsh : W.ShapedOpen Try.prog) :
    Calls Try.prog 10 #[v0] W fun e W' => e = .returned (.bool true) ∧ Below W.heap.size W W' := by
  obtain ⟨A0, n0, c0, xs0, rfl, hx0, hr0⟩ := open_slts q0 h0
  by_cases hy0 : 1048576 < n0
  · exact big0 W A0 n0 c0 xs0 hr0 hx0  hy0
  exact walk0 W A0 n0 c0 xs0 hr0 hx0 (by omega)
theorem laid_met (os : Os) : laidMetH Try.prog Rows.fnExactEvictSlotRow.laid ((World.holding Try.prog os ⟨#[], #[], []⟩).forCall (fun _ _ => 0) ⟨#[], #[(.slice none 0 0 : Value)], []⟩).memory := ⟨[], rfl, List.nodup_nil, fun _ _ h => by cases h⟩
theorem reads (os : Os) {H : Type} (enc : TypeId × Value → H) : (DataW.whole enc Try.prog ((World.holding Try.prog os ⟨#[], #[], []⟩).forCall (fun _ _ => 0) ⟨#[], #[(.slice none 0 0 : Value)], []⟩).memory Try.f10.params.toList Rows.fnExactEvictSlotSpec.vars false #[(.slice none 0 0 : Value)].toList 8).isSome = true := by kernel_rfl
set_option maxRecDepth 100000 in
theorem lifted (os : Os) (started : os.Started) (H : Type) (enc : TypeId × Value → H) (F : Stop.Interp) :
    ReturnsInHanded {} Try.checked os 10 .any ((OpenSpec.ofChange Rows.fnExactEvictSlotSpec).preRow enc Try.prog Try.f10 Rows.fnExactEvictSlotRow.domain false Rows.fnExactEvictSlotRow.laid) (((OpenSpec.ofChange Rows.fnExactEvictSlotSpec).at F).post enc Try.prog Try.f10 false true false false) := by
  obtain ⟨x, hx⟩ := Option.isSome_iff_exists.1 (reads os enc)
  refine returnsInHanded_of_row (C := Try.checked) (s := OpenSpec.ofChange Rows.fnExactEvictSlotSpec) own started (by kernel_rfl) Try.func10
    (witness_row_at (enc := enc) (C := Try.checked) false (World.holding Try.prog os ⟨#[], #[], []⟩) #[(.slice none 0 0 : Value)] rfl (by kernel_rfl) (by kernel_rfl) (by kernel_rfl)
      (OpenSpec.preRow_of_cond 8 hx (by rfl) (fun k hk => by cases hk) (by kernel_rfl) (laid_met os))) ?_
  intro W base args ds gs before hval0 hW _ hcond hsz hL hsh _
  have hval : ∀ (j : Nat) t v, Try.f10.params[j]? = some t → args[j]? = some v → Value.okWide Try.prog W .any base t v := hval0
  have hW' := hW
  obtain ⟨p, q, hA0, hV, rfl, hfz, hnd⟩ := hW
  have hA : DataW.TrodAll enc Try.prog W 0 (fun _ => true) true Try.f10.params.toList args.toList ds p := hA0
  rw [Try.params10] at hA hval
  obtain ⟨v0, vs0, d0, ds0, p0, q0, hargs, rfl, rfl, h0, r0⟩ := trodAll_cons hA
  obtain ⟨rfl, rfl, rfl⟩ := trodAll_nil r0
  obtain rfl : args = #[v0] := by cases args; simp_all
  obtain ⟨rfl, rfl⟩ := trodVars_none hV
  clear hA0 hval0
  simp only [List.append_nil] at hW'
  refine (walk (enc := enc) W base v0 d0 p0 (hval 0 43 v0 rfl rfl) h0 (fun x hx => hW'.lt x (by simp [hx])) hL hsh).mono fun e W' ⟨he, hb⟩ => ⟨_, he, Fr.post_true laidOut (by kernel_rfl) (by kernel_rfl) Try.underlying4 rfl hW' (fun xs hx => by match xs, hx with | [x0], _ => rfl) hb⟩
theorem said : Rows.FnExactEvictSlotSaid :=
  OpenClaim.holds_of_cond 10 Try.f10 rfl rfl rfl rfl rfl rfl rfl ⟨rfl, rfl, rfl, rfl, rfl⟩ rfl rfl rfl rfl rfl (by kernel_rfl) Try.func10 (by kernel_rfl)
    (of_decide_eq_true (by kernel_rfl)) (by unfold Func.isWrapper; first | (rw [if_pos (by decide +kernel)]; kernel_rfl) | (rw [if_neg (by decide +kernel)]; exact ⟨rfl, rfl⟩))
    (fun os started H enc _ F => by rw [OpenClaim.pre_eq_preRow]; exact lifted os started H enc F)
#print axioms said
end Go.Proofs.Ytadpjkghfgnbbaa.fnExactEvictSlot
