/- For every argument the law FnExactLoadValue returns true. -/
import Derived.Test.YtaamjnpknmimmaaRows
import Derived.Test.YtaamjnpknmimmaaFrame
import Derived.Test.YtaamjnpknmimmaaTrpX
import Derived.Test.YtaamjnpknmimmaaTrpO
import Derived.Test.YtaamjnpknmimmaaRow
import Derived.Test.YtaamjnpknmimmaaMkI
import Derived.Deep.RegionHeld3
import Derived.Deep.Cut
import Derived.Deep.CutRange
namespace Go.Proofs.Ytaamjnpknmimmaa.fnExactLoadValue
open Go.ChangeShapes Go.WideShapes Go.ChangeAt Go.RowKit
open Go.ChangeMaps (open_string shut_string)
open Go Go.Proofs.Ytaamjnpknmimmaa.L5 Go.Proofs.Ytaamjnpknmimmaa.Mem Go.Proofs.Ytaamjnpknmimmaa.Own
set_option linter.unusedVariables false
theorem own : ownKnob Try.prog.godebug = none := by kernel_rfl
theorem laidOut : laidOutB Try.prog = true := by kernel_rfl
set_option maxRecDepth 100000 in
set_option maxHeartbeats 20000000 in
theorem big0 (W : World) (f0_0 : Int) (f0_1 : Int) (f0_2 : Bool) (f0_3 : Int) (f0_4 : Int) (A1 : Option Addr) (n1 c1 : Nat) (zs1 : List Int) (hr1 : Reads W W.heap.size 1 A1 n1 (I zs1)) (hx1 : n1 ≤ maxLen) (n2 : Int) (hy0 : 1048576 < n1) :
    Calls Try.prog 9 #[.agg #[.int .i64 f0_0, .int .i64 f0_1, .bool f0_2, .int .i64 f0_3, .int .i64 f0_4], .slice A1 n1 c1, .int .i64 n2] W fun e W' => e = .returned (.bool true) ∧ Below W.heap.size W W' := by
  unfold maxLen at hx1
  have hW0 : Hid (Below W.heap.size W W) := Lib.hid (Below.refl _ _)
  replace hr1 := Lib.hid hr1
  go_enter Try.func9, Try.ntmps9
  obtain ⟨v1, hv⟩ : ∃ v1, W.alloc (.cells #[.int .i64 f0_0, .int .i64 f0_1, .bool f0_2, .int .i64 f0_3, .int .i64 f0_4] 23) = v1 := ⟨_, rfl⟩
  have hb : Below W.heap.size W v1 := by rw [← hv]; exact below_more (Below.refl _ _) _
  have o_a0 : Hid (Blk v1 W.heap.size 23 #[.int .i64 f0_0, .int .i64 f0_1, .bool f0_2, .int .i64 f0_3, .int .i64 f0_4]) := Lib.hid (by rw [← hv]; exact Blk.new _ _ _)
  have HV1 := Lib.hid hv
  clear hv
  have hW1 := Lib.hid (below_then hW0.out hb)
  have sz1 := Lib.hid o_a0.out.lt
  clear hb hW0
  go_wp2_with fail
  rw [HV1.out]
  clear HV1
  go_ret
  exact ⟨rfl, hW1.out⟩
set_option maxRecDepth 100000 in
set_option maxHeartbeats 20000000 in
theorem walk0 (W : World) (f0_0 : Int) (f0_1 : Int) (f0_2 : Bool) (f0_3 : Int) (f0_4 : Int) (A1 : Option Addr) (n1 c1 : Nat) (zs1 : List Int) (hr1 : Reads W W.heap.size 1 A1 n1 (I zs1)) (hx1 : n1 ≤ maxLen) (n2 : Int) (hy0 : n1 ≤ 1048576) :
    Calls Try.prog 9 #[.agg #[.int .i64 f0_0, .int .i64 f0_1, .bool f0_2, .int .i64 f0_3, .int .i64 f0_4], .slice A1 n1 c1, .int .i64 n2] W fun e W' => e = .returned (.bool true) ∧ Below W.heap.size W W' := by
  unfold maxLen at hx1
  have hn1 : n1 ≤ 1048576 := by omega
  obtain ⟨r, hr_⟩ : ∃ r, ldAns ⟨f0_0, f0_1, f0_2, f0_3, f0_4⟩ zs1 n2 = r := ⟨_, rfl⟩
  obtain ⟨l0, b⟩ := r
  have hll := ldAns_len hr_
  have hl1 := hr1.len
  rw [I_len] at hl1
  have HS := fun (A6 : Option Addr) (w : World) (hx : Reads w w.heap.size 1 A6 n1 (I zs1)) => specLoad_any f0_0 f0_1 f0_2 f0_3 f0_4 A6 n1 n1 zs1 n2 l0 b w hx hn1 hr_
  have HI := fun (A6 : Option Addr) (w : World) (hx : Reads w w.heap.size 1 A6 n1 (I zs1)) => implLoad_any f0_0 f0_1 f0_2 f0_3 f0_4 A6 n1 n1 zs1 n2 l0 b w hx hn1 hr_
  unfold LdPost at HS HI
  obtain ⟨r0, hm1⟩ : ∃ m, l0.length = m := ⟨_, rfl⟩
  rw [hm1] at hll
  simp only [hm1] at HS HI
  have hr_0 : r0 ≤ 1048576 := by omega
  replace HS := Lib.hid HS
  replace HI := Lib.hid HI
  clear hr_ hll hl1 hm1
  replace hr1 := Lib.hid hr1
  have hW0 : Hid (Below W.heap.size W W) := Lib.hid (Below.refl _ _)
  go_enter Try.func9, Try.ntmps9
  obtain ⟨v1, hv⟩ : ∃ v1, W.alloc (.cells #[.int .i64 f0_0, .int .i64 f0_1, .bool f0_2, .int .i64 f0_3, .int .i64 f0_4] 23) = v1 := ⟨_, rfl⟩
  have hb : Below W.heap.size W v1 := by rw [← hv]; exact below_more (Below.refl _ _) _
  have o_a0 : Hid (Blk v1 W.heap.size 23 #[.int .i64 f0_0, .int .i64 f0_1, .bool f0_2, .int .i64 f0_3, .int .i64 f0_4]) := Lib.hid (by rw [← hv]; exact Blk.new _ _ _)
  have HV1 := Lib.hid hv
  clear hv
  have hW1 := Lib.hid (below_then hW0.out hb)
  have sz1 := Lib.hid o_a0.out.lt
  clear hb hW0
  have k_a0_0 : (W.alloc (.cells #[.int .i64 f0_0, .int .i64 f0_1, .bool f0_2, .int .i64 f0_3, .int .i64 f0_4] 23)).cell? ⟨W.heap.size, 0, none⟩ = some (.int .i64 f0_0) := by rw [HV1.out]; exact o_a0.out.cell 0 _ rfl
  have k_a0_1 : (W.alloc (.cells #[.int .i64 f0_0, .int .i64 f0_1, .bool f0_2, .int .i64 f0_3, .int .i64 f0_4] 23)).cell? ⟨W.heap.size, 1, none⟩ = some (.int .i64 f0_1) := by rw [HV1.out]; exact o_a0.out.cell 1 _ rfl
  have k_a0_2 : (W.alloc (.cells #[.int .i64 f0_0, .int .i64 f0_1, .bool f0_2, .int .i64 f0_3, .int .i64 f0_4] 23)).cell? ⟨W.heap.size, 2, none⟩ = some (.bool f0_2) := by rw [HV1.out]; exact o_a0.out.cell 2 _ rfl
  have k_a0_3 : (W.alloc (.cells #[.int .i64 f0_0, .int .i64 f0_1, .bool f0_2, .int .i64 f0_3, .int .i64 f0_4] 23)).cell? ⟨W.heap.size, 3, none⟩ = some (.int .i64 f0_3) := by rw [HV1.out]; exact o_a0.out.cell 3 _ rfl
  have k_a0_4 : (W.alloc (.cells #[.int .i64 f0_0, .int .i64 f0_1, .bool f0_2, .int .i64 f0_3, .int .i64 f0_4] 23)).cell? ⟨W.heap.size, 4, none⟩ = some (.int .i64 f0_4) := by rw [HV1.out]; exact o_a0.out.cell 4 _ rfl
  go_wp2_with fail
  clear k_a0_0 k_a0_1 k_a0_2 k_a0_3 k_a0_4
  rw [HV1.out]
  clear HV1
  refine (toTrap_c f0_0 f0_1 f0_2 f0_3 f0_4 _).mono ?_
  rintro e u2 ⟨rfl, hb⟩
  have hW2 := Lib.hid (below_then hW1.out hb)
  replace o_a0 := Lib.hid (o_a0.out.below hb)
  have sz2 := Lib.hid hb.size
  clear hb hW1
  go_wp2_with fail
  refine (toIntS_any A1 n1 c1 _ zs1 _ ((hr1.out.below hW2.out).more hW2.out.size) (Nat.le_refl _) hn1).mono ?_
  rintro e u3 ⟨g_t1, rfl, h_t1, hb⟩
  have hW3 := Lib.hid (below_then hW2.out hb)
  replace o_a0 := Lib.hid (o_a0.out.below hb)
  have sz3 := Lib.hid hb.size
  clear hb hW2
  have o_t1 : Hid (Row u3 u2.heap.size u3.heap.size 3 1 (.slice (some ⟨g_t1, 0, none⟩) n1 n1) n1 (I zs1)) := Lib.hid (by first | exact h_t1 | exact Row.of h_t1)
  clear h_t1
  go_wp2_with fail
  refine (HS.out _ _ o_t1.out.reads).mono ?_
  rintro e u4 ⟨A_w0, c_w0, rfl, h_w0, hb⟩
  have hW4 := Lib.hid (below_then hW3.out hb)
  replace o_a0 := Lib.hid (o_a0.out.below hb)
  replace o_t1 := Lib.hid (o_t1.out.below hb)
  have sz4 := Lib.hid hb.size
  clear hb hW3
  have o_w0 : Hid (Row u4 u3.heap.size u4.heap.size 3 1 (.slice A_w0 r0 c_w0) r0 (I l0)) := Lib.hid (by first | exact h_w0 | exact Row.of h_w0)
  clear h_w0
  clear o_t1
  go_wp2_with fail
  refine (toIntS_any A1 n1 c1 _ zs1 _ ((hr1.out.below hW4.out).more hW4.out.size) (Nat.le_refl _) hn1).mono ?_
  rintro e u5 ⟨g_x1, rfl, h_x1, hb⟩
  have hW5 := Lib.hid (below_then hW4.out hb)
  replace o_a0 := Lib.hid (o_a0.out.below hb)
  replace o_w0 := Lib.hid (o_w0.out.below hb)
  have sz5 := Lib.hid hb.size
  clear hb hW4
  have o_x1 : Hid (Row u5 u4.heap.size u5.heap.size 3 1 (.slice (some ⟨g_x1, 0, none⟩) n1 n1) n1 (I zs1)) := Lib.hid (by first | exact h_x1 | exact Row.of h_x1)
  clear h_x1
  have k_a0_0 : u5.cell? ⟨W.heap.size, 0, none⟩ = some (.int .i64 f0_0) := o_a0.out.cell 0 _ rfl
  have k_a0_1 : u5.cell? ⟨W.heap.size, 1, none⟩ = some (.int .i64 f0_1) := o_a0.out.cell 1 _ rfl
  have k_a0_2 : u5.cell? ⟨W.heap.size, 2, none⟩ = some (.bool f0_2) := o_a0.out.cell 2 _ rfl
  have k_a0_3 : u5.cell? ⟨W.heap.size, 3, none⟩ = some (.int .i64 f0_3) := o_a0.out.cell 3 _ rfl
  have k_a0_4 : u5.cell? ⟨W.heap.size, 4, none⟩ = some (.int .i64 f0_4) := o_a0.out.cell 4 _ rfl
  go_wp2_with fail
  clear k_a0_0 k_a0_1 k_a0_2 k_a0_3 k_a0_4
  refine (toTrap_c f0_0 f0_1 f0_2 f0_3 f0_4 _).mono ?_
  rintro e u6 ⟨rfl, hb⟩
  have hW6 := Lib.hid (below_then hW5.out hb)
  replace o_a0 := Lib.hid (o_a0.out.below hb)
  replace o_w0 := Lib.hid (o_w0.out.below hb)
  replace o_x1 := Lib.hid (o_x1.out.below hb)
  have sz6 := Lib.hid hb.size
  clear hb hW5
  go_wp2_with fail
  refine (HI.out _ _ o_x1.out.reads).mono ?_
  rintro e u7 ⟨A_g0, c_g0, rfl, h_g0, hb⟩
  have hW7 := Lib.hid (below_then hW6.out hb)
  replace o_a0 := Lib.hid (o_a0.out.below hb)
  replace o_w0 := Lib.hid (o_w0.out.below hb)
  replace o_x1 := Lib.hid (o_x1.out.below hb)
  have sz7 := Lib.hid hb.size
  clear hb hW6
  have o_g0 : Hid (Row u7 u6.heap.size u7.heap.size 3 1 (.slice A_g0 r0 c_g0) r0 (I l0)) := Lib.hid (by first | exact h_g0 | exact Row.of h_g0)
  clear h_g0
  go_wp2_with fail
  refine (eq_step _ _ _ _ _ l0 _ hr_0 o_g0.out.reads o_w0.out.reads).mono ?_
  rintro e u8 ⟨rfl, hb⟩
  have hW8 := Lib.hid (below_then hW7.out hb)
  replace o_a0 := Lib.hid (o_a0.out.below hb)
  replace o_w0 := Lib.hid (o_w0.out.below hb)
  replace o_x1 := Lib.hid (o_x1.out.below hb)
  replace o_g0 := Lib.hid (o_g0.out.below hb)
  have sz8 := Lib.hid hb.size
  clear hb hW7
  go_wp2_with fail
  refine (toIntS_any A1 n1 c1 _ zs1 _ ((hr1.out.below hW8.out).more hW8.out.size) (Nat.le_refl _) hn1).mono ?_
  rintro e u9 ⟨g_y1, rfl, h_y1, hb⟩
  have hW9 := Lib.hid (below_then hW8.out hb)
  replace o_a0 := Lib.hid (o_a0.out.below hb)
  replace o_w0 := Lib.hid (o_w0.out.below hb)
  replace o_x1 := Lib.hid (o_x1.out.below hb)
  replace o_g0 := Lib.hid (o_g0.out.below hb)
  have sz9 := Lib.hid hb.size
  clear hb hW8
  have o_y1 : Hid (Row u9 u8.heap.size u9.heap.size 3 1 (.slice (some ⟨g_y1, 0, none⟩) n1 n1) n1 (I zs1)) := Lib.hid (by first | exact h_y1 | exact Row.of h_y1)
  clear h_y1
  go_wp2_with fail
  refine (eq_step _ _ _ _ _ zs1 _ hn1 o_x1.out.reads o_y1.out.reads).mono ?_
  rintro e u10 ⟨rfl, hb⟩
  have hW10 := Lib.hid (below_then hW9.out hb)
  replace o_a0 := Lib.hid (o_a0.out.below hb)
  replace o_w0 := Lib.hid (o_w0.out.below hb)
  replace o_x1 := Lib.hid (o_x1.out.below hb)
  replace o_g0 := Lib.hid (o_g0.out.below hb)
  replace o_y1 := Lib.hid (o_y1.out.below hb)
  have sz10 := Lib.hid hb.size
  clear hb hW9
  clear o_y1
  go_wp2_with fail
  refine (markI_step _ _ _ _ _ (1) (1) (by first | rfl | (push_cast; omega)) _ _ hn1 (by omega) o_x1.out).mono ?_
  rintro e u11 ⟨rfl, _, ho⟩
  have ysz1 := sz1.out; have ysz2 := sz2.out; have ysz3 := sz3.out; have ysz4 := sz4.out; have ysz5 := sz5.out; have ysz6 := sz6.out; have ysz7 := sz7.out; have ysz8 := sz8.out; have ysz9 := sz9.out; have ysz10 := sz10.out
  have hw0 := hW10.out.size
  have q_a0 := o_a0.out.lt
  have hW11 := Lib.hid (ho.below hW10.out (by omega))
  replace o_a0 := Lib.hid (o_a0.out.only ho (by omega))
  replace o_w0 := Lib.hid (o_w0.out.only ho (by omega))
  replace o_g0 := Lib.hid (o_g0.out.only ho (by omega))
  clear q_a0
  clear ysz1 ysz2 ysz3 ysz4 ysz5 ysz6 ysz7 ysz8 ysz9 ysz10 hw0
  have sz11 := Lib.hid ho.size
  clear ho hW10
  clear o_x1
  go_wp2_with fail
  refine (eq_step _ _ _ _ _ l0 _ hr_0 o_g0.out.reads o_w0.out.reads).mono ?_
  rintro e u12 ⟨rfl, hb⟩
  have hW12 := Lib.hid (below_then hW11.out hb)
  replace o_a0 := Lib.hid (o_a0.out.below hb)
  replace o_w0 := Lib.hid (o_w0.out.below hb)
  replace o_g0 := Lib.hid (o_g0.out.below hb)
  have sz12 := Lib.hid hb.size
  clear hb hW11
  go_wp2_with fail
  refine (markI_step _ _ _ _ _ (1) (1) (by first | rfl | (push_cast; omega)) _ _ hr_0 (by omega) o_g0.out).mono ?_
  rintro e u13 ⟨rfl, h_g0, ho⟩
  have ysz1 := sz1.out; have ysz2 := sz2.out; have ysz3 := sz3.out; have ysz4 := sz4.out; have ysz5 := sz5.out; have ysz6 := sz6.out; have ysz7 := sz7.out; have ysz8 := sz8.out; have ysz9 := sz9.out; have ysz10 := sz10.out; have ysz11 := sz11.out; have ysz12 := sz12.out
  have hw0 := hW12.out.size
  have q_a0 := o_a0.out.lt
  have hW13 := Lib.hid (ho.below hW12.out (by omega))
  replace o_a0 := Lib.hid (o_a0.out.only ho (by omega))
  replace o_w0 := Lib.hid (o_w0.out.only ho (by omega))
  clear q_a0
  clear ysz1 ysz2 ysz3 ysz4 ysz5 ysz6 ysz7 ysz8 ysz9 ysz10 ysz11 ysz12 hw0
  have sz13 := Lib.hid ho.size
  clear ho hW12
  have n_g0 : Hid (Row u13 u6.heap.size u7.heap.size 3 1 (.slice A_g0 r0 c_g0) r0 (I (upFrom (1) r0))) := Lib.hid h_g0
  clear h_g0 o_g0
  have o_g0 := n_g0
  clear n_g0
  go_wp2_with fail
  refine (held_step _ _ _ (1) (1) (by first | rfl | (push_cast; omega)) _ hr_0 (by omega) o_g0.out.reads).mono ?_
  rintro e u14 ⟨rfl, hb⟩
  have hW14 := Lib.hid (below_then hW13.out hb)
  replace o_a0 := Lib.hid (o_a0.out.below hb)
  replace o_w0 := Lib.hid (o_w0.out.below hb)
  replace o_g0 := Lib.hid (o_g0.out.below hb)
  have sz14 := Lib.hid hb.size
  clear hb hW13
  have k_a0_0 : u14.cell? ⟨W.heap.size, 0, none⟩ = some (.int .i64 f0_0) := o_a0.out.cell 0 _ rfl
  have k_a0_1 : u14.cell? ⟨W.heap.size, 1, none⟩ = some (.int .i64 f0_1) := o_a0.out.cell 1 _ rfl
  have k_a0_2 : u14.cell? ⟨W.heap.size, 2, none⟩ = some (.bool f0_2) := o_a0.out.cell 2 _ rfl
  have k_a0_3 : u14.cell? ⟨W.heap.size, 3, none⟩ = some (.int .i64 f0_3) := o_a0.out.cell 3 _ rfl
  have k_a0_4 : u14.cell? ⟨W.heap.size, 4, none⟩ = some (.int .i64 f0_4) := o_a0.out.cell 4 _ rfl
  go_wp2_with fail
  clear k_a0_0 k_a0_1 k_a0_2 k_a0_3 k_a0_4
  refine (toTrap_c f0_0 f0_1 f0_2 f0_3 f0_4 _).mono ?_
  rintro e u15 ⟨rfl, hb⟩
  have hW15 := Lib.hid (below_then hW14.out hb)
  replace o_a0 := Lib.hid (o_a0.out.below hb)
  replace o_w0 := Lib.hid (o_w0.out.below hb)
  replace o_g0 := Lib.hid (o_g0.out.below hb)
  have sz15 := Lib.hid hb.size
  clear hb hW14
  go_wp2_with fail
  refine (toIntS_any A1 n1 c1 _ zs1 _ ((hr1.out.below hW15.out).more hW15.out.size) (Nat.le_refl _) hn1).mono ?_
  rintro e u16 ⟨g_r1, rfl, h_r1, hb⟩
  have hW16 := Lib.hid (below_then hW15.out hb)
  replace o_a0 := Lib.hid (o_a0.out.below hb)
  replace o_w0 := Lib.hid (o_w0.out.below hb)
  replace o_g0 := Lib.hid (o_g0.out.below hb)
  have sz16 := Lib.hid hb.size
  clear hb hW15
  have o_r1 : Hid (Row u16 u15.heap.size u16.heap.size 3 1 (.slice (some ⟨g_r1, 0, none⟩) n1 n1) n1 (I zs1)) := Lib.hid (by first | exact h_r1 | exact Row.of h_r1)
  clear h_r1
  go_wp2_with fail
  refine (HI.out _ _ o_r1.out.reads).mono ?_
  rintro e u17 ⟨A_h0, c_h0, rfl, h_h0, hb⟩
  have hW17 := Lib.hid (below_then hW16.out hb)
  replace o_a0 := Lib.hid (o_a0.out.below hb)
  replace o_w0 := Lib.hid (o_w0.out.below hb)
  replace o_g0 := Lib.hid (o_g0.out.below hb)
  replace o_r1 := Lib.hid (o_r1.out.below hb)
  have sz17 := Lib.hid hb.size
  clear hb hW16
  have o_h0 : Hid (Row u17 u16.heap.size u17.heap.size 3 1 (.slice A_h0 r0 c_h0) r0 (I l0)) := Lib.hid (by first | exact h_h0 | exact Row.of h_h0)
  clear h_h0
  clear o_r1
  go_wp2_with fail
  refine (eq_step _ _ _ _ _ l0 _ hr_0 o_h0.out.reads o_w0.out.reads).mono ?_
  rintro e u18 ⟨rfl, hb⟩
  have hW18 := Lib.hid (below_then hW17.out hb)
  replace o_a0 := Lib.hid (o_a0.out.below hb)
  replace o_w0 := Lib.hid (o_w0.out.below hb)
  replace o_g0 := Lib.hid (o_g0.out.below hb)
  replace o_h0 := Lib.hid (o_h0.out.below hb)
  have sz18 := Lib.hid hb.size
  clear hb hW17
  go_wp2_with fail
  refine (held_step _ _ _ (1) (1) (by first | rfl | (push_cast; omega)) _ hr_0 (by omega) o_g0.out.reads).mono ?_
  rintro e u19 ⟨rfl, hb⟩
  have hW19 := Lib.hid (below_then hW18.out hb)
  replace o_a0 := Lib.hid (o_a0.out.below hb)
  replace o_w0 := Lib.hid (o_w0.out.below hb)
  replace o_g0 := Lib.hid (o_g0.out.below hb)
  replace o_h0 := Lib.hid (o_h0.out.below hb)
  have sz19 := Lib.hid hb.size
  clear hb hW18
  go_wp2_with fail
  go_ret
  exact ⟨rfl, hW19.out⟩

set_option maxHeartbeats 4000000 in
set_option maxRecDepth 100000 in
/-- the law's Go text returns true, and nothing that was there has turned -/
theorem walk {H : Type} {enc : TypeId × Value → H} (W : World) (base : Nat) (v0 : Value) (d0 : DataW H) (p0 : List MemPlace) (q0 : Value.okWide Try.prog W .any base 23 v0) (h0 : DataW.Trod enc Try.prog W 0 (fun _ => true) true 23 v0 d0 p0) (l0 : ∀ x ∈ p0, x.block < W.heap.size) (v1 : Value) (d1 : DataW H) (p1 : List MemPlace) (q1 : Value.okWide Try.prog W .any base 38 v1) (h1 : DataW.Trod enc Try.prog W 0 (fun _ => true) true 38 v1 d1 p1) (l1 : ∀ x ∈ p1, x.block < W.heap.size) (n2 : Int) (b2 : (Lit.int .i64 n2).wf = true) (hL : laidMetH Try.prog Rows.fnExactLoadValueRow.laid W) (hsh : W.ShapedOpen Try.prog) :
    Calls Try.prog 9 #[v0, v1, .int .i64 n2] W fun e W' => e = .returned (.bool true) ∧ Below W.heap.size W W' := by
  obtain ⟨x0, rfl⟩ := open_trp q0 h0
  obtain ⟨f0_0, f0_1, f0_2, f0_3, f0_4⟩ := x0
  obtain ⟨A1, n1, c1, zs1, rfl, h11, h21, _, _, hr1⟩ := open_nums Try.underlying38 Try.underlying3 (by kernel_rfl) q1 h1
  have hx1 := Nat.le_trans h11 h21
  change Reads W W.heap.size 1 A1 n1 (I zs1) at hr1
  by_cases hy0 : 1048576 < n1
  · exact big0 W f0_0 f0_1 f0_2 f0_3 f0_4 A1 n1 c1 zs1 hr1 hx1 n2  hy0
  exact walk0 W f0_0 f0_1 f0_2 f0_3 f0_4 A1 n1 c1 zs1 hr1 hx1 n2 (by omega)
theorem laid_met (os : Os) : laidMetH Try.prog Rows.fnExactLoadValueRow.laid ((World.holding Try.prog os ⟨#[], #[], []⟩).forCall (fun _ _ => 0) ⟨#[], #[(.agg #[.int .i64 0, .int .i64 0, .bool false, .int .i64 0, .int .i64 0] : Value), .slice none 0 0, .int .i64 0], []⟩).memory := ⟨[], rfl, List.nodup_nil, fun _ _ h => by cases h⟩
theorem reads (os : Os) {H : Type} (enc : TypeId × Value → H) : (DataW.whole enc Try.prog ((World.holding Try.prog os ⟨#[], #[], []⟩).forCall (fun _ _ => 0) ⟨#[], #[(.agg #[.int .i64 0, .int .i64 0, .bool false, .int .i64 0, .int .i64 0] : Value), .slice none 0 0, .int .i64 0], []⟩).memory Try.f9.params.toList Rows.fnExactLoadValueSpec.vars false #[(.agg #[.int .i64 0, .int .i64 0, .bool false, .int .i64 0, .int .i64 0] : Value), .slice none 0 0, .int .i64 0].toList 8).isSome = true := by kernel_rfl
set_option maxRecDepth 100000 in
theorem lifted (os : Os) (started : os.Started) (H : Type) (enc : TypeId × Value → H) (F : Stop.Interp) :
    ReturnsInHanded {} Try.checked os 9 .any ((OpenSpec.ofChange Rows.fnExactLoadValueSpec).preRow enc Try.prog Try.f9 Rows.fnExactLoadValueRow.domain false Rows.fnExactLoadValueRow.laid) (((OpenSpec.ofChange Rows.fnExactLoadValueSpec).at F).post enc Try.prog Try.f9 false true false false) := by
  obtain ⟨x, hx⟩ := Option.isSome_iff_exists.1 (reads os enc)
  refine returnsInHanded_of_row (C := Try.checked) (s := OpenSpec.ofChange Rows.fnExactLoadValueSpec) own started (by kernel_rfl) Try.func9
    (witness_row_at (enc := enc) (C := Try.checked) false (World.holding Try.prog os ⟨#[], #[], []⟩) #[(.agg #[.int .i64 0, .int .i64 0, .bool false, .int .i64 0, .int .i64 0] : Value), .slice none 0 0, .int .i64 0] rfl (by kernel_rfl) (by kernel_rfl) (by kernel_rfl)
      (OpenSpec.preRow_of_cond 8 hx (by rfl) (fun k hk => by cases hk) (by kernel_rfl) (laid_met os))) ?_
  intro W base args ds gs before hval0 hW _ hcond hsz hL hsh _
  have hval : ∀ (j : Nat) t v, Try.f9.params[j]? = some t → args[j]? = some v → Value.okWide Try.prog W .any base t v := hval0
  have hW' := hW
  obtain ⟨p, q, hA0, hV, rfl, hfz, hnd⟩ := hW
  have hA : DataW.TrodAll enc Try.prog W 0 (fun _ => true) true Try.f9.params.toList args.toList ds p := hA0
  rw [Try.params9] at hA hval
  obtain ⟨v0, vs0, d0, ds0, p0, q0, hargs, rfl, rfl, h0, r0⟩ := trodAll_cons hA
  obtain ⟨v1, vs1, d1, ds1, p1, q1, rfl, rfl, rfl, h1, r1⟩ := trodAll_cons r0
  obtain ⟨v2, vs2, d2, ds2, p2, q2, rfl, rfl, rfl, h2, r2⟩ := trodAll_cons r1
  obtain ⟨rfl, rfl, rfl⟩ := trodAll_nil r2
  obtain rfl : args = #[v0, v1, v2] := by cases args; simp_all
  obtain ⟨rfl, rfl⟩ := trodVars_none hV
  obtain ⟨n2, rfl, rfl, rfl, b2⟩ := open_int Try.underlying3 (hval 2 3 v2 rfl rfl) h2
  clear hA0 hval0
  simp only [List.append_nil] at hW'
  refine (walk (enc := enc) W base v0 d0 p0 (hval 0 23 v0 rfl rfl) h0 (fun x hx => hW'.lt x (by simp [hx])) v1 d1 p1 (hval 1 38 v1 rfl rfl) h1 (fun x hx => hW'.lt x (by simp [hx])) n2 b2 hL hsh).mono fun e W' ⟨he, hb⟩ => ⟨_, he, Fr.post_true laidOut (by kernel_rfl) (by kernel_rfl) Try.underlying4 rfl hW' (fun xs hx => by match xs, hx with | [x0, x1, x2], _ => rfl) hb⟩
theorem said : Rows.FnExactLoadValueSaid :=
  OpenClaim.holds_of_cond 9 Try.f9 rfl rfl rfl rfl rfl rfl rfl ⟨rfl, rfl, rfl, rfl, rfl⟩ rfl rfl rfl rfl rfl (by kernel_rfl) Try.func9 (by kernel_rfl)
    (of_decide_eq_true (by kernel_rfl)) (by unfold Func.isWrapper; first | (rw [if_pos (by decide +kernel)]; kernel_rfl) | (rw [if_neg (by decide +kernel)]; exact ⟨rfl, rfl⟩))
    (fun os started H enc _ F => by rw [OpenClaim.pre_eq_preRow]; exact lifted os started H enc F)
#print axioms said
end Go.Proofs.Ytaamjnpknmimmaa.fnExactLoadValue
