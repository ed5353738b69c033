/- For every argument the law FnExactDriveLines returns true. -/
import Derived.Test.YtfdbnolifimnhaaRows
import Derived.Test.YtfdbnolifimnhaaFrame
import Derived.Test.YtfdbnolifimnhaaLnDa
import Derived.Test.YtfdbnolifimnhaaLnEa
import Derived.Test.YtfdbnolifimnhaaBooM
import Derived.Test.YtfdbnolifimnhaaLinM
import Derived.Test.YtfdbnolifimnhaaLinH
import Derived.Test.YtfdbnolifimnhaaLinP
import Derived.Deep.RegionHeld3
import Derived.Deep.Cut
import Derived.Deep.CutRange
namespace Go.Proofs.Ytfdbnolifimnhaa.fnExactDriveLines
open Go.ChangeShapes Go.WideShapes Go.ChangeAt Go.RowKit
open Go.ChangeMaps (open_string shut_string)
open Go Go.Proofs.Ytfdbnolifimnhaa.L7 Go.Proofs.Ytfdbnolifimnhaa.Mem Go.Proofs.Ytfdbnolifimnhaa.Own
set_option linter.unusedVariables false
theorem own : ownKnob Try.prog.godebug = none := by kernel_rfl
theorem laidOut : laidOutB Try.prog = true := by kernel_rfl
set_option maxRecDepth 100000 in
set_option maxHeartbeats 20000000 in
theorem big0 (W : World) (A0 : Option Addr) (n0 c0 : Nat) (xs0 : List Lin) (hr0 : Reads W W.heap.size 4 A0 n0 (FL xs0)) (hx0 : n0 ≤ maxLen) (A1 : Option Addr) (n1 c1 : Nat) (xs1 : List Bool) (hr1 : Reads W W.heap.size 1 A1 n1 (FL xs1)) (hx1 : n1 ≤ maxLen) (hy0 : 1048576 < n1) :
    Calls Try.prog 11 #[.slice A0 n0 c0, .slice A1 n1 c1] W fun e W' => e = .returned (.bool true) ∧ Below W.heap.size W W' := by
  unfold maxLen at hx0 hx1
  have hW0 : Hid (Below W.heap.size W W) := Lib.hid (Below.refl _ _)
  replace hr0 := Lib.hid hr0
  replace hr1 := Lib.hid hr1
  go_enter Try.func11, Try.ntmps11
  go_wp2_with fail
  go_ret
  exact ⟨rfl, hW0.out⟩
set_option maxRecDepth 100000 in
set_option maxHeartbeats 20000000 in
theorem big1 (W : World) (A0 : Option Addr) (n0 c0 : Nat) (xs0 : List Lin) (hr0 : Reads W W.heap.size 4 A0 n0 (FL xs0)) (hx0 : n0 ≤ maxLen) (A1 : Option Addr) (n1 c1 : Nat) (xs1 : List Bool) (hr1 : Reads W W.heap.size 1 A1 n1 (FL xs1)) (hx1 : n1 ≤ maxLen) (hy0 : n1 ≤ 1048576) (hy1 : 1048576 < n0) :
    Calls Try.prog 11 #[.slice A0 n0 c0, .slice A1 n1 c1] W fun e W' => e = .returned (.bool true) ∧ Below W.heap.size W W' := by
  unfold maxLen at hx0 hx1
  have hW0 : Hid (Below W.heap.size W W) := Lib.hid (Below.refl _ _)
  replace hr0 := Lib.hid hr0
  replace hr1 := Lib.hid hr1
  go_enter Try.func11, Try.ntmps11
  go_wp2_with fail
  refine (szLineS_no A0 n0 c0 (1048576) (by omega) (by omega) _ (by omega) (by omega)).mono ?_
  rintro e w0 ⟨rfl, hw⟩
  subst hw
  go_wp2_with fail
  go_ret
  exact ⟨rfl, hW0.out⟩
set_option maxRecDepth 100000 in
set_option maxHeartbeats 20000000 in
theorem walk0 (W : World) (A0 : Option Addr) (n0 c0 : Nat) (xs0 : List Lin) (hr0 : Reads W W.heap.size 4 A0 n0 (FL xs0)) (hx0 : n0 ≤ maxLen) (A1 : Option Addr) (n1 c1 : Nat) (xs1 : List Bool) (hr1 : Reads W W.heap.size 1 A1 n1 (FL xs1)) (hx1 : n1 ≤ maxLen) (hy0 : n1 ≤ 1048576) (hy1 : n0 ≤ 1048576) :
    Calls Try.prog 11 #[.slice A0 n0 c0, .slice A1 n1 c1] W fun e W' => e = .returned (.bool true) ∧ Below W.heap.size W W' := by
  unfold maxLen at hx0 hx1
  have hn0 : n0 ≤ 1048576 := by omega
  have hn1 : n1 ≤ 1048576 := by omega
  obtain ⟨r, hr_⟩ : ∃ r, dlAns xs0 xs1 = r := ⟨_, rfl⟩
  obtain ⟨l0, b⟩ := r
  have hll := dlAns_len hr_
  have HS := fun (A5 A6 : Option Addr) (w : World) (hx : Reads w w.heap.size 4 A5 n0 (FL xs0)) (hy : Reads w w.heap.size 1 A6 n1 (FL xs1)) => specDriveLines_any A5 n0 n0 xs0 A6 n1 n1 xs1 w hx (none_zero hx) hn0 hy hn1 l0 b hr_
  have HI := fun (A5 A6 : Option Addr) (w : World) (hx : Reads w w.heap.size 4 A5 n0 (FL xs0)) (hy : Reads w w.heap.size 1 A6 n1 (FL xs1)) => implDriveLines_any A5 n0 n0 xs0 A6 n1 n1 xs1 w hx (none_zero hx) hn0 hy hn1 l0 b hr_
  unfold ListPost at HS HI
  obtain ⟨r0, hm1⟩ : ∃ m, l0.length = m := ⟨_, rfl⟩
  rw [hm1] at hll
  simp only [hm1] at HS HI
  have hr_0 : r0 ≤ 1048576 := by omega
  replace HS := Lib.hid HS
  replace HI := Lib.hid HI
  clear hr_ hll hm1
  replace hr0 := Lib.hid hr0
  replace hr1 := Lib.hid hr1
  have hW0 : Hid (Below W.heap.size W W) := Lib.hid (Below.refl _ _)
  go_enter Try.func11, Try.ntmps11
  go_wp2_with fail
  refine (szLineS_yes A0 n0 c0 (1048576) (by omega) _ (by omega)).mono ?_
  rintro e w0 ⟨rfl, hw⟩
  subst hw
  go_wp2_with fail
  refine (toLineS_any A0 n0 c0 _ xs0 _ ((hr0.out.below hW0.out).more hW0.out.size) (Nat.le_refl _) hn0).mono ?_
  rintro e u1 ⟨g_t0, rfl, h_t0, hb⟩
  have hW1 := Lib.hid (below_then hW0.out hb)
  have sz1 := Lib.hid hb.size
  clear hb hW0
  have o_t0 : Hid (Row u1 W.heap.size u1.heap.size 58 4 (.slice (some ⟨g_t0, 0, none⟩) n0 n0) n0 (FL xs0)) := Lib.hid (by first | exact h_t0 | exact Row.of h_t0)
  clear h_t0
  go_wp2_with fail
  refine (toBoolS_any A1 n1 c1 _ xs1 _ ((hr1.out.below hW1.out).more hW1.out.size) (Nat.le_refl _) hn1).mono ?_
  rintro e u2 ⟨g_t1, rfl, h_t1, hb⟩
  have hW2 := Lib.hid (below_then hW1.out hb)
  replace o_t0 := Lib.hid (o_t0.out.below hb)
  have sz2 := Lib.hid hb.size
  clear hb hW1
  have o_t1 : Hid (Row u2 u1.heap.size u2.heap.size 4 1 (.slice (some ⟨g_t1, 0, none⟩) n1 n1) n1 (FL xs1)) := Lib.hid (by first | exact h_t1 | exact Row.of h_t1)
  clear h_t1
  go_wp2_with fail
  refine (HS.out _ _ _ o_t0.out.reads o_t1.out.reads).mono ?_
  rintro e u3 ⟨A_w0, c_w0, rfl, h_w0, hb⟩
  have hW3 := Lib.hid (below_then hW2.out hb)
  replace o_t0 := Lib.hid (o_t0.out.below hb)
  replace o_t1 := Lib.hid (o_t1.out.below hb)
  have sz3 := Lib.hid hb.size
  clear hb hW2
  have o_w0 : Hid (Row u3 u2.heap.size u3.heap.size 58 4 (.slice A_w0 r0 c_w0) r0 (FL l0)) := Lib.hid (by first | exact h_w0 | exact Row.of h_w0)
  clear h_w0
  clear o_t0
  clear o_t1
  go_wp2_with fail
  refine (toLineS_any A0 n0 c0 _ xs0 _ ((hr0.out.below hW3.out).more hW3.out.size) (Nat.le_refl _) hn0).mono ?_
  rintro e u4 ⟨g_x0, rfl, h_x0, hb⟩
  have hW4 := Lib.hid (below_then hW3.out hb)
  replace o_w0 := Lib.hid (o_w0.out.below hb)
  have sz4 := Lib.hid hb.size
  clear hb hW3
  have o_x0 : Hid (Row u4 u3.heap.size u4.heap.size 58 4 (.slice (some ⟨g_x0, 0, none⟩) n0 n0) n0 (FL xs0)) := Lib.hid (by first | exact h_x0 | exact Row.of h_x0)
  clear h_x0
  go_wp2_with fail
  refine (toBoolS_any A1 n1 c1 _ xs1 _ ((hr1.out.below hW4.out).more hW4.out.size) (Nat.le_refl _) hn1).mono ?_
  rintro e u5 ⟨g_x1, rfl, h_x1, hb⟩
  have hW5 := Lib.hid (below_then hW4.out hb)
  replace o_w0 := Lib.hid (o_w0.out.below hb)
  replace o_x0 := Lib.hid (o_x0.out.below hb)
  have sz5 := Lib.hid hb.size
  clear hb hW4
  have o_x1 : Hid (Row u5 u4.heap.size u5.heap.size 4 1 (.slice (some ⟨g_x1, 0, none⟩) n1 n1) n1 (FL xs1)) := Lib.hid (by first | exact h_x1 | exact Row.of h_x1)
  clear h_x1
  go_wp2_with fail
  refine (HI.out _ _ _ o_x0.out.reads o_x1.out.reads).mono ?_
  rintro e u6 ⟨A_g0, c_g0, rfl, h_g0, hb⟩
  have hW6 := Lib.hid (below_then hW5.out hb)
  replace o_w0 := Lib.hid (o_w0.out.below hb)
  replace o_x0 := Lib.hid (o_x0.out.below hb)
  replace o_x1 := Lib.hid (o_x1.out.below hb)
  have sz6 := Lib.hid hb.size
  clear hb hW5
  have o_g0 : Hid (Row u6 u5.heap.size u6.heap.size 58 4 (.slice A_g0 r0 c_g0) r0 (FL l0)) := Lib.hid (by first | exact h_g0 | exact Row.of h_g0)
  clear h_g0
  go_wp2_with fail
  refine (eqLineS_step _ _ _ _ _ l0 _ hr_0 o_g0.out.reads o_w0.out.reads).mono ?_
  rintro e u7 ⟨rfl, hb⟩
  have hW7 := Lib.hid (below_then hW6.out hb)
  replace o_w0 := Lib.hid (o_w0.out.below hb)
  replace o_x0 := Lib.hid (o_x0.out.below hb)
  replace o_x1 := Lib.hid (o_x1.out.below hb)
  replace o_g0 := Lib.hid (o_g0.out.below hb)
  have sz7 := Lib.hid hb.size
  clear hb hW6
  go_wp2_with fail
  refine (toLineS_any A0 n0 c0 _ xs0 _ ((hr0.out.below hW7.out).more hW7.out.size) (Nat.le_refl _) hn0).mono ?_
  rintro e u8 ⟨g_y0, rfl, h_y0, hb⟩
  have hW8 := Lib.hid (below_then hW7.out hb)
  replace o_w0 := Lib.hid (o_w0.out.below hb)
  replace o_x0 := Lib.hid (o_x0.out.below hb)
  replace o_x1 := Lib.hid (o_x1.out.below hb)
  replace o_g0 := Lib.hid (o_g0.out.below hb)
  have sz8 := Lib.hid hb.size
  clear hb hW7
  have o_y0 : Hid (Row u8 u7.heap.size u8.heap.size 58 4 (.slice (some ⟨g_y0, 0, none⟩) n0 n0) n0 (FL xs0)) := Lib.hid (by first | exact h_y0 | exact Row.of h_y0)
  clear h_y0
  go_wp2_with fail
  refine (eqLineS_step _ _ _ _ _ xs0 _ hn0 o_x0.out.reads o_y0.out.reads).mono ?_
  rintro e u9 ⟨rfl, hb⟩
  have hW9 := Lib.hid (below_then hW8.out hb)
  replace o_w0 := Lib.hid (o_w0.out.below hb)
  replace o_x0 := Lib.hid (o_x0.out.below hb)
  replace o_x1 := Lib.hid (o_x1.out.below hb)
  replace o_g0 := Lib.hid (o_g0.out.below hb)
  replace o_y0 := Lib.hid (o_y0.out.below hb)
  have sz9 := Lib.hid hb.size
  clear hb hW8
  clear o_y0
  go_wp2_with fail
  refine (toBoolS_any A1 n1 c1 _ xs1 _ ((hr1.out.below hW9.out).more hW9.out.size) (Nat.le_refl _) hn1).mono ?_
  rintro e u10 ⟨g_y1, rfl, h_y1, hb⟩
  have hW10 := Lib.hid (below_then hW9.out hb)
  replace o_w0 := Lib.hid (o_w0.out.below hb)
  replace o_x0 := Lib.hid (o_x0.out.below hb)
  replace o_x1 := Lib.hid (o_x1.out.below hb)
  replace o_g0 := Lib.hid (o_g0.out.below hb)
  have sz10 := Lib.hid hb.size
  clear hb hW9
  have o_y1 : Hid (Row u10 u9.heap.size u10.heap.size 4 1 (.slice (some ⟨g_y1, 0, none⟩) n1 n1) n1 (FL xs1)) := Lib.hid (by first | exact h_y1 | exact Row.of h_y1)
  clear h_y1
  go_wp2_with fail
  refine (eqBoolS_step _ _ _ _ _ xs1 _ hn1 o_x1.out.reads o_y1.out.reads).mono ?_
  rintro e u11 ⟨rfl, hb⟩
  have hW11 := Lib.hid (below_then hW10.out hb)
  replace o_w0 := Lib.hid (o_w0.out.below hb)
  replace o_x0 := Lib.hid (o_x0.out.below hb)
  replace o_x1 := Lib.hid (o_x1.out.below hb)
  replace o_g0 := Lib.hid (o_g0.out.below hb)
  replace o_y1 := Lib.hid (o_y1.out.below hb)
  have sz11 := Lib.hid hb.size
  clear hb hW10
  clear o_y1
  go_wp2_with fail
  refine (markLineS_step _ _ _ _ _ (1) (1) (by first | rfl | (push_cast; omega)) _ _ hn0 (by omega) o_x0.out).mono ?_
  rintro e u12 ⟨rfl, _, ho⟩
  have ysz1 := sz1.out; have ysz2 := sz2.out; have ysz3 := sz3.out; have ysz4 := sz4.out; have ysz5 := sz5.out; have ysz6 := sz6.out; have ysz7 := sz7.out; have ysz8 := sz8.out; have ysz9 := sz9.out; have ysz10 := sz10.out; have ysz11 := sz11.out
  have hw0 := hW11.out.size
  have hW12 := Lib.hid (ho.below hW11.out (by omega))
  replace o_w0 := Lib.hid (o_w0.out.only ho (by omega))
  replace o_x1 := Lib.hid (o_x1.out.only ho (by omega))
  replace o_g0 := Lib.hid (o_g0.out.only ho (by omega))
  clear ysz1 ysz2 ysz3 ysz4 ysz5 ysz6 ysz7 ysz8 ysz9 ysz10 ysz11 hw0
  have sz12 := Lib.hid ho.size
  clear ho hW11
  clear o_x0
  go_wp2_with fail
  refine (markBoolS_step _ _ _ _ _ (1 + 4 * n0) (1 + 4 * (n0 : Int)) (by first | rfl | (push_cast; omega)) _ _ hn1 (by omega) o_x1.out).mono ?_
  rintro e u13 ⟨rfl, _, ho⟩
  have ysz1 := sz1.out; have ysz2 := sz2.out; have ysz3 := sz3.out; have ysz4 := sz4.out; have ysz5 := sz5.out; have ysz6 := sz6.out; have ysz7 := sz7.out; have ysz8 := sz8.out; have ysz9 := sz9.out; have ysz10 := sz10.out; have ysz11 := sz11.out; have ysz12 := sz12.out
  have hw0 := hW12.out.size
  have hW13 := Lib.hid (ho.below hW12.out (by omega))
  replace o_w0 := Lib.hid (o_w0.out.only ho (by omega))
  replace o_g0 := Lib.hid (o_g0.out.only ho (by omega))
  clear ysz1 ysz2 ysz3 ysz4 ysz5 ysz6 ysz7 ysz8 ysz9 ysz10 ysz11 ysz12 hw0
  have sz13 := Lib.hid ho.size
  clear ho hW12
  clear o_x1
  go_wp2_with fail
  refine (eqLineS_step _ _ _ _ _ l0 _ hr_0 o_g0.out.reads o_w0.out.reads).mono ?_
  rintro e u14 ⟨rfl, hb⟩
  have hW14 := Lib.hid (below_then hW13.out hb)
  replace o_w0 := Lib.hid (o_w0.out.below hb)
  replace o_g0 := Lib.hid (o_g0.out.below hb)
  have sz14 := Lib.hid hb.size
  clear hb hW13
  go_wp2_with fail
  refine (markLineS_step _ _ _ _ _ (1) (1) (by first | rfl | (push_cast; omega)) _ _ hr_0 (by omega) o_g0.out).mono ?_
  rintro e u15 ⟨rfl, h_g0, ho⟩
  have ysz1 := sz1.out; have ysz2 := sz2.out; have ysz3 := sz3.out; have ysz4 := sz4.out; have ysz5 := sz5.out; have ysz6 := sz6.out; have ysz7 := sz7.out; have ysz8 := sz8.out; have ysz9 := sz9.out; have ysz10 := sz10.out; have ysz11 := sz11.out; have ysz12 := sz12.out; have ysz13 := sz13.out; have ysz14 := sz14.out
  have hw0 := hW14.out.size
  have hW15 := Lib.hid (ho.below hW14.out (by omega))
  replace o_w0 := Lib.hid (o_w0.out.only ho (by omega))
  clear ysz1 ysz2 ysz3 ysz4 ysz5 ysz6 ysz7 ysz8 ysz9 ysz10 ysz11 ysz12 ysz13 ysz14 hw0
  have sz15 := Lib.hid ho.size
  clear ho hW14
  have n_g0 : Hid (Row u15 u5.heap.size u6.heap.size 58 4 (.slice A_g0 r0 c_g0) r0 (FL (upLin (1) r0))) := Lib.hid h_g0
  clear h_g0 o_g0
  have o_g0 := n_g0
  clear n_g0
  go_wp2_with fail
  refine (heldLineS_step _ _ _ (1) (1) (by first | rfl | (push_cast; omega)) _ hr_0 (by omega) o_g0.out.reads).mono ?_
  rintro e u16 ⟨rfl, hb⟩
  have hW16 := Lib.hid (below_then hW15.out hb)
  replace o_w0 := Lib.hid (o_w0.out.below hb)
  replace o_g0 := Lib.hid (o_g0.out.below hb)
  have sz16 := Lib.hid hb.size
  clear hb hW15
  go_wp2_with fail
  refine (toLineS_any A0 n0 c0 _ xs0 _ ((hr0.out.below hW16.out).more hW16.out.size) (Nat.le_refl _) hn0).mono ?_
  rintro e u17 ⟨g_r0, rfl, h_r0, hb⟩
  have hW17 := Lib.hid (below_then hW16.out hb)
  replace o_w0 := Lib.hid (o_w0.out.below hb)
  replace o_g0 := Lib.hid (o_g0.out.below hb)
  have sz17 := Lib.hid hb.size
  clear hb hW16
  have o_r0 : Hid (Row u17 u16.heap.size u17.heap.size 58 4 (.slice (some ⟨g_r0, 0, none⟩) n0 n0) n0 (FL xs0)) := Lib.hid (by first | exact h_r0 | exact Row.of h_r0)
  clear h_r0
  go_wp2_with fail
  refine (toBoolS_any A1 n1 c1 _ xs1 _ ((hr1.out.below hW17.out).more hW17.out.size) (Nat.le_refl _) hn1).mono ?_
  rintro e u18 ⟨g_r1, rfl, h_r1, hb⟩
  have hW18 := Lib.hid (below_then hW17.out hb)
  replace o_w0 := Lib.hid (o_w0.out.below hb)
  replace o_g0 := Lib.hid (o_g0.out.below hb)
  replace o_r0 := Lib.hid (o_r0.out.below hb)
  have sz18 := Lib.hid hb.size
  clear hb hW17
  have o_r1 : Hid (Row u18 u17.heap.size u18.heap.size 4 1 (.slice (some ⟨g_r1, 0, none⟩) n1 n1) n1 (FL xs1)) := Lib.hid (by first | exact h_r1 | exact Row.of h_r1)
  clear h_r1
  go_wp2_with fail
  refine (HI.out _ _ _ o_r0.out.reads o_r1.out.reads).mono ?_
  rintro e u19 ⟨A_h0, c_h0, rfl, h_h0, hb⟩
  have hW19 := Lib.hid (below_then hW18.out hb)
  replace o_w0 := Lib.hid (o_w0.out.below hb)
  replace o_g0 := Lib.hid (o_g0.out.below hb)
  replace o_r0 := Lib.hid (o_r0.out.below hb)
  replace o_r1 := Lib.hid (o_r1.out.below hb)
  have sz19 := Lib.hid hb.size
  clear hb hW18
  have o_h0 : Hid (Row u19 u18.heap.size u19.heap.size 58 4 (.slice A_h0 r0 c_h0) r0 (FL l0)) := Lib.hid (by first | exact h_h0 | exact Row.of h_h0)
  clear h_h0
  clear o_r0
  clear o_r1
  go_wp2_with fail
  refine (eqLineS_step _ _ _ _ _ l0 _ hr_0 o_h0.out.reads o_w0.out.reads).mono ?_
  rintro e u20 ⟨rfl, hb⟩
  have hW20 := Lib.hid (below_then hW19.out hb)
  replace o_w0 := Lib.hid (o_w0.out.below hb)
  replace o_g0 := Lib.hid (o_g0.out.below hb)
  replace o_h0 := Lib.hid (o_h0.out.below hb)
  have sz20 := Lib.hid hb.size
  clear hb hW19
  go_wp2_with fail
  refine (heldLineS_step _ _ _ (1) (1) (by first | rfl | (push_cast; omega)) _ hr_0 (by omega) o_g0.out.reads).mono ?_
  rintro e u21 ⟨rfl, hb⟩
  have hW21 := Lib.hid (below_then hW20.out hb)
  replace o_w0 := Lib.hid (o_w0.out.below hb)
  replace o_g0 := Lib.hid (o_g0.out.below hb)
  replace o_h0 := Lib.hid (o_h0.out.below hb)
  have sz21 := Lib.hid hb.size
  clear hb hW20
  go_wp2_with fail
  go_ret
  exact ⟨rfl, hW21.out⟩

set_option maxHeartbeats 4000000 in
set_option maxRecDepth 100000 in
/-- the law's Go text returns true, and nothing that was there has turned -/
theorem walk {H : Type} {enc : TypeId × Value → H} (W : World) (base : Nat) (v0 : Value) (d0 : DataW H) (p0 : List MemPlace) (q0 : Value.okWide Try.prog W .any base 87 v0) (h0 : DataW.Trod enc Try.prog W 0 (fun _ => true) true 87 v0 d0 p0) (l0 : ∀ x ∈ p0, x.block < W.heap.size) (v1 : Value) (d1 : DataW H) (p1 : List MemPlace) (q1 : Value.okWide Try.prog W .any base 67 v1) (h1 : DataW.Trod enc Try.prog W 0 (fun _ => true) true 67 v1 d1 p1) (l1 : ∀ x ∈ p1, x.block < W.heap.size) (hL : laidMetH Try.prog Rows.fnExactDriveLinesRow.laid W) (hsh : W.ShapedOpen Try.prog) :
    Calls Try.prog 11 #[v0, v1] W fun e W' => e = .returned (.bool true) ∧ Below W.heap.size W W' := by
  obtain ⟨A0, n0, c0, xs0, rfl, hx0, hr0⟩ := open_lins q0 h0
  obtain ⟨A1, n1, c1, xs1, rfl, hx1, hr1⟩ := open_bools q1 h1
  by_cases hy0 : 1048576 < n1
  · exact big0 W A0 n0 c0 xs0 hr0 hx0 A1 n1 c1 xs1 hr1 hx1  hy0
  by_cases hy1 : 1048576 < n0
  · exact big1 W A0 n0 c0 xs0 hr0 hx0 A1 n1 c1 xs1 hr1 hx1 (by omega) hy1
  exact walk0 W A0 n0 c0 xs0 hr0 hx0 A1 n1 c1 xs1 hr1 hx1 (by omega) (by omega)
theorem laid_met (os : Os) : laidMetH Try.prog Rows.fnExactDriveLinesRow.laid ((World.holding Try.prog os ⟨#[], #[], []⟩).forCall (fun _ _ => 0) ⟨#[], #[(.slice none 0 0 : Value), .slice none 0 0], []⟩).memory := ⟨[], rfl, List.nodup_nil, fun _ _ h => by cases h⟩
theorem reads (os : Os) {H : Type} (enc : TypeId × Value → H) : (DataW.whole enc Try.prog ((World.holding Try.prog os ⟨#[], #[], []⟩).forCall (fun _ _ => 0) ⟨#[], #[(.slice none 0 0 : Value), .slice none 0 0], []⟩).memory Try.f11.params.toList Rows.fnExactDriveLinesSpec.vars false #[(.slice none 0 0 : Value), .slice none 0 0].toList 8).isSome = true := by kernel_rfl
set_option maxRecDepth 100000 in
theorem lifted (os : Os) (started : os.Started) (H : Type) (enc : TypeId × Value → H) (F : Stop.Interp) :
    ReturnsInHanded {} Try.checked os 11 .any ((OpenSpec.ofChange Rows.fnExactDriveLinesSpec).preRow enc Try.prog Try.f11 Rows.fnExactDriveLinesRow.domain false Rows.fnExactDriveLinesRow.laid) (((OpenSpec.ofChange Rows.fnExactDriveLinesSpec).at F).post enc Try.prog Try.f11 false true false false) := by
  obtain ⟨x, hx⟩ := Option.isSome_iff_exists.1 (reads os enc)
  refine returnsInHanded_of_row (C := Try.checked) (s := OpenSpec.ofChange Rows.fnExactDriveLinesSpec) own started (by kernel_rfl) Try.func11
    (witness_row_at (enc := enc) (C := Try.checked) false (World.holding Try.prog os ⟨#[], #[], []⟩) #[(.slice none 0 0 : Value), .slice none 0 0] rfl (by kernel_rfl) (by kernel_rfl) (by kernel_rfl)
      (OpenSpec.preRow_of_cond 8 hx (by rfl) (fun k hk => by cases hk) (by kernel_rfl) (laid_met os))) ?_
  intro W base args ds gs before hval0 hW _ hcond hsz hL hsh _
  have hval : ∀ (j : Nat) t v, Try.f11.params[j]? = some t → args[j]? = some v → Value.okWide Try.prog W .any base t v := hval0
  have hW' := hW
  obtain ⟨p, q, hA0, hV, rfl, hfz, hnd⟩ := hW
  have hA : DataW.TrodAll enc Try.prog W 0 (fun _ => true) true Try.f11.params.toList args.toList ds p := hA0
  rw [Try.params11] at hA hval
  obtain ⟨v0, vs0, d0, ds0, p0, q0, hargs, rfl, rfl, h0, r0⟩ := trodAll_cons hA
  obtain ⟨v1, vs1, d1, ds1, p1, q1, rfl, rfl, rfl, h1, r1⟩ := trodAll_cons r0
  obtain ⟨rfl, rfl, rfl⟩ := trodAll_nil r1
  obtain rfl : args = #[v0, v1] := by cases args; simp_all
  obtain ⟨rfl, rfl⟩ := trodVars_none hV
  clear hA0 hval0
  simp only [List.append_nil] at hW'
  refine (walk (enc := enc) W base v0 d0 p0 (hval 0 87 v0 rfl rfl) h0 (fun x hx => hW'.lt x (by simp [hx])) v1 d1 p1 (hval 1 67 v1 rfl rfl) h1 (fun x hx => hW'.lt x (by simp [hx])) hL hsh).mono fun e W' ⟨he, hb⟩ => ⟨_, he, Fr.post_true laidOut (by kernel_rfl) (by kernel_rfl) Try.underlying4 rfl hW' (fun xs hx => by match xs, hx with | [x0, x1], _ => rfl) hb⟩
theorem said : Rows.FnExactDriveLinesSaid :=
  OpenClaim.holds_of_cond 11 Try.f11 rfl rfl rfl rfl rfl rfl rfl ⟨rfl, rfl, rfl, rfl, rfl⟩ rfl rfl rfl rfl rfl (by kernel_rfl) Try.func11 (by kernel_rfl)
    (of_decide_eq_true (by kernel_rfl)) (by unfold Func.isWrapper; first | (rw [if_pos (by decide +kernel)]; kernel_rfl) | (rw [if_neg (by decide +kernel)]; exact ⟨rfl, rfl⟩))
    (fun os started H enc _ F => by rw [OpenClaim.pre_eq_preRow]; exact lifted os started H enc F)
#print axioms said
end Go.Proofs.Ytfdbnolifimnhaa.fnExactDriveLines
