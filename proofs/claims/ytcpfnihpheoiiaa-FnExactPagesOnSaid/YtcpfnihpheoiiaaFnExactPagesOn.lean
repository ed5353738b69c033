/- For every argument the law FnExactPagesOn returns true. -/
import Derived.Test.YtcpfnihpheoiiaaRows
import Derived.Test.YtcpfnihpheoiiaaFrame
import Derived.Test.YtcpfnihpheoiiaaOnFr
import Derived.Test.YtcpfnihpheoiiaaMarkT
import Derived.Test.YtcpfnihpheoiiaaOpenT
import Derived.Test.YtcpfnihpheoiiaaTabL
import Derived.Test.YtcpfnihpheoiiaaOnly
import Derived.Deep.RegionHeld3
namespace Go.Proofs.Ytcpfnihpheoiiaa.fnExactPagesOn
open Go.ChangeShapes Go.WideShapes Go.ChangeAt Go.RowKit
open Go.ChangeMaps (open_string shut_string)
open Go Go.Proofs.Ytcpfnihpheoiiaa.L4 Go.Proofs.Ytcpfnihpheoiiaa.Mem Go.Proofs.Ytcpfnihpheoiiaa.Own
set_option linter.unusedVariables false
theorem own : ownKnob Try.prog.godebug = none := by kernel_rfl
theorem laidOut : laidOutB Try.prog = true := by kernel_rfl
set_option maxRecDepth 100000 in
set_option maxHeartbeats 20000000 in
theorem big0 (W : World) (A0 : Option Addr) (n0 c0 : Nat) (D0 : Option Addr) (m0 d0 : Nat) (t0 : Tab) (hr0 : ReadsT W W.heap.size A0 n0 D0 m0 t0) (hx0 : n0 ≤ maxLen) (hk0 : m0 ≤ maxLen) (n1 : Int) (hy0 : 1048576 < (n0 + (m0 + tot t0.leaves))) :
    Calls Try.prog 12 #[.agg #[.slice A0 n0 c0, .slice D0 m0 d0], .int .i64 n1] W fun e W' => e = .returned (.bool true) ∧ Below W.heap.size W W' := by
  skip
  have hW0 : Hid (Below W.heap.size W W) := Lib.hid (Below.refl _ _)
  replace hr0 := Lib.hid hr0
  go_enter Try.func12, Try.ntmps12
  obtain ⟨v1, hv⟩ : ∃ v1, W.alloc (.cells #[.slice A0 n0 c0, .slice D0 m0 d0] 62) = v1 := ⟨_, rfl⟩
  have hb : Below W.heap.size W v1 := by rw [← hv]; exact below_more (Below.refl _ _) _
  have o_a0 : Hid (Blk v1 W.heap.size 62 #[.slice A0 n0 c0, .slice D0 m0 d0]) := Lib.hid (by rw [← hv]; exact Blk.new _ _ _)
  have HV1 := Lib.hid hv
  clear hv
  have hW1 := Lib.hid (below_then hW0.out hb)
  have z1 := Lib.hid o_a0.out.lt
  clear hb hW0
  have k_a0_0 : v1.cell? ⟨W.heap.size, 0, none⟩ = some (.slice A0 n0 c0) := o_a0.out.cell 0 _ rfl
  have k_a0_1 : v1.cell? ⟨W.heap.size, 1, none⟩ = some (.slice D0 m0 d0) := o_a0.out.cell 1 _ rfl
  go_wp2_with fail
  clear k_a0_0 k_a0_1
  rw [HV1.out]
  clear HV1
  refine (szTable_no A0 n0 c0 D0 m0 d0 t0 (1048576) _ (hr0.out.grow hW1.out) (by omega) (by omega) (by omega) hx0 hk0).mono ?_
  rintro e u2 ⟨rfl, hb⟩
  have hW2 := Lib.hid (below_then hW1.out hb)
  replace o_a0 := Lib.hid (o_a0.out.below hb)
  have z2 := Lib.hid hb.size
  clear hb hW1
  go_wp2_with fail
  go_ret
  exact ⟨rfl, hW2.out⟩
set_option maxRecDepth 100000 in
set_option maxHeartbeats 20000000 in
theorem walk0 (W : World) (A0 : Option Addr) (n0 c0 : Nat) (D0 : Option Addr) (m0 d0 : Nat) (t0 : Tab) (hr0 : ReadsT W W.heap.size A0 n0 D0 m0 t0) (hx0 : n0 ≤ maxLen) (hk0 : m0 ≤ maxLen) (n1 : Int) (hy0 : (n0 + (m0 + tot t0.leaves)) ≤ 1048576) :
    Calls Try.prog 12 #[.agg #[.slice A0 n0 c0, .slice D0 m0 d0], .int .i64 n1] W fun e W' => e = .returned (.bool true) ∧ Below W.heap.size W W' := by
  unfold maxLen at hx0
  have hn0 : n0 ≤ 1048576 := by omega
  have hm0 : m0 ≤ 1048576 := by omega
  have ht0 : tot t0.leaves ≤ 1048576 := by omega
  have hl0 : ∀ xs ∈ t0.leaves, xs.length ≤ 1048576 := fun xs hh => by have := len_le_tot hh; omega
  obtain ⟨⟨l0, b⟩, hres⟩ : ∃ r, (if OkT t0 ∧ 0 ≤ n1 ∧ n1 < 16 then (onFrame t0 n1, true) else ([], false)) = r := ⟨_, rfl⟩
  have hon : OnIs t0 n1 l0 b := hres
  have hlen : l0.length ≤ 1048576 := Nat.le_trans (onIs_len hon) (by decide)
  have HRES := Lib.hid hon
  clear hres hon
  obtain ⟨r0, hr0_⟩ : ∃ m, l0.length = m := ⟨_, rfl⟩
  have HS := Lib.hid fun (A5 D5 : Option Addr) (w : World) (hx : ReadsT w w.heap.size A5 n0 D5 m0 t0) => specOn_any A5 n0 n0 D5 m0 m0 t0 n1 w hx hn0 hm0 hl0 (Nat.le_refl _) l0 b HRES.out
  have HI := Lib.hid fun (A5 D5 : Option Addr) (w : World) (hx : ReadsT w w.heap.size A5 n0 D5 m0 t0) => implOn_any A5 n0 n0 D5 m0 m0 t0 n1 w hx hn0 hm0 hl0 l0 b HRES.out
  rw [hr0_] at HS HI hlen
  have hr_0 : r0 ≤ 1048576 := hlen
  clear hr0_ hlen HRES
  replace hr0 := Lib.hid hr0
  have hW0 : Hid (Below W.heap.size W W) := Lib.hid (Below.refl _ _)
  go_enter Try.func12, Try.ntmps12
  obtain ⟨v1, hv⟩ : ∃ v1, W.alloc (.cells #[.slice A0 n0 c0, .slice D0 m0 d0] 62) = v1 := ⟨_, rfl⟩
  have hb : Below W.heap.size W v1 := by rw [← hv]; exact below_more (Below.refl _ _) _
  have o_a0 : Hid (Blk v1 W.heap.size 62 #[.slice A0 n0 c0, .slice D0 m0 d0]) := Lib.hid (by rw [← hv]; exact Blk.new _ _ _)
  have HV1 := Lib.hid hv
  clear hv
  have hW1 := Lib.hid (below_then hW0.out hb)
  have z1 := Lib.hid o_a0.out.lt
  clear hb hW0
  have k_a0_0 : v1.cell? ⟨W.heap.size, 0, none⟩ = some (.slice A0 n0 c0) := o_a0.out.cell 0 _ rfl
  have k_a0_1 : v1.cell? ⟨W.heap.size, 1, none⟩ = some (.slice D0 m0 d0) := o_a0.out.cell 1 _ rfl
  go_wp2_with fail
  clear k_a0_0 k_a0_1
  rw [HV1.out]
  clear HV1
  refine (szTable_yes A0 n0 c0 D0 m0 d0 t0 (1048576) _ (hr0.out.grow hW1.out) (by omega) (by omega)).mono ?_
  rintro e u2 ⟨rfl, hb⟩
  have hW2 := Lib.hid (below_then hW1.out hb)
  replace o_a0 := Lib.hid (o_a0.out.below hb)
  have z2 := Lib.hid hb.size
  clear hb hW1
  have k_a0_0 : u2.cell? ⟨W.heap.size, 0, none⟩ = some (.slice A0 n0 c0) := o_a0.out.cell 0 _ rfl
  have k_a0_1 : u2.cell? ⟨W.heap.size, 1, none⟩ = some (.slice D0 m0 d0) := o_a0.out.cell 1 _ rfl
  go_wp2_with fail
  clear k_a0_0 k_a0_1
  refine (toTable_any A0 n0 c0 D0 m0 d0 _ t0 _ ((hr0.out.below hW2.out).more hW2.out.size) (Nat.le_refl _) hn0 hm0 hl0).mono ?_
  rintro e u3 ⟨g_t0, e_t0, rfl, h_t0, hb⟩
  have hW3 := Lib.hid (below_then hW2.out hb)
  replace o_a0 := Lib.hid (o_a0.out.below hb)
  have z3 := Lib.hid hb.size
  clear hb hW2
  have o_t0 : Hid (OwnT u3 u2.heap.size u3.heap.size (some ⟨g_t0, 0, none⟩) n0 n0 (some ⟨e_t0, 0, none⟩) m0 m0 t0) := Lib.hid (by first | exact h_t0 | exact Row.of h_t0)
  clear h_t0
  go_wp2_with fail
  refine (HS.out _ _ _ o_t0.out.reads).mono ?_
  rintro e u4 ⟨A_w0, c_w0, rfl, h_w0, hb⟩
  have hW4 := Lib.hid (below_then hW3.out hb)
  replace o_a0 := Lib.hid (o_a0.out.below hb)
  replace o_t0 := Lib.hid (o_t0.out.below hb)
  have z4 := Lib.hid hb.size
  clear hb hW3
  have o_w0 : Hid (Row u4 u3.heap.size u4.heap.size 3 1 (.slice A_w0 r0 c_w0) r0 (I l0)) := Lib.hid (by first | exact h_w0 | exact Row.of h_w0)
  clear h_w0
  clear o_t0
  have k_a0_0 : u4.cell? ⟨W.heap.size, 0, none⟩ = some (.slice A0 n0 c0) := o_a0.out.cell 0 _ rfl
  have k_a0_1 : u4.cell? ⟨W.heap.size, 1, none⟩ = some (.slice D0 m0 d0) := o_a0.out.cell 1 _ rfl
  go_wp2_with fail
  clear k_a0_0 k_a0_1
  refine (toTable_any A0 n0 c0 D0 m0 d0 _ t0 _ ((hr0.out.below hW4.out).more hW4.out.size) (Nat.le_refl _) hn0 hm0 hl0).mono ?_
  rintro e u5 ⟨g_x0, e_x0, rfl, h_x0, hb⟩
  have hW5 := Lib.hid (below_then hW4.out hb)
  replace o_a0 := Lib.hid (o_a0.out.below hb)
  replace o_w0 := Lib.hid (o_w0.out.below hb)
  have z5 := Lib.hid hb.size
  clear hb hW4
  have o_x0 : Hid (OwnT u5 u4.heap.size u5.heap.size (some ⟨g_x0, 0, none⟩) n0 n0 (some ⟨e_x0, 0, none⟩) m0 m0 t0) := Lib.hid (by first | exact h_x0 | exact Row.of h_x0)
  clear h_x0
  obtain ⟨v6, hv⟩ : ∃ v6, u5.alloc (.cells #[.slice (some ⟨g_x0, 0, none⟩) n0 n0, .slice (some ⟨e_x0, 0, none⟩) m0 m0] 27) = v6 := ⟨_, rfl⟩
  have hb : Below u5.heap.size u5 v6 := by rw [← hv]; exact below_more (Below.refl _ _) _
  have o_Lx0 : Hid (Blk v6 u5.heap.size 27 #[.slice (some ⟨g_x0, 0, none⟩) n0 n0, .slice (some ⟨e_x0, 0, none⟩) m0 m0]) := Lib.hid (by rw [← hv]; exact Blk.new _ _ _)
  have HV6 := Lib.hid hv
  clear hv
  have hW6 := Lib.hid (below_then hW5.out hb)
  replace o_a0 := Lib.hid (o_a0.out.below hb)
  replace o_w0 := Lib.hid (o_w0.out.below hb)
  replace o_x0 := Lib.hid (o_x0.out.below hb)
  have z6 := Lib.hid o_Lx0.out.lt
  clear hb hW5
  have k_Lx0_0 : v6.cell? ⟨u5.heap.size, 0, none⟩ = some (.slice (some ⟨g_x0, 0, none⟩) n0 n0) := o_Lx0.out.cell 0 _ rfl
  have k_Lx0_1 : v6.cell? ⟨u5.heap.size, 1, none⟩ = some (.slice (some ⟨e_x0, 0, none⟩) m0 m0) := o_Lx0.out.cell 1 _ rfl
  go_wp2_with fail
  clear k_Lx0_0 k_Lx0_1
  rw [HV6.out]
  clear HV6
  refine (HI.out _ _ _ o_x0.out.reads).mono ?_
  rintro e u7 ⟨A_g0, c_g0, rfl, h_g0, hb⟩
  have hW7 := Lib.hid (below_then hW6.out hb)
  replace o_a0 := Lib.hid (o_a0.out.below hb)
  replace o_w0 := Lib.hid (o_w0.out.below hb)
  replace o_x0 := Lib.hid (o_x0.out.below hb)
  replace o_Lx0 := Lib.hid (o_Lx0.out.below hb)
  have z7 := Lib.hid hb.size
  clear hb hW6
  have o_g0 : Hid (Row u7 v6.heap.size u7.heap.size 3 1 (.slice A_g0 r0 c_g0) r0 (I l0)) := Lib.hid (by first | exact h_g0 | exact Row.of h_g0)
  clear h_g0
  go_wp2_with fail
  refine (eq_step _ _ _ _ _ l0 _ hr_0 o_g0.out.reads o_w0.out.reads).mono ?_
  rintro e u8 ⟨rfl, hb⟩
  have hW8 := Lib.hid (below_then hW7.out hb)
  replace o_a0 := Lib.hid (o_a0.out.below hb)
  replace o_w0 := Lib.hid (o_w0.out.below hb)
  replace o_x0 := Lib.hid (o_x0.out.below hb)
  replace o_Lx0 := Lib.hid (o_Lx0.out.below hb)
  replace o_g0 := Lib.hid (o_g0.out.below hb)
  have z8 := Lib.hid hb.size
  clear hb hW7
  go_wp2_with fail
  have k_Lx0_0 : u8.cell? ⟨u5.heap.size, 0, none⟩ = some (.slice (some ⟨g_x0, 0, none⟩) n0 n0) := o_Lx0.out.cell 0 _ rfl
  have k_Lx0_1 : u8.cell? ⟨u5.heap.size, 1, none⟩ = some (.slice (some ⟨e_x0, 0, none⟩) m0 m0) := o_Lx0.out.cell 1 _ rfl
  have k_a0_0 : u8.cell? ⟨W.heap.size, 0, none⟩ = some (.slice A0 n0 c0) := o_a0.out.cell 0 _ rfl
  have k_a0_1 : u8.cell? ⟨W.heap.size, 1, none⟩ = some (.slice D0 m0 d0) := o_a0.out.cell 1 _ rfl
  go_region_held3 (fun w' => w'.cell? ⟨u5.heap.size, 0, none⟩ = some (.slice (some ⟨g_x0, 0, none⟩) n0 n0) ∧ w'.cell? ⟨u5.heap.size, 1, none⟩ = some (.slice (some ⟨e_x0, 0, none⟩) m0 m0) ∧ w'.cell? ⟨W.heap.size, 0, none⟩ = some (.slice A0 n0 c0) ∧ w'.cell? ⟨W.heap.size, 1, none⟩ = some (.slice D0 m0 d0)) (first | exact ⟨k_Lx0_0, k_Lx0_1, k_a0_0, k_a0_1⟩ | go_keep)
    (first
      | (go_at_call 54; refine (toTable_any A0 n0 c0 D0 m0 d0 _ t0 _ ((hr0.out.below hW8.out).more hW8.out.size).drew (Nat.le_refl _) hn0 hm0 hl0).mono ?_; rintro e u9 ⟨g_y0, e_y0, rfl, h_y0, hb⟩; replace hb := below_then (below_drew1 _) hb; have hW9 := Lib.hid (below_then hW8.out hb); replace o_a0 := Lib.hid (o_a0.out.below hb); replace o_w0 := Lib.hid (o_w0.out.below hb); replace o_x0 := Lib.hid (o_x0.out.below hb); replace o_Lx0 := Lib.hid (o_Lx0.out.below hb); replace o_g0 := Lib.hid (o_g0.out.below hb); have z9 := Lib.hid hb.size; clear hb hW8; have o_y0 : Hid (OwnT u9 u8.heap.size u9.heap.size (some ⟨g_y0, 0, none⟩) n0 n0 (some ⟨e_y0, 0, none⟩) m0 m0 t0) := Lib.hid (by first | exact h_y0 | exact Row.of h_y0); clear h_y0; clear k_Lx0_0 k_Lx0_1 k_a0_0 k_a0_1; have k_Lx0_0 : u9.cell? ⟨u5.heap.size, 0, none⟩ = some (.slice (some ⟨g_x0, 0, none⟩) n0 n0) := o_Lx0.out.cell 0 _ rfl; have k_Lx0_1 : u9.cell? ⟨u5.heap.size, 1, none⟩ = some (.slice (some ⟨e_x0, 0, none⟩) m0 m0) := o_Lx0.out.cell 1 _ rfl; have k_a0_0 : u9.cell? ⟨W.heap.size, 0, none⟩ = some (.slice A0 n0 c0) := o_a0.out.cell 0 _ rfl; have k_a0_1 : u9.cell? ⟨W.heap.size, 1, none⟩ = some (.slice D0 m0 d0) := o_a0.out.cell 1 _ rfl)
      | (go_at_call 48; refine (eqTable_step _ _ _ _ _ _ _ _ _ _ t0 _ hn0 hm0 hl0 o_x0.out.reads o_y0.out.reads).mono ?_; rintro e u10 ⟨rfl, hb⟩; have hW10 := Lib.hid (below_then hW9.out hb); replace o_a0 := Lib.hid (o_a0.out.below hb); replace o_w0 := Lib.hid (o_w0.out.below hb); replace o_x0 := Lib.hid (o_x0.out.below hb); replace o_Lx0 := Lib.hid (o_Lx0.out.below hb); replace o_g0 := Lib.hid (o_g0.out.below hb); replace o_y0 := Lib.hid (o_y0.out.below hb); have z10 := Lib.hid hb.size; clear hb hW9; clear k_Lx0_0 k_Lx0_1 k_a0_0 k_a0_1; have k_Lx0_0 : u10.cell? ⟨u5.heap.size, 0, none⟩ = some (.slice (some ⟨g_x0, 0, none⟩) n0 n0) := o_Lx0.out.cell 0 _ rfl; have k_Lx0_1 : u10.cell? ⟨u5.heap.size, 1, none⟩ = some (.slice (some ⟨e_x0, 0, none⟩) m0 m0) := o_Lx0.out.cell 1 _ rfl; have k_a0_0 : u10.cell? ⟨W.heap.size, 0, none⟩ = some (.slice A0 n0 c0) := o_a0.out.cell 0 _ rfl; have k_a0_1 : u10.cell? ⟨W.heap.size, 1, none⟩ = some (.slice D0 m0 d0) := o_a0.out.cell 1 _ rfl))
  clear k_Lx0_0 k_Lx0_1 k_a0_0 k_a0_1
  clear o_y0
  have k_Lx0_0 : u10.cell? ⟨u5.heap.size, 0, none⟩ = some (.slice (some ⟨g_x0, 0, none⟩) n0 n0) := o_Lx0.out.cell 0 _ rfl
  have k_Lx0_1 : u10.cell? ⟨u5.heap.size, 1, none⟩ = some (.slice (some ⟨e_x0, 0, none⟩) m0 m0) := o_Lx0.out.cell 1 _ rfl
  go_wp2_with fail
  clear k_Lx0_0 k_Lx0_1
  refine (markTable_step _ _ _ _ _ _ _ _ t0 (1) (1) (by first | rfl | (push_cast; omega)) _ hn0 hm0 ht0 (by omega) o_x0.out).mono ?_
  rintro e u11 ⟨rfl, _, ho⟩
  have y1 := z1.out; have y2 := z2.out; have y3 := z3.out; have y4 := z4.out; have y5 := z5.out; have y6 := z6.out; have y7 := z7.out; have y8 := z8.out; have y9 := z9.out; have y10 := z10.out
  have hw0 := hW10.out.size
  have q_a0 := o_a0.out.lt
  have q_Lx0 := o_Lx0.out.lt
  have hW11 := Lib.hid (ho.below hW10.out (by omega))
  replace o_a0 := Lib.hid (o_a0.out.only ho (by omega))
  replace o_w0 := Lib.hid (o_w0.out.only ho (by omega))
  replace o_Lx0 := Lib.hid (o_Lx0.out.only ho (by omega))
  replace o_g0 := Lib.hid (o_g0.out.only ho (by omega))
  clear q_a0
  clear q_Lx0
  clear y1 y2 y3 y4 y5 y6 y7 y8 y9 y10 hw0
  have z11 := Lib.hid ho.size
  clear ho hW10
  clear o_x0
  clear o_Lx0
  go_wp2_with fail
  refine (eq_step _ _ _ _ _ l0 _ hr_0 o_g0.out.reads o_w0.out.reads).mono ?_
  rintro e u12 ⟨rfl, hb⟩
  have hW12 := Lib.hid (below_then hW11.out hb)
  replace o_a0 := Lib.hid (o_a0.out.below hb)
  replace o_w0 := Lib.hid (o_w0.out.below hb)
  replace o_g0 := Lib.hid (o_g0.out.below hb)
  have z12 := Lib.hid hb.size
  clear hb hW11
  go_wp2_with fail
  refine (markI_step _ _ _ _ _ (1) (1) (by first | rfl | (push_cast; omega)) _ _ hr_0 (by omega) o_g0.out).mono ?_
  rintro e u13 ⟨rfl, h_g0, ho⟩
  have y1 := z1.out; have y2 := z2.out; have y3 := z3.out; have y4 := z4.out; have y5 := z5.out; have y6 := z6.out; have y7 := z7.out; have y8 := z8.out; have y9 := z9.out; have y10 := z10.out; have y11 := z11.out; have y12 := z12.out
  have hw0 := hW12.out.size
  have q_a0 := o_a0.out.lt
  have hW13 := Lib.hid (ho.below hW12.out (by omega))
  replace o_a0 := Lib.hid (o_a0.out.only ho (by omega))
  replace o_w0 := Lib.hid (o_w0.out.only ho (by omega))
  clear q_a0
  clear y1 y2 y3 y4 y5 y6 y7 y8 y9 y10 y11 y12 hw0
  have z13 := Lib.hid ho.size
  clear ho hW12
  have n_g0 : Hid (Row u13 v6.heap.size u7.heap.size 3 1 (.slice A_g0 r0 c_g0) r0 (I (upFrom (1) r0))) := Lib.hid h_g0
  clear h_g0 o_g0
  have o_g0 := n_g0
  clear n_g0
  go_wp2_with fail
  refine (held_step _ _ _ (1) (1) (by first | rfl | (push_cast; omega)) _ hr_0 (by omega) o_g0.out.reads).mono ?_
  rintro e u14 ⟨rfl, hb⟩
  have hW14 := Lib.hid (below_then hW13.out hb)
  replace o_a0 := Lib.hid (o_a0.out.below hb)
  replace o_w0 := Lib.hid (o_w0.out.below hb)
  replace o_g0 := Lib.hid (o_g0.out.below hb)
  have z14 := Lib.hid hb.size
  clear hb hW13
  have k_a0_0 : u14.cell? ⟨W.heap.size, 0, none⟩ = some (.slice A0 n0 c0) := o_a0.out.cell 0 _ rfl
  have k_a0_1 : u14.cell? ⟨W.heap.size, 1, none⟩ = some (.slice D0 m0 d0) := o_a0.out.cell 1 _ rfl
  go_wp2_with fail
  clear k_a0_0 k_a0_1
  refine (toTable_any A0 n0 c0 D0 m0 d0 _ t0 _ ((hr0.out.below hW14.out).more hW14.out.size) (Nat.le_refl _) hn0 hm0 hl0).mono ?_
  rintro e u15 ⟨g_r0, e_r0, rfl, h_r0, hb⟩
  have hW15 := Lib.hid (below_then hW14.out hb)
  replace o_a0 := Lib.hid (o_a0.out.below hb)
  replace o_w0 := Lib.hid (o_w0.out.below hb)
  replace o_g0 := Lib.hid (o_g0.out.below hb)
  have z15 := Lib.hid hb.size
  clear hb hW14
  have o_r0 : Hid (OwnT u15 u14.heap.size u15.heap.size (some ⟨g_r0, 0, none⟩) n0 n0 (some ⟨e_r0, 0, none⟩) m0 m0 t0) := Lib.hid (by first | exact h_r0 | exact Row.of h_r0)
  clear h_r0
  go_wp2_with fail
  refine (HI.out _ _ _ o_r0.out.reads).mono ?_
  rintro e u16 ⟨A_h0, c_h0, rfl, h_h0, hb⟩
  have hW16 := Lib.hid (below_then hW15.out hb)
  replace o_a0 := Lib.hid (o_a0.out.below hb)
  replace o_w0 := Lib.hid (o_w0.out.below hb)
  replace o_g0 := Lib.hid (o_g0.out.below hb)
  replace o_r0 := Lib.hid (o_r0.out.below hb)
  have z16 := Lib.hid hb.size
  clear hb hW15
  have o_h0 : Hid (Row u16 u15.heap.size u16.heap.size 3 1 (.slice A_h0 r0 c_h0) r0 (I l0)) := Lib.hid (by first | exact h_h0 | exact Row.of h_h0)
  clear h_h0
  clear o_r0
  go_wp2_with fail
  refine (eq_step _ _ _ _ _ l0 _ hr_0 o_h0.out.reads o_w0.out.reads).mono ?_
  rintro e u17 ⟨rfl, hb⟩
  have hW17 := Lib.hid (below_then hW16.out hb)
  replace o_a0 := Lib.hid (o_a0.out.below hb)
  replace o_w0 := Lib.hid (o_w0.out.below hb)
  replace o_g0 := Lib.hid (o_g0.out.below hb)
  replace o_h0 := Lib.hid (o_h0.out.below hb)
  have z17 := Lib.hid hb.size
  clear hb hW16
  go_wp2_with fail
  refine (held_step _ _ _ (1) (1) (by first | rfl | (push_cast; omega)) _ hr_0 (by omega) o_g0.out.reads).mono ?_
  rintro e u18 ⟨rfl, hb⟩
  have hW18 := Lib.hid (below_then hW17.out hb)
  replace o_a0 := Lib.hid (o_a0.out.below hb)
  replace o_w0 := Lib.hid (o_w0.out.below hb)
  replace o_g0 := Lib.hid (o_g0.out.below hb)
  replace o_h0 := Lib.hid (o_h0.out.below hb)
  have z18 := Lib.hid hb.size
  clear hb hW17
  go_wp2_with fail
  go_ret
  exact ⟨rfl, hW18.out⟩

set_option maxHeartbeats 4000000 in
set_option maxRecDepth 100000 in
/-- the law's Go text returns true, and nothing that was there has turned -/
theorem walk {H : Type} {enc : TypeId × Value → H} (W : World) (base : Nat) (v0 : Value) (d0 : DataW H) (p0 : List MemPlace) (q0 : Value.okWide Try.prog W .any base 62 v0) (h0 : DataW.Trod enc Try.prog W 0 (fun _ => true) true 62 v0 d0 p0) (l0 : ∀ x ∈ p0, x.block < W.heap.size) (n1 : Int) (b1 : (Lit.int .i64 n1).wf = true) (hL : laidMetH Try.prog Rows.fnExactPagesOnRow.laid W) (hsh : W.ShapedOpen Try.prog) :
    Calls Try.prog 12 #[v0, .int .i64 n1] W fun e W' => e = .returned (.bool true) ∧ Below W.heap.size W W' := by
  obtain ⟨A0, n0, c0, D0, m0, d0, t0, rfl, hx0, hk0, hr0⟩ := open_table q0 h0
  by_cases hy0 : 1048576 < (n0 + (m0 + tot t0.leaves))
  · exact big0 W A0 n0 c0 D0 m0 d0 t0 hr0 hx0 hk0 n1  hy0
  exact walk0 W A0 n0 c0 D0 m0 d0 t0 hr0 hx0 hk0 n1 (by omega)
theorem laid_met (os : Os) : laidMetH Try.prog Rows.fnExactPagesOnRow.laid ((World.holding Try.prog os ⟨#[], #[], []⟩).forCall (fun _ _ => 0) ⟨#[], #[(.agg #[.slice none 0 0, .slice none 0 0] : Value), .int .i64 0], []⟩).memory := ⟨[], rfl, List.nodup_nil, fun _ _ h => by cases h⟩
theorem reads (os : Os) {H : Type} (enc : TypeId × Value → H) : (DataW.whole enc Try.prog ((World.holding Try.prog os ⟨#[], #[], []⟩).forCall (fun _ _ => 0) ⟨#[], #[(.agg #[.slice none 0 0, .slice none 0 0] : Value), .int .i64 0], []⟩).memory Try.f12.params.toList Rows.fnExactPagesOnSpec.vars false #[(.agg #[.slice none 0 0, .slice none 0 0] : Value), .int .i64 0].toList 8).isSome = true := by kernel_rfl
set_option maxRecDepth 100000 in
theorem lifted (os : Os) (started : os.Started) (H : Type) (enc : TypeId × Value → H) (F : Stop.Interp) :
    ReturnsInHanded {} Try.checked os 12 .any ((OpenSpec.ofChange Rows.fnExactPagesOnSpec).preRow enc Try.prog Try.f12 Rows.fnExactPagesOnRow.domain false Rows.fnExactPagesOnRow.laid) (((OpenSpec.ofChange Rows.fnExactPagesOnSpec).at F).post enc Try.prog Try.f12 false true false false) := by
  obtain ⟨x, hx⟩ := Option.isSome_iff_exists.1 (reads os enc)
  refine returnsInHanded_of_row (C := Try.checked) (s := OpenSpec.ofChange Rows.fnExactPagesOnSpec) own started (by kernel_rfl) Try.func12
    (witness_row_at (enc := enc) (C := Try.checked) false (World.holding Try.prog os ⟨#[], #[], []⟩) #[(.agg #[.slice none 0 0, .slice none 0 0] : Value), .int .i64 0] rfl (by kernel_rfl) (by kernel_rfl) (by kernel_rfl)
      (OpenSpec.preRow_of_cond 8 hx (by rfl) (fun k hk => by cases hk) (by kernel_rfl) (laid_met os))) ?_
  intro W base args ds gs before hval0 hW _ hcond hsz hL hsh _
  have hval : ∀ (j : Nat) t v, Try.f12.params[j]? = some t → args[j]? = some v → Value.okWide Try.prog W .any base t v := hval0
  have hW' := hW
  obtain ⟨p, q, hA0, hV, rfl, hfz, hnd⟩ := hW
  have hA : DataW.TrodAll enc Try.prog W 0 (fun _ => true) true Try.f12.params.toList args.toList ds p := hA0
  rw [Try.params12] at hA hval
  obtain ⟨v0, vs0, d0, ds0, p0, q0, hargs, rfl, rfl, h0, r0⟩ := trodAll_cons hA
  obtain ⟨v1, vs1, d1, ds1, p1, q1, rfl, rfl, rfl, h1, r1⟩ := trodAll_cons r0
  obtain ⟨rfl, rfl, rfl⟩ := trodAll_nil r1
  obtain rfl : args = #[v0, v1] := by cases args; simp_all
  obtain ⟨rfl, rfl⟩ := trodVars_none hV
  obtain ⟨n1, rfl, rfl, rfl, b1⟩ := open_int Try.underlying3 (hval 1 3 v1 rfl rfl) h1
  clear hA0 hval0
  simp only [List.append_nil] at hW'
  refine (walk (enc := enc) W base v0 d0 p0 (hval 0 62 v0 rfl rfl) h0 (fun x hx => hW'.lt x (by simp [hx])) n1 b1 hL hsh).mono fun e W' ⟨he, hb⟩ => ⟨_, he, Fr.post_true laidOut (by kernel_rfl) (by kernel_rfl) Try.underlying4 rfl hW' (fun xs hx => by match xs, hx with | [x0, x1], _ => rfl) hb⟩
theorem said : Rows.FnExactPagesOnSaid :=
  OpenClaim.holds_of_cond 12 Try.f12 rfl rfl rfl rfl rfl rfl rfl ⟨rfl, rfl, rfl, rfl, rfl⟩ rfl rfl rfl rfl rfl (by kernel_rfl) Try.func12 (by kernel_rfl)
    (of_decide_eq_true (by kernel_rfl)) (by unfold Func.isWrapper; first | (rw [if_pos (by decide +kernel)]; kernel_rfl) | (rw [if_neg (by decide +kernel)]; exact ⟨rfl, rfl⟩))
    (fun os started H enc _ F => by rw [OpenClaim.pre_eq_preRow]; exact lifted os started H enc F)
#print axioms said
end Go.Proofs.Ytcpfnihpheoiiaa.fnExactPagesOn
