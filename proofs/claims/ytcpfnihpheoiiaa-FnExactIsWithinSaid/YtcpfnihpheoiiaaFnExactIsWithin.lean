/- For every argument the law FnExactIsWithin returns true. -/
import Derived.Test.YtcpfnihpheoiiaaRows
import Derived.Test.YtcpfnihpheoiiaaFrame
import Derived.Test.YtcpfnihpheoiiaaWithin
import Derived.Test.YtcpfnihpheoiiaaOpenT
import Derived.Test.YtcpfnihpheoiiaaTabL
import Derived.Test.YtcpfnihpheoiiaaOnly
import Derived.Deep.RegionHeld3
import Derived.Deep.Cut
import Derived.Deep.CutRange
namespace Go.Proofs.Ytcpfnihpheoiiaa.fnExactIsWithin
open Go.ChangeShapes Go.WideShapes Go.ChangeAt Go.RowKit
open Go.ChangeMaps (open_string shut_string)
open Go Go.Proofs.Ytcpfnihpheoiiaa.L4 Go.Proofs.Ytcpfnihpheoiiaa.Mem Go.Proofs.Ytcpfnihpheoiiaa.Own
set_option linter.unusedVariables false
theorem own : ownKnob Try.prog.godebug = none := by kernel_rfl
theorem laidOut : laidOutB Try.prog = true := by kernel_rfl
set_option maxRecDepth 100000 in
set_option maxHeartbeats 20000000 in
theorem big0 (W : World) (A0 : Option Addr) (n0 c0 : Nat) (D0 : Option Addr) (m0 d0 : Nat) (t0 : Tab) (hr0 : ReadsT W W.heap.size A0 n0 D0 m0 t0) (hx0 : n0 ≤ maxLen) (hk0 : m0 ≤ maxLen) (A1 : Option Addr) (n1 c1 : Nat) (zs1 : List Int) (hr1 : Reads W W.heap.size 1 A1 n1 (I zs1)) (hx1 : n1 ≤ maxLen) (n2 : Int) (hy0 : 1048576 < n1) :
    Calls Try.prog 13 #[.agg #[.slice A0 n0 c0, .slice D0 m0 d0], .slice A1 n1 c1, .int .i64 n2] W fun e W' => e = .returned (.bool true) ∧ Below W.heap.size W W' := by
  unfold maxLen at hx1
  have hW0 : Hid (Below W.heap.size W W) := Lib.hid (Below.refl _ _)
  replace hr0 := Lib.hid hr0
  replace hr1 := Lib.hid hr1
  go_enter Try.func13, Try.ntmps13
  obtain ⟨v1, hv⟩ : ∃ v1, W.alloc (.cells #[.slice A0 n0 c0, .slice D0 m0 d0] 62) = v1 := ⟨_, rfl⟩
  have hb : Below W.heap.size W v1 := by rw [← hv]; exact below_more (Below.refl _ _) _
  have o_a0 : Hid (Blk v1 W.heap.size 62 #[.slice A0 n0 c0, .slice D0 m0 d0]) := Lib.hid (by rw [← hv]; exact Blk.new _ _ _)
  have HV1 := Lib.hid hv
  clear hv
  have hW1 := Lib.hid (below_then hW0.out hb)
  have sz1 := Lib.hid o_a0.out.lt
  clear hb hW0
  go_wp2_with fail
  rw [HV1.out]
  clear HV1
  go_ret
  exact ⟨rfl, hW1.out⟩
set_option maxRecDepth 100000 in
set_option maxHeartbeats 20000000 in
theorem big1 (W : World) (A0 : Option Addr) (n0 c0 : Nat) (D0 : Option Addr) (m0 d0 : Nat) (t0 : Tab) (hr0 : ReadsT W W.heap.size A0 n0 D0 m0 t0) (hx0 : n0 ≤ maxLen) (hk0 : m0 ≤ maxLen) (A1 : Option Addr) (n1 c1 : Nat) (zs1 : List Int) (hr1 : Reads W W.heap.size 1 A1 n1 (I zs1)) (hx1 : n1 ≤ maxLen) (n2 : Int) (hy0 : n1 ≤ 1048576) (hy1 : 1048576 < (n0 + (m0 + tot t0.leaves))) :
    Calls Try.prog 13 #[.agg #[.slice A0 n0 c0, .slice D0 m0 d0], .slice A1 n1 c1, .int .i64 n2] W fun e W' => e = .returned (.bool true) ∧ Below W.heap.size W W' := by
  unfold maxLen at hx1
  have hW0 : Hid (Below W.heap.size W W) := Lib.hid (Below.refl _ _)
  replace hr0 := Lib.hid hr0
  replace hr1 := Lib.hid hr1
  go_enter Try.func13, Try.ntmps13
  obtain ⟨v1, hv⟩ : ∃ v1, W.alloc (.cells #[.slice A0 n0 c0, .slice D0 m0 d0] 62) = v1 := ⟨_, rfl⟩
  have hb : Below W.heap.size W v1 := by rw [← hv]; exact below_more (Below.refl _ _) _
  have o_a0 : Hid (Blk v1 W.heap.size 62 #[.slice A0 n0 c0, .slice D0 m0 d0]) := Lib.hid (by rw [← hv]; exact Blk.new _ _ _)
  have HV1 := Lib.hid hv
  clear hv
  have hW1 := Lib.hid (below_then hW0.out hb)
  have sz1 := Lib.hid o_a0.out.lt
  clear hb hW0
  have k_a0_0 : (W.alloc (.cells #[.slice A0 n0 c0, .slice D0 m0 d0] 62)).cell? ⟨W.heap.size, 0, none⟩ = some (.slice A0 n0 c0) := by rw [HV1.out]; exact o_a0.out.cell 0 _ rfl
  have k_a0_1 : (W.alloc (.cells #[.slice A0 n0 c0, .slice D0 m0 d0] 62)).cell? ⟨W.heap.size, 1, none⟩ = some (.slice D0 m0 d0) := by rw [HV1.out]; exact o_a0.out.cell 1 _ rfl
  go_wp2_with fail
  clear k_a0_0 k_a0_1
  rw [HV1.out]
  clear HV1
  refine (szTable_no A0 n0 c0 D0 m0 d0 t0 (1048576) _ (hr0.out.grow hW1.out) (by omega) (by omega) (by omega) hx0 hk0).mono ?_
  rintro e u2 ⟨rfl, hb⟩
  have hW2 := Lib.hid (below_then hW1.out hb)
  replace o_a0 := Lib.hid (o_a0.out.below hb)
  have sz2 := Lib.hid hb.size
  clear hb hW1
  go_wp2_with fail
  go_ret
  exact ⟨rfl, hW2.out⟩
set_option maxRecDepth 100000 in
set_option maxHeartbeats 20000000 in
theorem walk0 (W : World) (A0 : Option Addr) (n0 c0 : Nat) (D0 : Option Addr) (m0 d0 : Nat) (t0 : Tab) (hr0 : ReadsT W W.heap.size A0 n0 D0 m0 t0) (hx0 : n0 ≤ maxLen) (hk0 : m0 ≤ maxLen) (A1 : Option Addr) (n1 c1 : Nat) (zs1 : List Int) (hr1 : Reads W W.heap.size 1 A1 n1 (I zs1)) (hx1 : n1 ≤ maxLen) (n2 : Int) (hy0 : n1 ≤ 1048576) (hy1 : (n0 + (m0 + tot t0.leaves)) ≤ 1048576) :
    Calls Try.prog 13 #[.agg #[.slice A0 n0 c0, .slice D0 m0 d0], .slice A1 n1 c1, .int .i64 n2] W fun e W' => e = .returned (.bool true) ∧ Below W.heap.size W W' := by
  unfold maxLen at hx0 hx1
  have hn0 : n0 ≤ 1048576 := by omega
  have hm0 : m0 ≤ 1048576 := by omega
  have ht0 : tot t0.leaves ≤ 1048576 := by omega
  have hl0 : ∀ xs ∈ t0.leaves, xs.length ≤ 1048576 := fun xs hh => by have := len_le_tot hh; omega
  have hn1 : n1 ≤ 1048576 := by omega
  have HS := Lib.hid fun (A5 D5 A6 : Option Addr) (w : World) (hx : ReadsT w w.heap.size A5 n0 D5 m0 t0) (hx1' : Reads w w.heap.size 1 A6 n1 (I zs1)) => specWithin_any A5 n0 n0 D5 m0 m0 t0 A6 n1 n1 zs1 n2 w hx hn0 hm0 hl0 (Nat.le_refl _) hx1' hn1
  have HI := Lib.hid fun (A5 D5 A6 : Option Addr) (w : World) (hx : ReadsT w w.heap.size A5 n0 D5 m0 t0) (hx1' : Reads w w.heap.size 1 A6 n1 (I zs1)) => implWithin_any A5 n0 n0 D5 m0 m0 t0 A6 n1 n1 zs1 n2 w hx hn0 hm0 hl0 hx1' hn1
  obtain ⟨r, hr_⟩ : ∃ r, withinOf t0 zs1 n2 = r := ⟨_, rfl⟩
  rw [hr_] at HS HI
  clear hr_
  obtain ⟨r0, r1⟩ := r
  dsimp only at HS HI
  replace hr0 := Lib.hid hr0
  replace hr1 := Lib.hid hr1
  have hW0 : Hid (Below W.heap.size W W) := Lib.hid (Below.refl _ _)
  go_enter Try.func13, Try.ntmps13
  obtain ⟨v1, hv⟩ : ∃ v1, W.alloc (.cells #[.slice A0 n0 c0, .slice D0 m0 d0] 62) = v1 := ⟨_, rfl⟩
  have hb : Below W.heap.size W v1 := by rw [← hv]; exact below_more (Below.refl _ _) _
  have o_a0 : Hid (Blk v1 W.heap.size 62 #[.slice A0 n0 c0, .slice D0 m0 d0]) := Lib.hid (by rw [← hv]; exact Blk.new _ _ _)
  have HV1 := Lib.hid hv
  clear hv
  have hW1 := Lib.hid (below_then hW0.out hb)
  have sz1 := Lib.hid o_a0.out.lt
  clear hb hW0
  have k_a0_0 : (W.alloc (.cells #[.slice A0 n0 c0, .slice D0 m0 d0] 62)).cell? ⟨W.heap.size, 0, none⟩ = some (.slice A0 n0 c0) := by rw [HV1.out]; exact o_a0.out.cell 0 _ rfl
  have k_a0_1 : (W.alloc (.cells #[.slice A0 n0 c0, .slice D0 m0 d0] 62)).cell? ⟨W.heap.size, 1, none⟩ = some (.slice D0 m0 d0) := by rw [HV1.out]; exact o_a0.out.cell 1 _ rfl
  go_wp2_with fail
  clear k_a0_0 k_a0_1
  rw [HV1.out]
  clear HV1
  refine (szTable_yes A0 n0 c0 D0 m0 d0 t0 (1048576) _ (hr0.out.grow hW1.out) (by omega) (by omega)).mono ?_
  rintro e u2 ⟨rfl, hb⟩
  have hW2 := Lib.hid (below_then hW1.out hb)
  replace o_a0 := Lib.hid (o_a0.out.below hb)
  have sz2 := Lib.hid hb.size
  clear hb hW1
  have k_a0_0 : u2.cell? ⟨W.heap.size, 0, none⟩ = some (.slice A0 n0 c0) := o_a0.out.cell 0 _ rfl
  have k_a0_1 : u2.cell? ⟨W.heap.size, 1, none⟩ = some (.slice D0 m0 d0) := o_a0.out.cell 1 _ rfl
  go_wp2_with fail
  clear k_a0_0 k_a0_1
  refine (toTable_any A0 n0 c0 D0 m0 d0 _ t0 _ ((hr0.out.below hW2.out).more hW2.out.size) (Nat.le_refl _) hn0 hm0 hl0).mono ?_
  rintro e u3 ⟨g_t0, e_t0, rfl, h_t0, hb⟩
  have hW3 := Lib.hid (below_then hW2.out hb)
  replace o_a0 := Lib.hid (o_a0.out.below hb)
  have sz3 := Lib.hid hb.size
  clear hb hW2
  have o_t0 : Hid (OwnT u3 u2.heap.size u3.heap.size (some ⟨g_t0, 0, none⟩) n0 n0 (some ⟨e_t0, 0, none⟩) m0 m0 t0) := Lib.hid (by first | exact h_t0 | exact Row.of h_t0)
  clear h_t0
  go_wp2_with fail
  refine (toIntS_any A1 n1 c1 _ zs1 _ ((hr1.out.below hW3.out).more hW3.out.size) (Nat.le_refl _) hn1).mono ?_
  rintro e u4 ⟨g_t1, rfl, h_t1, hb⟩
  have hW4 := Lib.hid (below_then hW3.out hb)
  replace o_a0 := Lib.hid (o_a0.out.below hb)
  replace o_t0 := Lib.hid (o_t0.out.below hb)
  have sz4 := Lib.hid hb.size
  clear hb hW3
  have o_t1 : Hid (Row u4 u3.heap.size u4.heap.size 3 1 (.slice (some ⟨g_t1, 0, none⟩) n1 n1) n1 (I zs1)) := Lib.hid (by first | exact h_t1 | exact Row.of h_t1)
  clear h_t1
  go_wp2_with fail
  refine (HS.out _ _ _ _ o_t0.out.reads o_t1.out.reads).mono ?_
  rintro e u5 ⟨rfl, hb⟩
  have hW5 := Lib.hid (below_then hW4.out hb)
  replace o_a0 := Lib.hid (o_a0.out.below hb)
  replace o_t0 := Lib.hid (o_t0.out.below hb)
  replace o_t1 := Lib.hid (o_t1.out.below hb)
  have sz5 := Lib.hid hb.size
  clear hb hW4
  clear o_t0
  clear o_t1
  have k_a0_0 : u5.cell? ⟨W.heap.size, 0, none⟩ = some (.slice A0 n0 c0) := o_a0.out.cell 0 _ rfl
  have k_a0_1 : u5.cell? ⟨W.heap.size, 1, none⟩ = some (.slice D0 m0 d0) := o_a0.out.cell 1 _ rfl
  go_wp2_with fail
  clear k_a0_0 k_a0_1
  refine (toTable_any A0 n0 c0 D0 m0 d0 _ t0 _ ((hr0.out.below hW5.out).more hW5.out.size) (Nat.le_refl _) hn0 hm0 hl0).mono ?_
  rintro e u6 ⟨g_x0, e_x0, rfl, h_x0, hb⟩
  have hW6 := Lib.hid (below_then hW5.out hb)
  replace o_a0 := Lib.hid (o_a0.out.below hb)
  have sz6 := Lib.hid hb.size
  clear hb hW5
  have o_x0 : Hid (OwnT u6 u5.heap.size u6.heap.size (some ⟨g_x0, 0, none⟩) n0 n0 (some ⟨e_x0, 0, none⟩) m0 m0 t0) := Lib.hid (by first | exact h_x0 | exact Row.of h_x0)
  clear h_x0
  obtain ⟨v7, hv⟩ : ∃ v7, u6.alloc (.cells #[.slice (some ⟨g_x0, 0, none⟩) n0 n0, .slice (some ⟨e_x0, 0, none⟩) m0 m0] 27) = v7 := ⟨_, rfl⟩
  have hb : Below u6.heap.size u6 v7 := by rw [← hv]; exact below_more (Below.refl _ _) _
  have o_Lx0 : Hid (Blk v7 u6.heap.size 27 #[.slice (some ⟨g_x0, 0, none⟩) n0 n0, .slice (some ⟨e_x0, 0, none⟩) m0 m0]) := Lib.hid (by rw [← hv]; exact Blk.new _ _ _)
  have HV7 := Lib.hid hv
  clear hv
  have hW7 := Lib.hid (below_then hW6.out hb)
  replace o_a0 := Lib.hid (o_a0.out.below hb)
  replace o_x0 := Lib.hid (o_x0.out.below hb)
  have sz7 := Lib.hid o_Lx0.out.lt
  clear hb hW6
  go_wp2_with fail
  rw [HV7.out]
  clear HV7
  refine (toIntS_any A1 n1 c1 _ zs1 _ ((hr1.out.below hW7.out).more hW7.out.size) (Nat.le_refl _) hn1).mono ?_
  rintro e u8 ⟨g_x1, rfl, h_x1, hb⟩
  have hW8 := Lib.hid (below_then hW7.out hb)
  replace o_a0 := Lib.hid (o_a0.out.below hb)
  replace o_x0 := Lib.hid (o_x0.out.below hb)
  replace o_Lx0 := Lib.hid (o_Lx0.out.below hb)
  have sz8 := Lib.hid hb.size
  clear hb hW7
  have o_x1 : Hid (Row u8 v7.heap.size u8.heap.size 3 1 (.slice (some ⟨g_x1, 0, none⟩) n1 n1) n1 (I zs1)) := Lib.hid (by first | exact h_x1 | exact Row.of h_x1)
  clear h_x1
  have k_Lx0_0 : u8.cell? ⟨u6.heap.size, 0, none⟩ = some (.slice (some ⟨g_x0, 0, none⟩) n0 n0) := o_Lx0.out.cell 0 _ rfl
  have k_Lx0_1 : u8.cell? ⟨u6.heap.size, 1, none⟩ = some (.slice (some ⟨e_x0, 0, none⟩) m0 m0) := o_Lx0.out.cell 1 _ rfl
  go_wp2_with fail
  clear k_Lx0_0 k_Lx0_1
  refine (HI.out _ _ _ _ o_x0.out.reads o_x1.out.reads).mono ?_
  rintro e u9 ⟨rfl, hb⟩
  have hW9 := Lib.hid (below_then hW8.out hb)
  replace o_a0 := Lib.hid (o_a0.out.below hb)
  replace o_x0 := Lib.hid (o_x0.out.below hb)
  replace o_Lx0 := Lib.hid (o_Lx0.out.below hb)
  replace o_x1 := Lib.hid (o_x1.out.below hb)
  have sz9 := Lib.hid hb.size
  clear hb hW8
  go_wp2_with fail
  have k_Lx0_0 : u9.cell? ⟨u6.heap.size, 0, none⟩ = some (.slice (some ⟨g_x0, 0, none⟩) n0 n0) := o_Lx0.out.cell 0 _ rfl
  have k_Lx0_1 : u9.cell? ⟨u6.heap.size, 1, none⟩ = some (.slice (some ⟨e_x0, 0, none⟩) m0 m0) := o_Lx0.out.cell 1 _ rfl
  have k_a0_0 : u9.cell? ⟨W.heap.size, 0, none⟩ = some (.slice A0 n0 c0) := o_a0.out.cell 0 _ rfl
  have k_a0_1 : u9.cell? ⟨W.heap.size, 1, none⟩ = some (.slice D0 m0 d0) := o_a0.out.cell 1 _ rfl
  go_region_held3 (fun w' => w'.cell? ⟨u6.heap.size, 0, none⟩ = some (.slice (some ⟨g_x0, 0, none⟩) n0 n0) ∧ w'.cell? ⟨u6.heap.size, 1, none⟩ = some (.slice (some ⟨e_x0, 0, none⟩) m0 m0) ∧ w'.cell? ⟨W.heap.size, 0, none⟩ = some (.slice A0 n0 c0) ∧ w'.cell? ⟨W.heap.size, 1, none⟩ = some (.slice D0 m0 d0)) (first | exact ⟨k_Lx0_0, k_Lx0_1, k_a0_0, k_a0_1⟩ | go_keep)
    (first
      | (go_at_call 54; refine (toTable_any A0 n0 c0 D0 m0 d0 _ t0 _ ((hr0.out.below hW9.out).more hW9.out.size).drew (Nat.le_refl _) hn0 hm0 hl0).mono ?_; rintro e u10 ⟨g_y0, e_y0, rfl, h_y0, hb⟩; replace hb := below_then (below_drew1 _) hb; have hW10 := Lib.hid (below_then hW9.out hb); replace o_a0 := Lib.hid (o_a0.out.below hb); replace o_x0 := Lib.hid (o_x0.out.below hb); replace o_Lx0 := Lib.hid (o_Lx0.out.below hb); replace o_x1 := Lib.hid (o_x1.out.below hb); have sz10 := Lib.hid hb.size; clear hb hW9; have o_y0 : Hid (OwnT u10 u9.heap.size u10.heap.size (some ⟨g_y0, 0, none⟩) n0 n0 (some ⟨e_y0, 0, none⟩) m0 m0 t0) := Lib.hid (by first | exact h_y0 | exact Row.of h_y0); clear h_y0; clear k_Lx0_0 k_Lx0_1 k_a0_0 k_a0_1; have k_Lx0_0 : u10.cell? ⟨u6.heap.size, 0, none⟩ = some (.slice (some ⟨g_x0, 0, none⟩) n0 n0) := o_Lx0.out.cell 0 _ rfl; have k_Lx0_1 : u10.cell? ⟨u6.heap.size, 1, none⟩ = some (.slice (some ⟨e_x0, 0, none⟩) m0 m0) := o_Lx0.out.cell 1 _ rfl; have k_a0_0 : u10.cell? ⟨W.heap.size, 0, none⟩ = some (.slice A0 n0 c0) := o_a0.out.cell 0 _ rfl; have k_a0_1 : u10.cell? ⟨W.heap.size, 1, none⟩ = some (.slice D0 m0 d0) := o_a0.out.cell 1 _ rfl)
      | (go_at_call 48; refine (eqTable_step _ _ _ _ _ _ _ _ _ _ t0 _ hn0 hm0 hl0 o_x0.out.reads o_y0.out.reads).mono ?_; rintro e u11 ⟨rfl, hb⟩; have hW11 := Lib.hid (below_then hW10.out hb); replace o_a0 := Lib.hid (o_a0.out.below hb); replace o_x0 := Lib.hid (o_x0.out.below hb); replace o_Lx0 := Lib.hid (o_Lx0.out.below hb); replace o_x1 := Lib.hid (o_x1.out.below hb); replace o_y0 := Lib.hid (o_y0.out.below hb); have sz11 := Lib.hid hb.size; clear hb hW10; clear k_Lx0_0 k_Lx0_1 k_a0_0 k_a0_1; have k_Lx0_0 : u11.cell? ⟨u6.heap.size, 0, none⟩ = some (.slice (some ⟨g_x0, 0, none⟩) n0 n0) := o_Lx0.out.cell 0 _ rfl; have k_Lx0_1 : u11.cell? ⟨u6.heap.size, 1, none⟩ = some (.slice (some ⟨e_x0, 0, none⟩) m0 m0) := o_Lx0.out.cell 1 _ rfl; have k_a0_0 : u11.cell? ⟨W.heap.size, 0, none⟩ = some (.slice A0 n0 c0) := o_a0.out.cell 0 _ rfl; have k_a0_1 : u11.cell? ⟨W.heap.size, 1, none⟩ = some (.slice D0 m0 d0) := o_a0.out.cell 1 _ rfl))
  clear k_Lx0_0 k_Lx0_1 k_a0_0 k_a0_1
  clear o_y0
  go_wp2_with fail
  refine (toIntS_any A1 n1 c1 _ zs1 _ ((hr1.out.below hW11.out).more hW11.out.size) (Nat.le_refl _) hn1).mono ?_
  rintro e u12 ⟨g_y1, rfl, h_y1, hb⟩
  have hW12 := Lib.hid (below_then hW11.out hb)
  replace o_a0 := Lib.hid (o_a0.out.below hb)
  replace o_x0 := Lib.hid (o_x0.out.below hb)
  replace o_Lx0 := Lib.hid (o_Lx0.out.below hb)
  replace o_x1 := Lib.hid (o_x1.out.below hb)
  have sz12 := Lib.hid hb.size
  clear hb hW11
  have o_y1 : Hid (Row u12 u11.heap.size u12.heap.size 3 1 (.slice (some ⟨g_y1, 0, none⟩) n1 n1) n1 (I zs1)) := Lib.hid (by first | exact h_y1 | exact Row.of h_y1)
  clear h_y1
  go_wp2_with fail
  refine (eq_step _ _ _ _ _ zs1 _ hn1 o_x1.out.reads o_y1.out.reads).mono ?_
  rintro e u13 ⟨rfl, hb⟩
  have hW13 := Lib.hid (below_then hW12.out hb)
  replace o_a0 := Lib.hid (o_a0.out.below hb)
  replace o_x0 := Lib.hid (o_x0.out.below hb)
  replace o_Lx0 := Lib.hid (o_Lx0.out.below hb)
  replace o_x1 := Lib.hid (o_x1.out.below hb)
  replace o_y1 := Lib.hid (o_y1.out.below hb)
  have sz13 := Lib.hid hb.size
  clear hb hW12
  clear o_y1
  go_wp2_with fail
  go_ret
  exact ⟨rfl, hW13.out⟩

set_option maxHeartbeats 4000000 in
set_option maxRecDepth 100000 in
/-- the law's Go text returns true, and nothing that was there has turned -/
theorem walk {H : Type} {enc : TypeId × Value → H} (W : World) (base : Nat) (v0 : Value) (d0 : DataW H) (p0 : List MemPlace) (q0 : Value.okWide Try.prog W .any base 62 v0) (h0 : DataW.Trod enc Try.prog W 0 (fun _ => true) true 62 v0 d0 p0) (l0 : ∀ x ∈ p0, x.block < W.heap.size) (v1 : Value) (d1 : DataW H) (p1 : List MemPlace) (q1 : Value.okWide Try.prog W .any base 24 v1) (h1 : DataW.Trod enc Try.prog W 0 (fun _ => true) true 24 v1 d1 p1) (l1 : ∀ x ∈ p1, x.block < W.heap.size) (n2 : Int) (b2 : (Lit.int .i64 n2).wf = true) (hL : laidMetH Try.prog Rows.fnExactIsWithinRow.laid W) (hsh : W.ShapedOpen Try.prog) :
    Calls Try.prog 13 #[v0, v1, .int .i64 n2] W fun e W' => e = .returned (.bool true) ∧ Below W.heap.size W W' := by
  obtain ⟨A0, n0, c0, D0, m0, d0, t0, rfl, hx0, hk0, hr0⟩ := open_table q0 h0
  obtain ⟨A1, n1, c1, zs1, rfl, h11, h21, _, _, hr1⟩ := open_nums Try.underlying24 Try.underlying3 (by kernel_rfl) q1 h1
  have hx1 := Nat.le_trans h11 h21
  change Reads W W.heap.size 1 A1 n1 (I zs1) at hr1
  by_cases hy0 : 1048576 < n1
  · exact big0 W A0 n0 c0 D0 m0 d0 t0 hr0 hx0 hk0 A1 n1 c1 zs1 hr1 hx1 n2  hy0
  by_cases hy1 : 1048576 < (n0 + (m0 + tot t0.leaves))
  · exact big1 W A0 n0 c0 D0 m0 d0 t0 hr0 hx0 hk0 A1 n1 c1 zs1 hr1 hx1 n2 (by omega) hy1
  exact walk0 W A0 n0 c0 D0 m0 d0 t0 hr0 hx0 hk0 A1 n1 c1 zs1 hr1 hx1 n2 (by omega) (by omega)
theorem laid_met (os : Os) : laidMetH Try.prog Rows.fnExactIsWithinRow.laid ((World.holding Try.prog os ⟨#[], #[], []⟩).forCall (fun _ _ => 0) ⟨#[], #[(.agg #[.slice none 0 0, .slice none 0 0] : Value), .slice none 0 0, .int .i64 0], []⟩).memory := ⟨[], rfl, List.nodup_nil, fun _ _ h => by cases h⟩
theorem reads (os : Os) {H : Type} (enc : TypeId × Value → H) : (DataW.whole enc Try.prog ((World.holding Try.prog os ⟨#[], #[], []⟩).forCall (fun _ _ => 0) ⟨#[], #[(.agg #[.slice none 0 0, .slice none 0 0] : Value), .slice none 0 0, .int .i64 0], []⟩).memory Try.f13.params.toList Rows.fnExactIsWithinSpec.vars false #[(.agg #[.slice none 0 0, .slice none 0 0] : Value), .slice none 0 0, .int .i64 0].toList 8).isSome = true := by kernel_rfl
set_option maxRecDepth 100000 in
theorem lifted (os : Os) (started : os.Started) (H : Type) (enc : TypeId × Value → H) (F : Stop.Interp) :
    ReturnsInHanded {} Try.checked os 13 .any ((OpenSpec.ofChange Rows.fnExactIsWithinSpec).preRow enc Try.prog Try.f13 Rows.fnExactIsWithinRow.domain false Rows.fnExactIsWithinRow.laid) (((OpenSpec.ofChange Rows.fnExactIsWithinSpec).at F).post enc Try.prog Try.f13 false true false false) := by
  obtain ⟨x, hx⟩ := Option.isSome_iff_exists.1 (reads os enc)
  refine returnsInHanded_of_row (C := Try.checked) (s := OpenSpec.ofChange Rows.fnExactIsWithinSpec) own started (by kernel_rfl) Try.func13
    (witness_row_at (enc := enc) (C := Try.checked) false (World.holding Try.prog os ⟨#[], #[], []⟩) #[(.agg #[.slice none 0 0, .slice none 0 0] : Value), .slice none 0 0, .int .i64 0] rfl (by kernel_rfl) (by kernel_rfl) (by kernel_rfl)
      (OpenSpec.preRow_of_cond 8 hx (by rfl) (fun k hk => by cases hk) (by kernel_rfl) (laid_met os))) ?_
  intro W base args ds gs before hval0 hW _ hcond hsz hL hsh _
  have hval : ∀ (j : Nat) t v, Try.f13.params[j]? = some t → args[j]? = some v → Value.okWide Try.prog W .any base t v := hval0
  have hW' := hW
  obtain ⟨p, q, hA0, hV, rfl, hfz, hnd⟩ := hW
  have hA : DataW.TrodAll enc Try.prog W 0 (fun _ => true) true Try.f13.params.toList args.toList ds p := hA0
  rw [Try.params13] at hA hval
  obtain ⟨v0, vs0, d0, ds0, p0, q0, hargs, rfl, rfl, h0, r0⟩ := trodAll_cons hA
  obtain ⟨v1, vs1, d1, ds1, p1, q1, rfl, rfl, rfl, h1, r1⟩ := trodAll_cons r0
  obtain ⟨v2, vs2, d2, ds2, p2, q2, rfl, rfl, rfl, h2, r2⟩ := trodAll_cons r1
  obtain ⟨rfl, rfl, rfl⟩ := trodAll_nil r2
  obtain rfl : args = #[v0, v1, v2] := by cases args; simp_all
  obtain ⟨rfl, rfl⟩ := trodVars_none hV
  obtain ⟨n2, rfl, rfl, rfl, b2⟩ := open_int Try.underlying3 (hval 2 3 v2 rfl rfl) h2
  clear hA0 hval0
  simp only [List.append_nil] at hW'
  refine (walk (enc := enc) W base v0 d0 p0 (hval 0 62 v0 rfl rfl) h0 (fun x hx => hW'.lt x (by simp [hx])) v1 d1 p1 (hval 1 24 v1 rfl rfl) h1 (fun x hx => hW'.lt x (by simp [hx])) n2 b2 hL hsh).mono fun e W' ⟨he, hb⟩ => ⟨_, he, Fr.post_true laidOut (by kernel_rfl) (by kernel_rfl) Try.underlying4 rfl hW' (fun xs hx => by match xs, hx with | [x0, x1, x2], _ => rfl) hb⟩
theorem said : Rows.FnExactIsWithinSaid :=
  OpenClaim.holds_of_cond 13 Try.f13 rfl rfl rfl rfl rfl rfl rfl ⟨rfl, rfl, rfl, rfl, rfl⟩ rfl rfl rfl rfl rfl (by kernel_rfl) Try.func13 (by kernel_rfl)
    (of_decide_eq_true (by kernel_rfl)) (by unfold Func.isWrapper; first | (rw [if_pos (by decide +kernel)]; kernel_rfl) | (rw [if_neg (by decide +kernel)]; exact ⟨rfl, rfl⟩))
    (fun os started H enc _ F => by rw [OpenClaim.pre_eq_preRow]; exact lifted os started H enc F)
#print axioms said
end Go.Proofs.Ytcpfnihpheoiiaa.fnExactIsWithin
