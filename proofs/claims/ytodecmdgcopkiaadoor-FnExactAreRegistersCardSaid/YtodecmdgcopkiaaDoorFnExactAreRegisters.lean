/- For every argument the law FnExactAreRegisters returns true; the listed variables read as the program's text lays them (the card ties them). -/
import Derived.Test.YtodecmdgcopkiaaDoorCards
import Derived.Test.YtodecmdgcopkiaaDoorTie
import Derived.Test.YtodecmdgcopkiaaDoorFrame
import Derived.Test.YtodecmdgcopkiaaDoorAre
import Derived.Test.YtodecmdgcopkiaaDoorOpenI
import Derived.Deep.RegionHeld3
namespace Go.Proofs.YtodecmdgcopkiaaDoor.fnExactAreRegisters
open Go.ChangeShapes Go.WideShapes Go.ChangeAt Go.RowKit
open Go.ChangeMaps (open_string shut_string)
open Go Go.Proofs.YtodecmdgcopkiaaDoor.L3 Go.Proofs.YtodecmdgcopkiaaDoor.Mem Go.Proofs.YtodecmdgcopkiaaDoor.Own
set_option linter.unusedVariables false
theorem own : ownKnob Tryd.prog.godebug = none := by kernel_rfl
theorem laidOut : laidOutB Tryd.prog = true := by kernel_rfl
theorem below_drew1 (w : World) : Below w.heap.size w w.drew := ⟨rfl, rfl, rfl, Nat.le_refl _, fun _ _ => rfl⟩
theorem tab {W : World} (h : laidMetH Tryd.prog Rows.fnExactAreRegistersRow.laid W) : OpsIs W := opsIs_of_mem h (.head _)
set_option maxRecDepth 100000 in
set_option maxHeartbeats 20000000 in
theorem big0 (W : World) (A0 : Option Addr) (n0 c0 : Nat) (xs0 : List Ins) (hr0 : Reads W W.heap.size 4 A0 n0 (FL xs0)) (hx0 : n0 ≤ maxLen) (A1 : Option Addr) (n1 c1 : Nat) (zs1 : List Int) (p1 : Int) (z1 s1 : Bool) (hr1 : Reads W W.heap.size 1 A1 n1 (I zs1)) (hx1 : n1 ≤ maxLen) (hy0 : 1048576 < n0) :
    Calls Tryd.prog 7 #[.slice A0 n0 c0, .agg #[.slice A1 n1 c1, .int .i64 p1, .bool z1, .bool s1]] W fun e W' => e = .returned (.bool true) ∧ Below W.heap.size W W' := by
  unfold maxLen at hx0 hx1
  have hW0 : Hid (Below W.heap.size W W) := Lib.hid (Below.refl _ _)
  clear hr0 hr1
  go_enter Tryd.func7, Tryd.ntmps7
  obtain ⟨v1, hv⟩ : ∃ v1, W.alloc (.cells #[.slice A1 n1 c1, .int .i64 p1, .bool z1, .bool s1] 65) = v1 := ⟨_, rfl⟩
  have hb : Below W.heap.size W v1 := by rw [← hv]; exact below_more (Below.refl _ _) _
  have h_a1 : v1.ownsRow W.heap.size 65 4 (.slice (some ⟨W.heap.size, 0, none⟩) 1 1) 1 [.slice A1 n1 c1, .int .i64 p1, .bool z1, .bool s1] := by rw [← hv]; exact World.ownsRow_lit W #[.slice A1 n1 c1, .int .i64 p1, .bool z1, .bool s1] 1 (Nat.le_refl _) (by unfold maxLen; decide) rfl
  have HV1 := Lib.hid hv
  clear hv
  have hs := hW0.out.size
  have hW1 := Lib.hid (below_then hW0.out hb)
  clear hb hW0
  have o_a1 := Lib.hid (own_mono h_a1 (b' := W.heap.size) hs)
  clear h_a1
  clear hs
  go_wp2_with fail
  rw [HV1.out]
  clear HV1
  refine (szInstructionS_no A0 n0 c0 (1048576) (by omega) (by omega) _ (by omega) (by omega)).mono ?_
  rintro e w0 ⟨rfl, hw⟩
  subst hw
  go_wp2_with fail
  go_ret
  exact ⟨rfl, hW1.out⟩
set_option maxRecDepth 100000 in
set_option maxHeartbeats 20000000 in
theorem big1 (W : World) (A0 : Option Addr) (n0 c0 : Nat) (xs0 : List Ins) (hr0 : Reads W W.heap.size 4 A0 n0 (FL xs0)) (hx0 : n0 ≤ maxLen) (A1 : Option Addr) (n1 c1 : Nat) (zs1 : List Int) (p1 : Int) (z1 s1 : Bool) (hr1 : Reads W W.heap.size 1 A1 n1 (I zs1)) (hx1 : n1 ≤ maxLen) (hy0 : n0 ≤ 1048576) (hy1 : 1048576 < n0 + n1) :
    Calls Tryd.prog 7 #[.slice A0 n0 c0, .agg #[.slice A1 n1 c1, .int .i64 p1, .bool z1, .bool s1]] W fun e W' => e = .returned (.bool true) ∧ Below W.heap.size W W' := by
  unfold maxLen at hx0 hx1
  have hW0 : Hid (Below W.heap.size W W) := Lib.hid (Below.refl _ _)
  clear hr0 hr1
  go_enter Tryd.func7, Tryd.ntmps7
  obtain ⟨v1, hv⟩ : ∃ v1, W.alloc (.cells #[.slice A1 n1 c1, .int .i64 p1, .bool z1, .bool s1] 65) = v1 := ⟨_, rfl⟩
  have hb : Below W.heap.size W v1 := by rw [← hv]; exact below_more (Below.refl _ _) _
  have h_a1 : v1.ownsRow W.heap.size 65 4 (.slice (some ⟨W.heap.size, 0, none⟩) 1 1) 1 [.slice A1 n1 c1, .int .i64 p1, .bool z1, .bool s1] := by rw [← hv]; exact World.ownsRow_lit W #[.slice A1 n1 c1, .int .i64 p1, .bool z1, .bool s1] 1 (Nat.le_refl _) (by unfold maxLen; decide) rfl
  have HV1 := Lib.hid hv
  clear hv
  have hs := hW0.out.size
  have hW1 := Lib.hid (below_then hW0.out hb)
  clear hb hW0
  have o_a1 := Lib.hid (own_mono h_a1 (b' := W.heap.size) hs)
  clear h_a1
  clear hs
  go_wp2_with fail
  rw [HV1.out]
  clear HV1
  refine (szInstructionS_yes A0 n0 c0 (1048576) (by omega) _ (by omega)).mono ?_
  rintro e w0 ⟨rfl, hw⟩
  subst hw
  have k_a1_0 : v1.cell? ⟨W.heap.size, 0, none⟩ = some (.slice A1 n1 c1) := o_a1.out.cellAt 0 (by decide)
  have k_a1_1 : v1.cell? ⟨W.heap.size, 1, none⟩ = some (.int .i64 p1) := o_a1.out.cellAt 1 (by decide)
  have k_a1_2 : v1.cell? ⟨W.heap.size, 2, none⟩ = some (.bool z1) := o_a1.out.cellAt 2 (by decide)
  have k_a1_3 : v1.cell? ⟨W.heap.size, 3, none⟩ = some (.bool s1) := o_a1.out.cellAt 3 (by decide)
  go_wp2_with fail
  clear k_a1_0 k_a1_1 k_a1_2 k_a1_3
  have p_a1 := o_a1.out
  refine (szRegisters_no A1 n1 c1 p1 z1 s1 (1048576 - n0) (by omega) (by omega) _ (by omega) (by omega)).mono ?_
  rintro e u2 ⟨rfl, hb⟩
  clear p_a1
  have hs := hW1.out.size
  have hW2 := Lib.hid (below_then hW1.out hb)
  replace o_a1 := Lib.hid (own_below o_a1.out hb)
  clear hb hW1
  clear hs
  go_wp2_with fail
  go_ret
  exact ⟨rfl, hW2.out⟩
set_option maxRecDepth 100000 in
set_option maxHeartbeats 20000000 in
theorem walk0 (W : World) (A0 : Option Addr) (n0 c0 : Nat) (xs0 : List Ins) (hr0 : Reads W W.heap.size 4 A0 n0 (FL xs0)) (hx0 : n0 ≤ maxLen) (A1 : Option Addr) (n1 c1 : Nat) (zs1 : List Int) (p1 : Int) (z1 s1 : Bool) (hr1 : Reads W W.heap.size 1 A1 n1 (I zs1)) (hx1 : n1 ≤ maxLen) (hy : n0 + n1 ≤ 1048576) (ho : OpsIs W) :
    Calls Tryd.prog 7 #[.slice A0 n0 c0, .agg #[.slice A1 n1 c1, .int .i64 p1, .bool z1, .bool s1]] W fun e W' => e = .returned (.bool true) ∧ Below W.heap.size W W' := by
  unfold maxLen at hx0 hx1
  have hn0 : n0 ≤ 1048576 := by omega
  have hn1 : n1 ≤ 1048576 := by omega
  have HO := Lib.hid ho
  clear ho
  obtain ⟨b, hb⟩ : ∃ b, decide (OkG xs0 ⟨zs1, p1, z1, s1⟩) = b := ⟨_, rfl⟩
  have HB := Lib.hid hb
  clear hb
  have HS := Lib.hid fun (A' : Option Addr) (c' : Nat) (A'' : Option Addr) (c'' : Nat) (w : World) (hx : Reads w w.heap.size 4 A' n0 (FL xs0)) (hx' : Reads w w.heap.size 1 A'' n1 (I zs1)) => specAre_any A' A'' n0 c' n1 c'' xs0 ⟨zs1, p1, z1, s1⟩ w hx hn0 hx' hn1 b HB.out
  have HI := Lib.hid fun (A' : Option Addr) (c' : Nat) (A'' : Option Addr) (c'' : Nat) (w : World) (hx : Reads w w.heap.size 4 A' n0 (FL xs0)) (hx' : Reads w w.heap.size 1 A'' n1 (I zs1)) (ho : OpsIs w) => implAre_any A' A'' n0 c' n1 c'' xs0 ⟨zs1, p1, z1, s1⟩ w hx hn0 hx' hn1 ho b HB.out
  replace hr0 := Lib.hid hr0
  replace hr1 := Lib.hid hr1
  have hW0 : Hid (Below W.heap.size W W) := Lib.hid (Below.refl _ _)
  go_enter Tryd.func7, Tryd.ntmps7
  obtain ⟨v1, hv⟩ : ∃ v1, W.alloc (.cells #[.slice A1 n1 c1, .int .i64 p1, .bool z1, .bool s1] 65) = v1 := ⟨_, rfl⟩
  have hb : Below W.heap.size W v1 := by rw [← hv]; exact below_more (Below.refl _ _) _
  have h_a1 : v1.ownsRow W.heap.size 65 4 (.slice (some ⟨W.heap.size, 0, none⟩) 1 1) 1 [.slice A1 n1 c1, .int .i64 p1, .bool z1, .bool s1] := by rw [← hv]; exact World.ownsRow_lit W #[.slice A1 n1 c1, .int .i64 p1, .bool z1, .bool s1] 1 (Nat.le_refl _) (by unfold maxLen; decide) rfl
  have HV1 := Lib.hid hv
  clear hv
  have hs := hW0.out.size
  have hW1 := Lib.hid (below_then hW0.out hb)
  clear hb hW0
  have o_a1 := Lib.hid (own_mono h_a1 (b' := W.heap.size) hs)
  clear h_a1
  clear hs
  go_wp2_with fail
  rw [HV1.out]
  clear HV1
  refine (szInstructionS_yes A0 n0 c0 (1048576) (by omega) _ (by omega)).mono ?_
  rintro e w0 ⟨rfl, hw⟩
  subst hw
  have k_a1_0 : v1.cell? ⟨W.heap.size, 0, none⟩ = some (.slice A1 n1 c1) := o_a1.out.cellAt 0 (by decide)
  have k_a1_1 : v1.cell? ⟨W.heap.size, 1, none⟩ = some (.int .i64 p1) := o_a1.out.cellAt 1 (by decide)
  have k_a1_2 : v1.cell? ⟨W.heap.size, 2, none⟩ = some (.bool z1) := o_a1.out.cellAt 2 (by decide)
  have k_a1_3 : v1.cell? ⟨W.heap.size, 3, none⟩ = some (.bool s1) := o_a1.out.cellAt 3 (by decide)
  go_wp2_with fail
  clear k_a1_0 k_a1_1 k_a1_2 k_a1_3
  have p_a1 := o_a1.out
  refine (szRegisters_yes A1 n1 c1 p1 z1 s1 (1048576 - n0) (by omega) _ (by omega)).mono ?_
  rintro e u2 ⟨rfl, hb⟩
  clear p_a1
  have hs := hW1.out.size
  have hW2 := Lib.hid (below_then hW1.out hb)
  replace o_a1 := Lib.hid (own_below o_a1.out hb)
  clear hb hW1
  clear hs
  go_wp2_with fail
  have k_a1_0 : u2.cell? ⟨W.heap.size, 0, none⟩ = some (.slice A1 n1 c1) := o_a1.out.cellAt 0 (by decide)
  have k_a1_1 : u2.cell? ⟨W.heap.size, 1, none⟩ = some (.int .i64 p1) := o_a1.out.cellAt 1 (by decide)
  have k_a1_2 : u2.cell? ⟨W.heap.size, 2, none⟩ = some (.bool z1) := o_a1.out.cellAt 2 (by decide)
  have k_a1_3 : u2.cell? ⟨W.heap.size, 3, none⟩ = some (.bool s1) := o_a1.out.cellAt 3 (by decide)
  go_region_held3 (fun w' => w'.cell? ⟨W.heap.size, 0, none⟩ = some (.slice A1 n1 c1) ∧ w'.cell? ⟨W.heap.size, 1, none⟩ = some (.int .i64 p1) ∧ w'.cell? ⟨W.heap.size, 2, none⟩ = some (.bool z1) ∧ w'.cell? ⟨W.heap.size, 3, none⟩ = some (.bool s1)) (first | exact ⟨k_a1_0, k_a1_1, k_a1_2, k_a1_3⟩ | go_keep)
    (first
      | (go_at_call 46; have p_a1 := o_a1.out; refine (toInstructionS_any A0 n0 c0 _ xs0 _ ((hr0.out.below hW2.out).more hW2.out.size).drew (Nat.le_refl _) hn0).mono ?_; rintro e u3 ⟨g_t0, rfl, h_t0, hb⟩; have a_a1_t0 := apart_new p_a1 h_t0; clear p_a1; replace hb := below_then (below_drew1 _) hb; have hs := hW2.out.size; have hW3 := Lib.hid (below_then hW2.out hb); replace o_a1 := Lib.hid (own_below o_a1.out hb); clear hb hW2; have o_t0 := Lib.hid (own_mono h_t0 (b' := W.heap.size) hs); clear h_t0; clear hs; clear k_a1_0 k_a1_1 k_a1_2 k_a1_3; have k_a1_0 : u3.cell? ⟨W.heap.size, 0, none⟩ = some (.slice A1 n1 c1) := o_a1.out.cellAt 0 (by decide); have k_a1_1 : u3.cell? ⟨W.heap.size, 1, none⟩ = some (.int .i64 p1) := o_a1.out.cellAt 1 (by decide); have k_a1_2 : u3.cell? ⟨W.heap.size, 2, none⟩ = some (.bool z1) := o_a1.out.cellAt 2 (by decide); have k_a1_3 : u3.cell? ⟨W.heap.size, 3, none⟩ = some (.bool s1) := o_a1.out.cellAt 3 (by decide))
      | (go_at_call 50; have p_a1 := o_a1.out; have p_t0 := o_t0.out; refine (toRegisters_any A1 n1 c1 _ zs1 p1 z1 s1 _ ((hr1.out.below hW3.out).more hW3.out.size) (Nat.le_refl _) hn1).mono ?_; rintro e u4 ⟨g_t1, rfl, h_t1, hb⟩; have a_a1_t1 := apart_new p_a1 h_t1; have a_t0_t1 := apart_new p_t0 h_t1; clear p_a1 p_t0; have hs := hW3.out.size; have hW4 := Lib.hid (below_then hW3.out hb); replace o_a1 := Lib.hid (own_below o_a1.out hb); replace o_t0 := Lib.hid (own_below o_t0.out hb); clear hb hW3; have o_t1 := Lib.hid (own_mono h_t1 (b' := W.heap.size) hs); clear h_t1; clear hs; clear k_a1_0 k_a1_1 k_a1_2 k_a1_3; have k_a1_0 : u4.cell? ⟨W.heap.size, 0, none⟩ = some (.slice A1 n1 c1) := o_a1.out.cellAt 0 (by decide); have k_a1_1 : u4.cell? ⟨W.heap.size, 1, none⟩ = some (.int .i64 p1) := o_a1.out.cellAt 1 (by decide); have k_a1_2 : u4.cell? ⟨W.heap.size, 2, none⟩ = some (.bool z1) := o_a1.out.cellAt 2 (by decide); have k_a1_3 : u4.cell? ⟨W.heap.size, 3, none⟩ = some (.bool s1) := o_a1.out.cellAt 3 (by decide))
      | (go_at_call 49; have p_a1 := o_a1.out; have p_t0 := o_t0.out; have p_t1 := o_t1.out; refine (HS.out _ _ _ _ _ (own_reads o_t0.out) (own_reads o_t1.out)).mono ?_; rintro e u5 ⟨rfl, hb⟩; clear p_a1 p_t0 p_t1; have hs := hW4.out.size; have hW5 := Lib.hid (below_then hW4.out hb); replace o_a1 := Lib.hid (own_below o_a1.out hb); replace o_t0 := Lib.hid (own_below o_t0.out hb); replace o_t1 := Lib.hid (own_below o_t1.out hb); clear hb hW4; clear hs; clear k_a1_0 k_a1_1 k_a1_2 k_a1_3; have k_a1_0 : u5.cell? ⟨W.heap.size, 0, none⟩ = some (.slice A1 n1 c1) := o_a1.out.cellAt 0 (by decide); have k_a1_1 : u5.cell? ⟨W.heap.size, 1, none⟩ = some (.int .i64 p1) := o_a1.out.cellAt 1 (by decide); have k_a1_2 : u5.cell? ⟨W.heap.size, 2, none⟩ = some (.bool z1) := o_a1.out.cellAt 2 (by decide); have k_a1_3 : u5.cell? ⟨W.heap.size, 3, none⟩ = some (.bool s1) := o_a1.out.cellAt 3 (by decide)))
  clear k_a1_0 k_a1_1 k_a1_2 k_a1_3
  clear o_t0
  clear a_t0_t1
  clear a_a1_t0
  clear o_t1
  clear a_a1_t1
  go_wp2_with fail
  have p_a1 := o_a1.out
  refine (toInstructionS_any A0 n0 c0 _ xs0 _ ((hr0.out.below hW5.out).more hW5.out.size) (Nat.le_refl _) hn0).mono ?_
  rintro e u6 ⟨g_x0, rfl, h_x0, hb⟩
  have a_a1_x0 := apart_new p_a1 h_x0
  clear p_a1
  have hs := hW5.out.size
  have hW6 := Lib.hid (below_then hW5.out hb)
  replace o_a1 := Lib.hid (own_below o_a1.out hb)
  clear hb hW5
  have o_x0 := Lib.hid (own_mono h_x0 (b' := W.heap.size) hs)
  clear h_x0
  clear hs
  have k_a1_0 : u6.cell? ⟨W.heap.size, 0, none⟩ = some (.slice A1 n1 c1) := o_a1.out.cellAt 0 (by decide)
  have k_a1_1 : u6.cell? ⟨W.heap.size, 1, none⟩ = some (.int .i64 p1) := o_a1.out.cellAt 1 (by decide)
  have k_a1_2 : u6.cell? ⟨W.heap.size, 2, none⟩ = some (.bool z1) := o_a1.out.cellAt 2 (by decide)
  have k_a1_3 : u6.cell? ⟨W.heap.size, 3, none⟩ = some (.bool s1) := o_a1.out.cellAt 3 (by decide)
  go_wp2_with fail
  clear k_a1_0 k_a1_1 k_a1_2 k_a1_3
  have p_a1 := o_a1.out
  have p_x0 := o_x0.out
  refine (toRegisters_any A1 n1 c1 _ zs1 p1 z1 s1 _ ((hr1.out.below hW6.out).more hW6.out.size) (Nat.le_refl _) hn1).mono ?_
  rintro e u7 ⟨g_x1, rfl, h_x1, hb⟩
  have a_a1_x1 := apart_new p_a1 h_x1
  have a_x0_x1 := apart_new p_x0 h_x1
  clear p_a1 p_x0
  have hs := hW6.out.size
  have hW7 := Lib.hid (below_then hW6.out hb)
  replace o_a1 := Lib.hid (own_below o_a1.out hb)
  replace o_x0 := Lib.hid (own_below o_x0.out hb)
  clear hb hW6
  have o_x1 := Lib.hid (own_mono h_x1 (b' := W.heap.size) hs)
  clear h_x1
  clear hs
  obtain ⟨v8, hv⟩ : ∃ v8, u7.alloc (.cells #[.slice (some ⟨g_x1, 0, none⟩) n1 n1, .int .i64 p1, .bool z1, .bool s1] 40) = v8 := ⟨_, rfl⟩
  have hb : Below u7.heap.size u7 v8 := by rw [← hv]; exact below_more (Below.refl _ _) _
  have h_Lx1 : v8.ownsRow u7.heap.size 40 4 (.slice (some ⟨u7.heap.size, 0, none⟩) 1 1) 1 [.slice (some ⟨g_x1, 0, none⟩) n1 n1, .int .i64 p1, .bool z1, .bool s1] := by rw [← hv]; exact World.ownsRow_lit u7 #[.slice (some ⟨g_x1, 0, none⟩) n1 n1, .int .i64 p1, .bool z1, .bool s1] 1 (Nat.le_refl _) (by unfold maxLen; decide) rfl
  have HV8 := Lib.hid hv
  clear hv
  have p_a1 := o_a1.out
  have p_x0 := o_x0.out
  have p_x1 := o_x1.out
  have a_a1_Lx1 := apart_new p_a1 h_Lx1
  have a_x0_Lx1 := apart_new p_x0 h_Lx1
  have a_x1_Lx1 := apart_new p_x1 h_Lx1
  clear p_a1 p_x0 p_x1
  have hs := hW7.out.size
  have hW8 := Lib.hid (below_then hW7.out hb)
  replace o_a1 := Lib.hid (own_below o_a1.out hb)
  replace o_x0 := Lib.hid (own_below o_x0.out hb)
  replace o_x1 := Lib.hid (own_below o_x1.out hb)
  clear hb hW7
  have o_Lx1 := Lib.hid (own_mono h_Lx1 (b' := W.heap.size) hs)
  clear h_Lx1
  clear hs
  have k_Lx1_0 : v8.cell? ⟨u7.heap.size, 0, none⟩ = some (.slice (some ⟨g_x1, 0, none⟩) n1 n1) := o_Lx1.out.cellAt 0 (by decide)
  have k_Lx1_1 : v8.cell? ⟨u7.heap.size, 1, none⟩ = some (.int .i64 p1) := o_Lx1.out.cellAt 1 (by decide)
  have k_Lx1_2 : v8.cell? ⟨u7.heap.size, 2, none⟩ = some (.bool z1) := o_Lx1.out.cellAt 2 (by decide)
  have k_Lx1_3 : v8.cell? ⟨u7.heap.size, 3, none⟩ = some (.bool s1) := o_Lx1.out.cellAt 3 (by decide)
  go_wp2_with fail
  clear k_Lx1_0 k_Lx1_1 k_Lx1_2 k_Lx1_3
  rw [HV8.out]
  clear HV8
  have p_a1 := o_a1.out
  have p_x0 := o_x0.out
  have p_x1 := o_x1.out
  have p_Lx1 := o_Lx1.out
  refine (HI.out _ _ _ _ _ (own_reads o_x0.out) (own_reads o_x1.out) (ops_below hW8.out HO.out)).mono ?_
  rintro e u9 ⟨rfl, hb⟩
  clear p_a1 p_x0 p_x1 p_Lx1
  have hs := hW8.out.size
  have hW9 := Lib.hid (below_then hW8.out hb)
  replace o_a1 := Lib.hid (own_below o_a1.out hb)
  replace o_x0 := Lib.hid (own_below o_x0.out hb)
  replace o_x1 := Lib.hid (own_below o_x1.out hb)
  replace o_Lx1 := Lib.hid (own_below o_Lx1.out hb)
  clear hb hW8
  clear hs
  go_wp2_with fail
  have p_a1 := o_a1.out
  have p_x0 := o_x0.out
  have p_x1 := o_x1.out
  have p_Lx1 := o_Lx1.out
  refine (toInstructionS_any A0 n0 c0 _ xs0 _ ((hr0.out.below hW9.out).more hW9.out.size) (Nat.le_refl _) hn0).mono ?_
  rintro e u10 ⟨g_y0, rfl, h_y0, hb⟩
  have a_a1_y0 := apart_new p_a1 h_y0
  have a_x0_y0 := apart_new p_x0 h_y0
  have a_x1_y0 := apart_new p_x1 h_y0
  have a_Lx1_y0 := apart_new p_Lx1 h_y0
  clear p_a1 p_x0 p_x1 p_Lx1
  have hs := hW9.out.size
  have hW10 := Lib.hid (below_then hW9.out hb)
  replace o_a1 := Lib.hid (own_below o_a1.out hb)
  replace o_x0 := Lib.hid (own_below o_x0.out hb)
  replace o_x1 := Lib.hid (own_below o_x1.out hb)
  replace o_Lx1 := Lib.hid (own_below o_Lx1.out hb)
  clear hb hW9
  have o_y0 := Lib.hid (own_mono h_y0 (b' := W.heap.size) hs)
  clear h_y0
  clear hs
  go_wp2_with fail
  refine (eqInstructionS_step _ _ _ _ _ xs0 _ hn0 (own_reads o_x0.out) (own_reads o_y0.out)).mono ?_
  rintro e u11 ⟨rfl, hb⟩
  have hs := hW10.out.size
  have hW11 := Lib.hid (below_then hW10.out hb)
  replace o_a1 := Lib.hid (own_below o_a1.out hb)
  replace o_x0 := Lib.hid (own_below o_x0.out hb)
  replace o_x1 := Lib.hid (own_below o_x1.out hb)
  replace o_Lx1 := Lib.hid (own_below o_Lx1.out hb)
  replace o_y0 := Lib.hid (own_below o_y0.out hb)
  clear hb hW10
  clear hs
  clear o_y0
  clear a_x0_y0
  clear a_Lx1_y0
  clear a_x1_y0
  clear a_a1_y0
  go_wp2_with fail
  have k_Lx1_0 : u11.cell? ⟨u7.heap.size, 0, none⟩ = some (.slice (some ⟨g_x1, 0, none⟩) n1 n1) := o_Lx1.out.cellAt 0 (by decide)
  have k_Lx1_1 : u11.cell? ⟨u7.heap.size, 1, none⟩ = some (.int .i64 p1) := o_Lx1.out.cellAt 1 (by decide)
  have k_Lx1_2 : u11.cell? ⟨u7.heap.size, 2, none⟩ = some (.bool z1) := o_Lx1.out.cellAt 2 (by decide)
  have k_Lx1_3 : u11.cell? ⟨u7.heap.size, 3, none⟩ = some (.bool s1) := o_Lx1.out.cellAt 3 (by decide)
  have k_a1_0 : u11.cell? ⟨W.heap.size, 0, none⟩ = some (.slice A1 n1 c1) := o_a1.out.cellAt 0 (by decide)
  have k_a1_1 : u11.cell? ⟨W.heap.size, 1, none⟩ = some (.int .i64 p1) := o_a1.out.cellAt 1 (by decide)
  have k_a1_2 : u11.cell? ⟨W.heap.size, 2, none⟩ = some (.bool z1) := o_a1.out.cellAt 2 (by decide)
  have k_a1_3 : u11.cell? ⟨W.heap.size, 3, none⟩ = some (.bool s1) := o_a1.out.cellAt 3 (by decide)
  go_region_held3 (fun w' => w'.cell? ⟨u7.heap.size, 0, none⟩ = some (.slice (some ⟨g_x1, 0, none⟩) n1 n1) ∧ w'.cell? ⟨u7.heap.size, 1, none⟩ = some (.int .i64 p1) ∧ w'.cell? ⟨u7.heap.size, 2, none⟩ = some (.bool z1) ∧ w'.cell? ⟨u7.heap.size, 3, none⟩ = some (.bool s1) ∧ w'.cell? ⟨W.heap.size, 0, none⟩ = some (.slice A1 n1 c1) ∧ w'.cell? ⟨W.heap.size, 1, none⟩ = some (.int .i64 p1) ∧ w'.cell? ⟨W.heap.size, 2, none⟩ = some (.bool z1) ∧ w'.cell? ⟨W.heap.size, 3, none⟩ = some (.bool s1)) (first | exact ⟨k_Lx1_0, k_Lx1_1, k_Lx1_2, k_Lx1_3, k_a1_0, k_a1_1, k_a1_2, k_a1_3⟩ | go_keep)
    (first
      | (go_at_call 50; have p_a1 := o_a1.out; have p_x0 := o_x0.out; have p_x1 := o_x1.out; have p_Lx1 := o_Lx1.out; refine (toRegisters_any A1 n1 c1 _ zs1 p1 z1 s1 _ ((hr1.out.below hW11.out).more hW11.out.size).drew (Nat.le_refl _) hn1).mono ?_; rintro e u12 ⟨g_y1, rfl, h_y1, hb⟩; have a_a1_y1 := apart_new p_a1 h_y1; have a_x0_y1 := apart_new p_x0 h_y1; have a_x1_y1 := apart_new p_x1 h_y1; have a_Lx1_y1 := apart_new p_Lx1 h_y1; clear p_a1 p_x0 p_x1 p_Lx1; replace hb := below_then (below_drew1 _) hb; have hs := hW11.out.size; have hW12 := Lib.hid (below_then hW11.out hb); replace o_a1 := Lib.hid (own_below o_a1.out hb); replace o_x0 := Lib.hid (own_below o_x0.out hb); replace o_x1 := Lib.hid (own_below o_x1.out hb); replace o_Lx1 := Lib.hid (own_below o_Lx1.out hb); clear hb hW11; have o_y1 := Lib.hid (own_mono h_y1 (b' := W.heap.size) hs); clear h_y1; clear hs; clear k_Lx1_0 k_Lx1_1 k_Lx1_2 k_Lx1_3 k_a1_0 k_a1_1 k_a1_2 k_a1_3; have k_Lx1_0 : u12.cell? ⟨u7.heap.size, 0, none⟩ = some (.slice (some ⟨g_x1, 0, none⟩) n1 n1) := o_Lx1.out.cellAt 0 (by decide); have k_Lx1_1 : u12.cell? ⟨u7.heap.size, 1, none⟩ = some (.int .i64 p1) := o_Lx1.out.cellAt 1 (by decide); have k_Lx1_2 : u12.cell? ⟨u7.heap.size, 2, none⟩ = some (.bool z1) := o_Lx1.out.cellAt 2 (by decide); have k_Lx1_3 : u12.cell? ⟨u7.heap.size, 3, none⟩ = some (.bool s1) := o_Lx1.out.cellAt 3 (by decide); have k_a1_0 : u12.cell? ⟨W.heap.size, 0, none⟩ = some (.slice A1 n1 c1) := o_a1.out.cellAt 0 (by decide); have k_a1_1 : u12.cell? ⟨W.heap.size, 1, none⟩ = some (.int .i64 p1) := o_a1.out.cellAt 1 (by decide); have k_a1_2 : u12.cell? ⟨W.heap.size, 2, none⟩ = some (.bool z1) := o_a1.out.cellAt 2 (by decide); have k_a1_3 : u12.cell? ⟨W.heap.size, 3, none⟩ = some (.bool s1) := o_a1.out.cellAt 3 (by decide))
      | (go_at_call 51; refine (eqRegisters_step _ _ _ _ _ zs1 p1 z1 s1 _ hn1 (own_reads o_x1.out) (own_reads o_y1.out)).mono ?_; rintro e u13 ⟨rfl, hb⟩; have hs := hW12.out.size; have hW13 := Lib.hid (below_then hW12.out hb); replace o_a1 := Lib.hid (own_below o_a1.out hb); replace o_x0 := Lib.hid (own_below o_x0.out hb); replace o_x1 := Lib.hid (own_below o_x1.out hb); replace o_Lx1 := Lib.hid (own_below o_Lx1.out hb); replace o_y1 := Lib.hid (own_below o_y1.out hb); clear hb hW12; clear hs; clear k_Lx1_0 k_Lx1_1 k_Lx1_2 k_Lx1_3 k_a1_0 k_a1_1 k_a1_2 k_a1_3; have k_Lx1_0 : u13.cell? ⟨u7.heap.size, 0, none⟩ = some (.slice (some ⟨g_x1, 0, none⟩) n1 n1) := o_Lx1.out.cellAt 0 (by decide); have k_Lx1_1 : u13.cell? ⟨u7.heap.size, 1, none⟩ = some (.int .i64 p1) := o_Lx1.out.cellAt 1 (by decide); have k_Lx1_2 : u13.cell? ⟨u7.heap.size, 2, none⟩ = some (.bool z1) := o_Lx1.out.cellAt 2 (by decide); have k_Lx1_3 : u13.cell? ⟨u7.heap.size, 3, none⟩ = some (.bool s1) := o_Lx1.out.cellAt 3 (by decide); have k_a1_0 : u13.cell? ⟨W.heap.size, 0, none⟩ = some (.slice A1 n1 c1) := o_a1.out.cellAt 0 (by decide); have k_a1_1 : u13.cell? ⟨W.heap.size, 1, none⟩ = some (.int .i64 p1) := o_a1.out.cellAt 1 (by decide); have k_a1_2 : u13.cell? ⟨W.heap.size, 2, none⟩ = some (.bool z1) := o_a1.out.cellAt 2 (by decide); have k_a1_3 : u13.cell? ⟨W.heap.size, 3, none⟩ = some (.bool s1) := o_a1.out.cellAt 3 (by decide)))
  clear k_Lx1_0 k_Lx1_1 k_Lx1_2 k_Lx1_3 k_a1_0 k_a1_1 k_a1_2 k_a1_3
  clear o_y1
  clear a_x1_y1
  clear a_a1_y1
  clear a_x0_y1
  clear a_Lx1_y1
  go_wp2_with fail
  go_ret
  exact ⟨rfl, hW13.out⟩

set_option maxHeartbeats 4000000 in
set_option maxRecDepth 100000 in
/-- the law's Go text returns true, and nothing that was there has turned -/
theorem walk {H : Type} {enc : TypeId × Value → H} (W : World) (base : Nat) (v0 : Value) (d0 : DataW H) (p0 : List MemPlace) (q0 : Value.okWide Tryd.prog W .any base 60 v0) (h0 : DataW.Trod enc Tryd.prog W 0 (fun _ => true) true 60 v0 d0 p0) (l0 : ∀ x ∈ p0, x.block < W.heap.size) (v1 : Value) (d1 : DataW H) (p1 : List MemPlace) (q1 : Value.okWide Tryd.prog W .any base 65 v1) (h1 : DataW.Trod enc Tryd.prog W 0 (fun _ => true) true 65 v1 d1 p1) (l1 : ∀ x ∈ p1, x.block < W.heap.size) (hL : laidMetH Tryd.prog Rows.fnExactAreRegistersRow.laid W) (hsh : W.ShapedOpen Tryd.prog) :
    Calls Tryd.prog 7 #[v0, v1] W fun e W' => e = .returned (.bool true) ∧ Below W.heap.size W W' := by
  obtain ⟨A0, n0, c0, xs0, rfl, hx0, hr0⟩ := open_prog q0 h0
  obtain ⟨A1, n1, c1, zs1, p1, z1, s1, rfl, hx1, hr1⟩ := open_regs q1 h1
  by_cases hy0 : 1048576 < n0
  · exact big0 W A0 n0 c0 xs0 hr0 hx0 A1 n1 c1 zs1 p1 z1 s1 hr1 hx1  hy0
  by_cases hy1 : 1048576 < n0 + n1
  · exact big1 W A0 n0 c0 xs0 hr0 hx0 A1 n1 c1 zs1 p1 z1 s1 hr1 hx1 (by omega) hy1
  exact walk0 W A0 n0 c0 xs0 hr0 hx0 A1 n1 c1 zs1 p1 z1 s1 hr1 hx1 (by omega) (tab hL)
noncomputable def laidWorld (os : Os) : World := { World.holding Tryd.prog os ⟨#[], #[], []⟩ with heap := ((World.holding Tryd.prog os ⟨#[], #[], []⟩).heap).modify 0 (Fr.lay #[.string ⟨#[104, 97, 108, 116]⟩, .int .i64 1, .int .i64 1, .int .i64 1, .string ⟨#[115, 101, 116]⟩, .int .i64 4, .int .i64 1, .int .i64 65536, .string ⟨#[109, 111, 118, 101]⟩, .int .i64 4, .int .i64 4, .int .i64 1, .string ⟨#[97, 100, 100]⟩, .int .i64 4, .int .i64 4, .int .i64 1, .string ⟨#[115, 117, 98]⟩, .int .i64 4, .int .i64 4, .int .i64 1, .string ⟨#[97, 110, 100]⟩, .int .i64 4, .int .i64 4, .int .i64 1, .string ⟨#[115, 104, 105, 102, 116]⟩, .int .i64 4, .int .i64 1, .int .i64 16, .string ⟨#[106, 117, 109, 112]⟩, .int .i64 1, .int .i64 1, .int .i64 16, .string ⟨#[106, 117, 109, 112, 122, 101, 114, 111]⟩, .int .i64 1, .int .i64 1, .int .i64 16, .string ⟨#[116, 114, 97, 112]⟩, .int .i64 1, .int .i64 1, .int .i64 256]) }
theorem laid_met (os : Os) : laidMetH Tryd.prog Rows.fnExactAreRegistersRow.laid ((laidWorld os).forCall (fun _ _ => 0) ⟨#[], #[(.slice none 0 0 : Value), .agg #[.slice none 0 0, .int .i64 0, .bool false, .bool false]], []⟩).memory := laidMet_of_run' 8 (by kernel_rfl) (by kernel_rfl)
theorem reads (os : Os) {H : Type} (enc : TypeId × Value → H) : (DataW.whole enc Tryd.prog ((laidWorld os).forCall (fun _ _ => 0) ⟨#[], #[(.slice none 0 0 : Value), .agg #[.slice none 0 0, .int .i64 0, .bool false, .bool false]], []⟩).memory Tryd.f7.params.toList Rows.fnExactAreRegistersSpec.vars false #[(.slice none 0 0 : Value), .agg #[.slice none 0 0, .int .i64 0, .bool false, .bool false]].toList 8).isSome = true := by kernel_rfl
set_option maxRecDepth 100000 in
theorem lifted (os : Os) (started : os.Started) (H : Type) (enc : TypeId × Value → H) (F : Stop.Interp) :
    ReturnsInHanded {} Tryd.checked os 7 .any ((OpenSpec.ofChange Rows.fnExactAreRegistersSpec).preRow enc Tryd.prog Tryd.f7 Rows.fnExactAreRegistersRow.domain false Rows.fnExactAreRegistersRow.laid) (((OpenSpec.ofChange Rows.fnExactAreRegistersSpec).at F).post enc Tryd.prog Tryd.f7 false true false false) := by
  obtain ⟨x, hx⟩ := Option.isSome_iff_exists.1 (reads os enc)
  refine returnsInHanded_of_row (C := Tryd.checked) (s := OpenSpec.ofChange Rows.fnExactAreRegistersSpec) own started (by kernel_rfl) Tryd.func7
    (witness_row_at (enc := enc) (C := Tryd.checked) false (laidWorld os) #[(.slice none 0 0 : Value), .agg #[.slice none 0 0, .int .i64 0, .bool false, .bool false]] rfl (by kernel_rfl) (by kernel_rfl) (by kernel_rfl)
      (OpenSpec.preRow_of_cond 8 hx (by rfl) (fun k hk => by cases hk) (by kernel_rfl) (laid_met os))) ?_
  intro W base args ds gs before hval0 hW _ hcond hsz hL hsh _
  have hval : ∀ (j : Nat) t v, Tryd.f7.params[j]? = some t → args[j]? = some v → Value.okWide Tryd.prog W .any base t v := hval0
  have hW' := hW
  obtain ⟨p, q, hA0, hV, rfl, hfz, hnd⟩ := hW
  have hA : DataW.TrodAll enc Tryd.prog W 0 (fun _ => true) true Tryd.f7.params.toList args.toList ds p := hA0
  rw [Tryd.params7] at hA hval
  obtain ⟨v0, vs0, d0, ds0, p0, q0, hargs, rfl, rfl, h0, r0⟩ := trodAll_cons hA
  obtain ⟨v1, vs1, d1, ds1, p1, q1, rfl, rfl, rfl, h1, r1⟩ := trodAll_cons r0
  obtain ⟨rfl, rfl, rfl⟩ := trodAll_nil r1
  obtain rfl : args = #[v0, v1] := by cases args; simp_all
  clear hA0 hval0
  try simp only [List.append_nil] at hW'
  refine (walk (enc := enc) W base v0 d0 p0 (hval 0 60 v0 rfl rfl) h0 (fun x hx => hW'.lt x (by simp [hx])) v1 d1 p1 (hval 1 65 v1 rfl rfl) h1 (fun x hx => hW'.lt x (by simp [hx])) hL hsh).mono fun e W' ⟨he, hb⟩ => ⟨_, he, Fr.post_true_v laidOut (by kernel_rfl) (by kernel_rfl) Tryd.underlying4 (by kernel_rfl) hW' (fun xs ys hx hy => by match xs, ys, hx, hy with | [x0, x1], [y0], _, _ => rfl) hb⟩
theorem said : Rows.FnExactAreRegistersSaid :=
  OpenClaim.holds_of_cond 7 Tryd.f7 rfl rfl rfl rfl rfl rfl rfl ⟨rfl, rfl, rfl, rfl, rfl⟩ rfl rfl rfl rfl rfl (by kernel_rfl) Tryd.func7 (by kernel_rfl)
    (of_decide_eq_true (by kernel_rfl)) (by unfold Func.isWrapper; first | (rw [if_pos (by decide +kernel)]; kernel_rfl) | (rw [if_neg (by decide +kernel)]; exact ⟨rfl, rfl⟩))
    (fun os started H enc _ F => by rw [OpenClaim.pre_eq_preRow]; exact lifted os started H enc F)
theorem plain (f : FuncId) (fn : Func) (hf : Tryd.pinned.checked.prog.funcNamed "loop.example/g00843/laws.FnExactAreRegisters" = some f) (hfn : Tryd.pinned.checked.prog.funcs[f]? = some fn) :
    true = Tryd.pinned.checked.prog.looks [] ∧ ∀ (j : Nat) t, fn.params[j]? = some t → Tryd.pinned.checked.prog.wantsStandIn t = false := by
  obtain rfl : f = 7 := Option.some.inj ((show Tryd.prog.funcNamed "loop.example/g00843/laws.FnExactAreRegisters" = some 7 by kernel_rfl).symm.trans hf) |>.symm
  obtain rfl : fn = Tryd.f7 := (Option.some.inj (Tryd.func7.symm.trans hfn)).symm
  refine ⟨by kernel_rfl, fun j t ht => ?_⟩
  have hall : Tryd.f7.params.toList.all (fun t => !Tryd.prog.wantsStandIn t) = true := by kernel_rfl
  have := List.all_eq_true.1 hall t (by simpa using Array.mem_of_getElem? ht)
  show Tryd.prog.wantsStandIn t = false
  simpa using this
theorem card : Rows.FnExactAreRegistersCardSaid :=
  Claim7.holds_tied_plain_at .later [] _ _ _ _ said (fun _ h => by cases h) (by kernel_rfl) (fun _ h => by cases h) fnExactAreRegisters_row_tie rfl ⟨rfl, rfl⟩ (by kernel_rfl) rfl plain (by kernel_rfl)
#print axioms card
end Go.Proofs.YtodecmdgcopkiaaDoor.fnExactAreRegisters
