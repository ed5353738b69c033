/- What spec.AssemblyText answers. -/
import Derived.Test.YtfdbnolifimnhabDoorAsmI
import Derived.Test.YtfdbnolifimnhabDoorInsS
import Derived.Deep.RegionHeld3
namespace Go.Proofs.YtfdbnolifimnhabDoor.L3
open Go Go.RowKit Go.Sort Go.Proofs.YtfdbnolifimnhabDoor.Mem Go.Proofs.YtfdbnolifimnhabDoor.Own Go.Proofs.YtfdbnolifimnhabDoor.L1
theorem l3Names_any (w : World) :
    Calls Tryd.prog 50 #[] w fun e w' => ∃ g, e = .returned (.slice (some ⟨g, 0, none⟩) 10 10) ∧ Blk w' g 9 #[.string ⟨#[104, 97, 108, 116]⟩, .string ⟨#[115, 101, 116]⟩, .string ⟨#[109, 111, 118, 101]⟩, .string ⟨#[97, 100, 100]⟩, .string ⟨#[115, 117, 98]⟩, .string ⟨#[97, 110, 100]⟩, .string ⟨#[115, 104, 105, 102, 116]⟩, .string ⟨#[106, 117, 109, 112]⟩, .string ⟨#[106, 117, 109, 112, 122, 101, 114, 111]⟩, .string ⟨#[116, 114, 97, 112]⟩] ∧ w.heap.size ≤ g ∧ Below w.heap.size w w' := by
  go_enter Tryd.func50, Tryd.ntmps50
  go_wp2
  go_ret
  exact ⟨w.heap.size, rfl, Blk.new _ _ _, Nat.le_refl _, below_more (Below.refl _ _) _⟩
theorem below_dj (w : World) (j : Nat) : Below w.heap.size w (w.drewN j) := ⟨rfl, rfl, rfl, Nat.le_refl _, fun _ _ => rfl⟩
theorem below_d1 (w : World) : Below w.heap.size w w.drew := ⟨rfl, rfl, rfl, Nat.le_refl _, fun _ _ => rfl⟩
set_option maxRecDepth 100000 in
set_option maxHeartbeats 1600000 in
theorem l3Text_0 (xa xb xn : Int) (w : World) (hok : Ok ⟨0, xa, xb, xn⟩) :
    Calls Tryd.prog 40 #[.agg #[.int .i64 0, .int .i64 xa, .int .i64 xb, .int .i64 xn]] w fun e w' => e = .returned (.string (asmOf ⟨0, xa, xb, xn⟩)) ∧ Below w.heap.size w w' := by
  have hbd := ok_bnd hok
  simp only at hbd
  obtain ⟨ha, hb, hn⟩ := hbd
  obtain ⟨s0, hs0⟩ : ∃ s : ByteArray, s = ⟨#[104, 97, 108, 116]⟩ := ⟨_, rfl⟩
  have z0 : s0.size ≤ 8 := by rw [hs0]; decide
  have hasm : asmOf ⟨0, xa, xb, xn⟩ = s0 := by
    unfold asmOf cntA cntB mostN opName
    simp only [sp, spr]
    simp [hs0]
  have HASM := Lib.hid hasm
  have HS0 := Lib.hid hs0
  clear hasm hs0 
  obtain ⟨wb, hwb⟩ : ∃ wb, w.alloc (.cells #[.int .i64 0, .int .i64 xa, .int .i64 xb, .int .i64 xn] 25) = wb := ⟨_, rfl⟩
  have HX : Hid (Blk wb w.heap.size 25 #[.int .i64 0, .int .i64 xa, .int .i64 xb, .int .i64 xn]) := Lib.hid (by rw [← hwb]; exact Blk.new _ _ _)
  have HW : Hid (Below w.heap.size w wb) := Lib.hid (by rw [← hwb]; exact below_more (Below.refl _ _) _)
  have HWB := Lib.hid hwb
  clear hwb
  have k0 : wb.cell? ⟨w.heap.size, 0, none⟩ = some (.int .i64 0) := HX.out.cell 0 _ rfl
  have HNM := Lib.hid (l3Names_any wb.drew)
  have e0 : wb.drew.cell? ⟨w.heap.size, 0, none⟩ = some (.int .i64 0) := k0
  go_enter Tryd.func40, Tryd.ntmps40
  go_wp2_with fail
  rw [HWB.out]
  refine (l3Uses_any 0 (by omega) (by omega) _).mono ?_
  rintro e w0 ⟨rfl, hw⟩
  subst hw
  rw [show useA 0 = false from rfl, show useB 0 = false from rfl, show useN 0 = false from rfl]
  go_wp2_with fail
  go_region_with (go_at_call 50; (with_reducible refine HNM.out.mono ?_); rintro e w1 ⟨g, rfl, hnm, hgn, hbx⟩; replace hbx : Below wb.heap.size wb w1 := (below_d1 wb).trans hbx; replace HX := Lib.hid (Blk.kept hbx HX.out); replace HW := Lib.hid (below_then HW.out hbx); have hcn : w1.cell? ⟨g, 0, none⟩ = some (.string s0) := (by rw [HS0.out]; exact hnm.cell 0 _ rfl); replace k0 : w1.cell? ⟨w.heap.size, 0, none⟩ = some (.int .i64 0) := HX.out.cell 0 _ rfl; clear hnm hbx)
  all_goals
    clear k0 e0 hcn HWB
    have k0 := HX.out.cell 0 _ rfl
    have k1 := HX.out.cell 1 _ rfl
    have k2 := HX.out.cell 2 _ rfl
    have k3 := HX.out.cell 3 _ rfl
    go_wp2_with fail
    go_ret
    exact ⟨by rw [HASM.out]; rfl, HW.out⟩
set_option maxRecDepth 100000 in
set_option maxHeartbeats 1600000 in
theorem l3Text_1 (xa xb xn : Int) (w : World) (hok : Ok ⟨1, xa, xb, xn⟩) :
    Calls Tryd.prog 40 #[.agg #[.int .i64 1, .int .i64 xa, .int .i64 xb, .int .i64 xn]] w fun e w' => e = .returned (.string (asmOf ⟨1, xa, xb, xn⟩)) ∧ Below w.heap.size w w' := by
  have hbd := ok_bnd hok
  simp only at hbd
  obtain ⟨ha, hb, hn⟩ := hbd
  obtain ⟨s0, hs0⟩ : ∃ s : ByteArray, s = ⟨#[115, 101, 116]⟩ := ⟨_, rfl⟩
  have z0 : s0.size ≤ 8 := by rw [hs0]; decide
  obtain ⟨n0, hn0⟩ : ∃ n, NumB xa = n := ⟨_, rfl⟩
  have y0 : n0.size ≤ 20 := by rw [← hn0]; exact num_size xa (by omega) (by omega)
  obtain ⟨m0, hm0⟩ : ∃ m, s0 ++ (⟨#[32, 114]⟩ : ByteArray) = m := ⟨_, rfl⟩
  have x0 : m0.size ≤ 10 := by rw [← hm0, cat_size]; have : (⟨#[32, 114]⟩ : ByteArray).size ≤ 2 := (by decide); omega
  obtain ⟨s1, hs1⟩ : ∃ s, m0 ++ n0 = s := ⟨_, rfl⟩
  have z1 : s1.size ≤ 30 := by rw [← hs1, cat_size]; omega
  have add0a := fun wx => run_string_add_sum (P := Tryd.prog) (w := wx) s0 (⟨#[32, 114]⟩ : ByteArray) (by have : (⟨#[32, 114]⟩ : ByteArray).size ≤ 2 := (by decide); omega)
  have add0b := fun wx => run_string_add_sum (P := Tryd.prog) (w := wx) m0 n0 (by omega)
  rw [hm0] at add0a
  rw [hs1] at add0b
  obtain ⟨n1, hn1⟩ : ∃ n, NumB xn = n := ⟨_, rfl⟩
  have y1 : n1.size ≤ 20 := by rw [← hn1]; exact num_size xn (by omega) (by omega)
  obtain ⟨m1, hm1⟩ : ∃ m, s1 ++ (⟨#[32]⟩ : ByteArray) = m := ⟨_, rfl⟩
  have x1 : m1.size ≤ 32 := by rw [← hm1, cat_size]; have : (⟨#[32]⟩ : ByteArray).size ≤ 2 := (by decide); omega
  obtain ⟨s2, hs2⟩ : ∃ s, m1 ++ n1 = s := ⟨_, rfl⟩
  have z2 : s2.size ≤ 52 := by rw [← hs2, cat_size]; omega
  have add1a := fun wx => run_string_add_sum (P := Tryd.prog) (w := wx) s1 (⟨#[32]⟩ : ByteArray) (by have : (⟨#[32]⟩ : ByteArray).size ≤ 2 := (by decide); omega)
  have add1b := fun wx => run_string_add_sum (P := Tryd.prog) (w := wx) m1 n1 (by omega)
  rw [hm1] at add1a
  rw [hs2] at add1b
  have hasm : asmOf ⟨1, xa, xb, xn⟩ = s2 := by
    unfold asmOf cntA cntB mostN opName
    simp only [sp, spr]
    simp [hs0, hn0, ← hs1, ← hm0, hn1, ← hs2, ← hm1, ByteArray.append_assoc]
  have HASM := Lib.hid hasm
  have HN0 := Lib.hid hn0
  have HN1 := Lib.hid hn1
  have HS0 := Lib.hid hs0
  clear hasm hs0 hn0 hm0 hs1 hn1 hm1 hs2
  obtain ⟨wb, hwb⟩ : ∃ wb, w.alloc (.cells #[.int .i64 1, .int .i64 xa, .int .i64 xb, .int .i64 xn] 25) = wb := ⟨_, rfl⟩
  have HX : Hid (Blk wb w.heap.size 25 #[.int .i64 1, .int .i64 xa, .int .i64 xb, .int .i64 xn]) := Lib.hid (by rw [← hwb]; exact Blk.new _ _ _)
  have HW : Hid (Below w.heap.size w wb) := Lib.hid (by rw [← hwb]; exact below_more (Below.refl _ _) _)
  have HWB := Lib.hid hwb
  clear hwb
  have k0 : wb.cell? ⟨w.heap.size, 0, none⟩ = some (.int .i64 1) := HX.out.cell 0 _ rfl
  have HNM := Lib.hid (l3Names_any wb.drew)
  have e0 : wb.drew.cell? ⟨w.heap.size, 0, none⟩ = some (.int .i64 1) := k0
  go_enter Tryd.func40, Tryd.ntmps40
  go_wp2_with fail
  rw [HWB.out]
  refine (l3Uses_any 1 (by omega) (by omega) _).mono ?_
  rintro e w0 ⟨rfl, hw⟩
  subst hw
  rw [show useA 1 = true from rfl, show useB 1 = false from rfl, show useN 1 = true from rfl]
  go_wp2_with fail
  go_region_with (go_at_call 50; (with_reducible refine HNM.out.mono ?_); rintro e w1 ⟨g, rfl, hnm, hgn, hbx⟩; replace hbx : Below wb.heap.size wb w1 := (below_d1 wb).trans hbx; replace HX := Lib.hid (Blk.kept hbx HX.out); replace HW := Lib.hid (below_then HW.out hbx); have hcn : w1.cell? ⟨g, 1, none⟩ = some (.string s0) := (by rw [HS0.out]; exact hnm.cell 1 _ rfl); replace k0 : w1.cell? ⟨w.heap.size, 0, none⟩ = some (.int .i64 1) := HX.out.cell 0 _ rfl; clear hnm hbx)
  all_goals
    clear k0 e0 hcn HWB
    have k0 := HX.out.cell 0 _ rfl
    have k1 := HX.out.cell 1 _ rfl
    have k2 := HX.out.cell 2 _ rfl
    have k3 := HX.out.cell 3 _ rfl
    go_wp2_with fail
    refine (l1Num_int xa (by omega) (by omega) _).mono ?_
    rintro e w2 ⟨rfl, jj, hw⟩
    have hbb : Below w1.heap.size w1 w2 := by rw [hw]; exact below_dj _ _
    replace HX := Lib.hid (Blk.kept hbb HX.out)
    replace HW := Lib.hid (below_then HW.out hbb)
    clear hw hbb k0 k1 k2 k3
    rw [HN0.out]
    have k0 := HX.out.cell 0 _ rfl
    have k1 := HX.out.cell 1 _ rfl
    have k2 := HX.out.cell 2 _ rfl
    have k3 := HX.out.cell 3 _ rfl
    go_wp2_with fail
    refine (l1Num_int xn (by omega) (by omega) _).mono ?_
    rintro e w3 ⟨rfl, jj, hw⟩
    have hbb : Below w2.heap.size w2 w3 := by rw [hw]; exact below_dj _ _
    replace HX := Lib.hid (Blk.kept hbb HX.out)
    replace HW := Lib.hid (below_then HW.out hbb)
    clear hw hbb k0 k1 k2 k3
    rw [HN1.out]
    have k0 := HX.out.cell 0 _ rfl
    have k1 := HX.out.cell 1 _ rfl
    have k2 := HX.out.cell 2 _ rfl
    have k3 := HX.out.cell 3 _ rfl
    go_wp2_with fail
    go_ret
    exact ⟨by rw [HASM.out]; rfl, HW.out⟩
set_option maxRecDepth 100000 in
set_option maxHeartbeats 1600000 in
theorem l3Text_2 (xa xb xn : Int) (w : World) (hok : Ok ⟨2, xa, xb, xn⟩) :
    Calls Tryd.prog 40 #[.agg #[.int .i64 2, .int .i64 xa, .int .i64 xb, .int .i64 xn]] w fun e w' => e = .returned (.string (asmOf ⟨2, xa, xb, xn⟩)) ∧ Below w.heap.size w w' := by
  have hbd := ok_bnd hok
  simp only at hbd
  obtain ⟨ha, hb, hn⟩ := hbd
  obtain ⟨s0, hs0⟩ : ∃ s : ByteArray, s = ⟨#[109, 111, 118, 101]⟩ := ⟨_, rfl⟩
  have z0 : s0.size ≤ 8 := by rw [hs0]; decide
  obtain ⟨n0, hn0⟩ : ∃ n, NumB xa = n := ⟨_, rfl⟩
  have y0 : n0.size ≤ 20 := by rw [← hn0]; exact num_size xa (by omega) (by omega)
  obtain ⟨m0, hm0⟩ : ∃ m, s0 ++ (⟨#[32, 114]⟩ : ByteArray) = m := ⟨_, rfl⟩
  have x0 : m0.size ≤ 10 := by rw [← hm0, cat_size]; have : (⟨#[32, 114]⟩ : ByteArray).size ≤ 2 := (by decide); omega
  obtain ⟨s1, hs1⟩ : ∃ s, m0 ++ n0 = s := ⟨_, rfl⟩
  have z1 : s1.size ≤ 30 := by rw [← hs1, cat_size]; omega
  have add0a := fun wx => run_string_add_sum (P := Tryd.prog) (w := wx) s0 (⟨#[32, 114]⟩ : ByteArray) (by have : (⟨#[32, 114]⟩ : ByteArray).size ≤ 2 := (by decide); omega)
  have add0b := fun wx => run_string_add_sum (P := Tryd.prog) (w := wx) m0 n0 (by omega)
  rw [hm0] at add0a
  rw [hs1] at add0b
  obtain ⟨n1, hn1⟩ : ∃ n, NumB xb = n := ⟨_, rfl⟩
  have y1 : n1.size ≤ 20 := by rw [← hn1]; exact num_size xb (by omega) (by omega)
  obtain ⟨m1, hm1⟩ : ∃ m, s1 ++ (⟨#[32, 114]⟩ : ByteArray) = m := ⟨_, rfl⟩
  have x1 : m1.size ≤ 32 := by rw [← hm1, cat_size]; have : (⟨#[32, 114]⟩ : ByteArray).size ≤ 2 := (by decide); omega
  obtain ⟨s2, hs2⟩ : ∃ s, m1 ++ n1 = s := ⟨_, rfl⟩
  have z2 : s2.size ≤ 52 := by rw [← hs2, cat_size]; omega
  have add1a := fun wx => run_string_add_sum (P := Tryd.prog) (w := wx) s1 (⟨#[32, 114]⟩ : ByteArray) (by have : (⟨#[32, 114]⟩ : ByteArray).size ≤ 2 := (by decide); omega)
  have add1b := fun wx => run_string_add_sum (P := Tryd.prog) (w := wx) m1 n1 (by omega)
  rw [hm1] at add1a
  rw [hs2] at add1b
  have hasm : asmOf ⟨2, xa, xb, xn⟩ = s2 := by
    unfold asmOf cntA cntB mostN opName
    simp only [sp, spr]
    simp [hs0, hn0, ← hs1, ← hm0, hn1, ← hs2, ← hm1, ByteArray.append_assoc]
  have HASM := Lib.hid hasm
  have HN0 := Lib.hid hn0
  have HN1 := Lib.hid hn1
  have HS0 := Lib.hid hs0
  clear hasm hs0 hn0 hm0 hs1 hn1 hm1 hs2
  obtain ⟨wb, hwb⟩ : ∃ wb, w.alloc (.cells #[.int .i64 2, .int .i64 xa, .int .i64 xb, .int .i64 xn] 25) = wb := ⟨_, rfl⟩
  have HX : Hid (Blk wb w.heap.size 25 #[.int .i64 2, .int .i64 xa, .int .i64 xb, .int .i64 xn]) := Lib.hid (by rw [← hwb]; exact Blk.new _ _ _)
  have HW : Hid (Below w.heap.size w wb) := Lib.hid (by rw [← hwb]; exact below_more (Below.refl _ _) _)
  have HWB := Lib.hid hwb
  clear hwb
  have k0 : wb.cell? ⟨w.heap.size, 0, none⟩ = some (.int .i64 2) := HX.out.cell 0 _ rfl
  have HNM := Lib.hid (l3Names_any wb.drew)
  have e0 : wb.drew.cell? ⟨w.heap.size, 0, none⟩ = some (.int .i64 2) := k0
  go_enter Tryd.func40, Tryd.ntmps40
  go_wp2_with fail
  rw [HWB.out]
  refine (l3Uses_any 2 (by omega) (by omega) _).mono ?_
  rintro e w0 ⟨rfl, hw⟩
  subst hw
  rw [show useA 2 = true from rfl, show useB 2 = true from rfl, show useN 2 = false from rfl]
  go_wp2_with fail
  go_region_with (go_at_call 50; (with_reducible refine HNM.out.mono ?_); rintro e w1 ⟨g, rfl, hnm, hgn, hbx⟩; replace hbx : Below wb.heap.size wb w1 := (below_d1 wb).trans hbx; replace HX := Lib.hid (Blk.kept hbx HX.out); replace HW := Lib.hid (below_then HW.out hbx); have hcn : w1.cell? ⟨g, 2, none⟩ = some (.string s0) := (by rw [HS0.out]; exact hnm.cell 2 _ rfl); replace k0 : w1.cell? ⟨w.heap.size, 0, none⟩ = some (.int .i64 2) := HX.out.cell 0 _ rfl; clear hnm hbx)
  all_goals
    clear k0 e0 hcn HWB
    have k0 := HX.out.cell 0 _ rfl
    have k1 := HX.out.cell 1 _ rfl
    have k2 := HX.out.cell 2 _ rfl
    have k3 := HX.out.cell 3 _ rfl
    go_wp2_with fail
    refine (l1Num_int xa (by omega) (by omega) _).mono ?_
    rintro e w2 ⟨rfl, jj, hw⟩
    have hbb : Below w1.heap.size w1 w2 := by rw [hw]; exact below_dj _ _
    replace HX := Lib.hid (Blk.kept hbb HX.out)
    replace HW := Lib.hid (below_then HW.out hbb)
    clear hw hbb k0 k1 k2 k3
    rw [HN0.out]
    have k0 := HX.out.cell 0 _ rfl
    have k1 := HX.out.cell 1 _ rfl
    have k2 := HX.out.cell 2 _ rfl
    have k3 := HX.out.cell 3 _ rfl
    go_wp2_with fail
    refine (l1Num_int xb (by omega) (by omega) _).mono ?_
    rintro e w3 ⟨rfl, jj, hw⟩
    have hbb : Below w2.heap.size w2 w3 := by rw [hw]; exact below_dj _ _
    replace HX := Lib.hid (Blk.kept hbb HX.out)
    replace HW := Lib.hid (below_then HW.out hbb)
    clear hw hbb k0 k1 k2 k3
    rw [HN1.out]
    have k0 := HX.out.cell 0 _ rfl
    have k1 := HX.out.cell 1 _ rfl
    have k2 := HX.out.cell 2 _ rfl
    have k3 := HX.out.cell 3 _ rfl
    go_wp2_with fail
    go_ret
    exact ⟨by rw [HASM.out]; rfl, HW.out⟩
set_option maxRecDepth 100000 in
set_option maxHeartbeats 1600000 in
theorem l3Text_3 (xa xb xn : Int) (w : World) (hok : Ok ⟨3, xa, xb, xn⟩) :
    Calls Tryd.prog 40 #[.agg #[.int .i64 3, .int .i64 xa, .int .i64 xb, .int .i64 xn]] w fun e w' => e = .returned (.string (asmOf ⟨3, xa, xb, xn⟩)) ∧ Below w.heap.size w w' := by
  have hbd := ok_bnd hok
  simp only at hbd
  obtain ⟨ha, hb, hn⟩ := hbd
  obtain ⟨s0, hs0⟩ : ∃ s : ByteArray, s = ⟨#[97, 100, 100]⟩ := ⟨_, rfl⟩
  have z0 : s0.size ≤ 8 := by rw [hs0]; decide
  obtain ⟨n0, hn0⟩ : ∃ n, NumB xa = n := ⟨_, rfl⟩
  have y0 : n0.size ≤ 20 := by rw [← hn0]; exact num_size xa (by omega) (by omega)
  obtain ⟨m0, hm0⟩ : ∃ m, s0 ++ (⟨#[32, 114]⟩ : ByteArray) = m := ⟨_, rfl⟩
  have x0 : m0.size ≤ 10 := by rw [← hm0, cat_size]; have : (⟨#[32, 114]⟩ : ByteArray).size ≤ 2 := (by decide); omega
  obtain ⟨s1, hs1⟩ : ∃ s, m0 ++ n0 = s := ⟨_, rfl⟩
  have z1 : s1.size ≤ 30 := by rw [← hs1, cat_size]; omega
  have add0a := fun wx => run_string_add_sum (P := Tryd.prog) (w := wx) s0 (⟨#[32, 114]⟩ : ByteArray) (by have : (⟨#[32, 114]⟩ : ByteArray).size ≤ 2 := (by decide); omega)
  have add0b := fun wx => run_string_add_sum (P := Tryd.prog) (w := wx) m0 n0 (by omega)
  rw [hm0] at add0a
  rw [hs1] at add0b
  obtain ⟨n1, hn1⟩ : ∃ n, NumB xb = n := ⟨_, rfl⟩
  have y1 : n1.size ≤ 20 := by rw [← hn1]; exact num_size xb (by omega) (by omega)
  obtain ⟨m1, hm1⟩ : ∃ m, s1 ++ (⟨#[32, 114]⟩ : ByteArray) = m := ⟨_, rfl⟩
  have x1 : m1.size ≤ 32 := by rw [← hm1, cat_size]; have : (⟨#[32, 114]⟩ : ByteArray).size ≤ 2 := (by decide); omega
  obtain ⟨s2, hs2⟩ : ∃ s, m1 ++ n1 = s := ⟨_, rfl⟩
  have z2 : s2.size ≤ 52 := by rw [← hs2, cat_size]; omega
  have add1a := fun wx => run_string_add_sum (P := Tryd.prog) (w := wx) s1 (⟨#[32, 114]⟩ : ByteArray) (by have : (⟨#[32, 114]⟩ : ByteArray).size ≤ 2 := (by decide); omega)
  have add1b := fun wx => run_string_add_sum (P := Tryd.prog) (w := wx) m1 n1 (by omega)
  rw [hm1] at add1a
  rw [hs2] at add1b
  have hasm : asmOf ⟨3, xa, xb, xn⟩ = s2 := by
    unfold asmOf cntA cntB mostN opName
    simp only [sp, spr]
    simp [hs0, hn0, ← hs1, ← hm0, hn1, ← hs2, ← hm1, ByteArray.append_assoc]
  have HASM := Lib.hid hasm
  have HN0 := Lib.hid hn0
  have HN1 := Lib.hid hn1
  have HS0 := Lib.hid hs0
  clear hasm hs0 hn0 hm0 hs1 hn1 hm1 hs2
  obtain ⟨wb, hwb⟩ : ∃ wb, w.alloc (.cells #[.int .i64 3, .int .i64 xa, .int .i64 xb, .int .i64 xn] 25) = wb := ⟨_, rfl⟩
  have HX : Hid (Blk wb w.heap.size 25 #[.int .i64 3, .int .i64 xa, .int .i64 xb, .int .i64 xn]) := Lib.hid (by rw [← hwb]; exact Blk.new _ _ _)
  have HW : Hid (Below w.heap.size w wb) := Lib.hid (by rw [← hwb]; exact below_more (Below.refl _ _) _)
  have HWB := Lib.hid hwb
  clear hwb
  have k0 : wb.cell? ⟨w.heap.size, 0, none⟩ = some (.int .i64 3) := HX.out.cell 0 _ rfl
  have HNM := Lib.hid (l3Names_any wb.drew)
  have e0 : wb.drew.cell? ⟨w.heap.size, 0, none⟩ = some (.int .i64 3) := k0
  go_enter Tryd.func40, Tryd.ntmps40
  go_wp2_with fail
  rw [HWB.out]
  refine (l3Uses_any 3 (by omega) (by omega) _).mono ?_
  rintro e w0 ⟨rfl, hw⟩
  subst hw
  rw [show useA 3 = true from rfl, show useB 3 = true from rfl, show useN 3 = false from rfl]
  go_wp2_with fail
  go_region_with (go_at_call 50; (with_reducible refine HNM.out.mono ?_); rintro e w1 ⟨g, rfl, hnm, hgn, hbx⟩; replace hbx : Below wb.heap.size wb w1 := (below_d1 wb).trans hbx; replace HX := Lib.hid (Blk.kept hbx HX.out); replace HW := Lib.hid (below_then HW.out hbx); have hcn : w1.cell? ⟨g, 3, none⟩ = some (.string s0) := (by rw [HS0.out]; exact hnm.cell 3 _ rfl); replace k0 : w1.cell? ⟨w.heap.size, 0, none⟩ = some (.int .i64 3) := HX.out.cell 0 _ rfl; clear hnm hbx)
  all_goals
    clear k0 e0 hcn HWB
    have k0 := HX.out.cell 0 _ rfl
    have k1 := HX.out.cell 1 _ rfl
    have k2 := HX.out.cell 2 _ rfl
    have k3 := HX.out.cell 3 _ rfl
    go_wp2_with fail
    refine (l1Num_int xa (by omega) (by omega) _).mono ?_
    rintro e w2 ⟨rfl, jj, hw⟩
    have hbb : Below w1.heap.size w1 w2 := by rw [hw]; exact below_dj _ _
    replace HX := Lib.hid (Blk.kept hbb HX.out)
    replace HW := Lib.hid (below_then HW.out hbb)
    clear hw hbb k0 k1 k2 k3
    rw [HN0.out]
    have k0 := HX.out.cell 0 _ rfl
    have k1 := HX.out.cell 1 _ rfl
    have k2 := HX.out.cell 2 _ rfl
    have k3 := HX.out.cell 3 _ rfl
    go_wp2_with fail
    refine (l1Num_int xb (by omega) (by omega) _).mono ?_
    rintro e w3 ⟨rfl, jj, hw⟩
    have hbb : Below w2.heap.size w2 w3 := by rw [hw]; exact below_dj _ _
    replace HX := Lib.hid (Blk.kept hbb HX.out)
    replace HW := Lib.hid (below_then HW.out hbb)
    clear hw hbb k0 k1 k2 k3
    rw [HN1.out]
    have k0 := HX.out.cell 0 _ rfl
    have k1 := HX.out.cell 1 _ rfl
    have k2 := HX.out.cell 2 _ rfl
    have k3 := HX.out.cell 3 _ rfl
    go_wp2_with fail
    go_ret
    exact ⟨by rw [HASM.out]; rfl, HW.out⟩
set_option maxRecDepth 100000 in
set_option maxHeartbeats 1600000 in
theorem l3Text_4 (xa xb xn : Int) (w : World) (hok : Ok ⟨4, xa, xb, xn⟩) :
    Calls Tryd.prog 40 #[.agg #[.int .i64 4, .int .i64 xa, .int .i64 xb, .int .i64 xn]] w fun e w' => e = .returned (.string (asmOf ⟨4, xa, xb, xn⟩)) ∧ Below w.heap.size w w' := by
  have hbd := ok_bnd hok
  simp only at hbd
  obtain ⟨ha, hb, hn⟩ := hbd
  obtain ⟨s0, hs0⟩ : ∃ s : ByteArray, s = ⟨#[115, 117, 98]⟩ := ⟨_, rfl⟩
  have z0 : s0.size ≤ 8 := by rw [hs0]; decide
  obtain ⟨n0, hn0⟩ : ∃ n, NumB xa = n := ⟨_, rfl⟩
  have y0 : n0.size ≤ 20 := by rw [← hn0]; exact num_size xa (by omega) (by omega)
  obtain ⟨m0, hm0⟩ : ∃ m, s0 ++ (⟨#[32, 114]⟩ : ByteArray) = m := ⟨_, rfl⟩
  have x0 : m0.size ≤ 10 := by rw [← hm0, cat_size]; have : (⟨#[32, 114]⟩ : ByteArray).size ≤ 2 := (by decide); omega
  obtain ⟨s1, hs1⟩ : ∃ s, m0 ++ n0 = s := ⟨_, rfl⟩
  have z1 : s1.size ≤ 30 := by rw [← hs1, cat_size]; omega
  have add0a := fun wx => run_string_add_sum (P := Tryd.prog) (w := wx) s0 (⟨#[32, 114]⟩ : ByteArray) (by have : (⟨#[32, 114]⟩ : ByteArray).size ≤ 2 := (by decide); omega)
  have add0b := fun wx => run_string_add_sum (P := Tryd.prog) (w := wx) m0 n0 (by omega)
  rw [hm0] at add0a
  rw [hs1] at add0b
  obtain ⟨n1, hn1⟩ : ∃ n, NumB xb = n := ⟨_, rfl⟩
  have y1 : n1.size ≤ 20 := by rw [← hn1]; exact num_size xb (by omega) (by omega)
  obtain ⟨m1, hm1⟩ : ∃ m, s1 ++ (⟨#[32, 114]⟩ : ByteArray) = m := ⟨_, rfl⟩
  have x1 : m1.size ≤ 32 := by rw [← hm1, cat_size]; have : (⟨#[32, 114]⟩ : ByteArray).size ≤ 2 := (by decide); omega
  obtain ⟨s2, hs2⟩ : ∃ s, m1 ++ n1 = s := ⟨_, rfl⟩
  have z2 : s2.size ≤ 52 := by rw [← hs2, cat_size]; omega
  have add1a := fun wx => run_string_add_sum (P := Tryd.prog) (w := wx) s1 (⟨#[32, 114]⟩ : ByteArray) (by have : (⟨#[32, 114]⟩ : ByteArray).size ≤ 2 := (by decide); omega)
  have add1b := fun wx => run_string_add_sum (P := Tryd.prog) (w := wx) m1 n1 (by omega)
  rw [hm1] at add1a
  rw [hs2] at add1b
  have hasm : asmOf ⟨4, xa, xb, xn⟩ = s2 := by
    unfold asmOf cntA cntB mostN opName
    simp only [sp, spr]
    simp [hs0, hn0, ← hs1, ← hm0, hn1, ← hs2, ← hm1, ByteArray.append_assoc]
  have HASM := Lib.hid hasm
  have HN0 := Lib.hid hn0
  have HN1 := Lib.hid hn1
  have HS0 := Lib.hid hs0
  clear hasm hs0 hn0 hm0 hs1 hn1 hm1 hs2
  obtain ⟨wb, hwb⟩ : ∃ wb, w.alloc (.cells #[.int .i64 4, .int .i64 xa, .int .i64 xb, .int .i64 xn] 25) = wb := ⟨_, rfl⟩
  have HX : Hid (Blk wb w.heap.size 25 #[.int .i64 4, .int .i64 xa, .int .i64 xb, .int .i64 xn]) := Lib.hid (by rw [← hwb]; exact Blk.new _ _ _)
  have HW : Hid (Below w.heap.size w wb) := Lib.hid (by rw [← hwb]; exact below_more (Below.refl _ _) _)
  have HWB := Lib.hid hwb
  clear hwb
  have k0 : wb.cell? ⟨w.heap.size, 0, none⟩ = some (.int .i64 4) := HX.out.cell 0 _ rfl
  have HNM := Lib.hid (l3Names_any wb.drew)
  have e0 : wb.drew.cell? ⟨w.heap.size, 0, none⟩ = some (.int .i64 4) := k0
  go_enter Tryd.func40, Tryd.ntmps40
  go_wp2_with fail
  rw [HWB.out]
  refine (l3Uses_any 4 (by omega) (by omega) _).mono ?_
  rintro e w0 ⟨rfl, hw⟩
  subst hw
  rw [show useA 4 = true from rfl, show useB 4 = true from rfl, show useN 4 = false from rfl]
  go_wp2_with fail
  go_region_with (go_at_call 50; (with_reducible refine HNM.out.mono ?_); rintro e w1 ⟨g, rfl, hnm, hgn, hbx⟩; replace hbx : Below wb.heap.size wb w1 := (below_d1 wb).trans hbx; replace HX := Lib.hid (Blk.kept hbx HX.out); replace HW := Lib.hid (below_then HW.out hbx); have hcn : w1.cell? ⟨g, 4, none⟩ = some (.string s0) := (by rw [HS0.out]; exact hnm.cell 4 _ rfl); replace k0 : w1.cell? ⟨w.heap.size, 0, none⟩ = some (.int .i64 4) := HX.out.cell 0 _ rfl; clear hnm hbx)
  all_goals
    clear k0 e0 hcn HWB
    have k0 := HX.out.cell 0 _ rfl
    have k1 := HX.out.cell 1 _ rfl
    have k2 := HX.out.cell 2 _ rfl
    have k3 := HX.out.cell 3 _ rfl
    go_wp2_with fail
    refine (l1Num_int xa (by omega) (by omega) _).mono ?_
    rintro e w2 ⟨rfl, jj, hw⟩
    have hbb : Below w1.heap.size w1 w2 := by rw [hw]; exact below_dj _ _
    replace HX := Lib.hid (Blk.kept hbb HX.out)
    replace HW := Lib.hid (below_then HW.out hbb)
    clear hw hbb k0 k1 k2 k3
    rw [HN0.out]
    have k0 := HX.out.cell 0 _ rfl
    have k1 := HX.out.cell 1 _ rfl
    have k2 := HX.out.cell 2 _ rfl
    have k3 := HX.out.cell 3 _ rfl
    go_wp2_with fail
    refine (l1Num_int xb (by omega) (by omega) _).mono ?_
    rintro e w3 ⟨rfl, jj, hw⟩
    have hbb : Below w2.heap.size w2 w3 := by rw [hw]; exact below_dj _ _
    replace HX := Lib.hid (Blk.kept hbb HX.out)
    replace HW := Lib.hid (below_then HW.out hbb)
    clear hw hbb k0 k1 k2 k3
    rw [HN1.out]
    have k0 := HX.out.cell 0 _ rfl
    have k1 := HX.out.cell 1 _ rfl
    have k2 := HX.out.cell 2 _ rfl
    have k3 := HX.out.cell 3 _ rfl
    go_wp2_with fail
    go_ret
    exact ⟨by rw [HASM.out]; rfl, HW.out⟩
set_option maxRecDepth 100000 in
set_option maxHeartbeats 1600000 in
theorem l3Text_5 (xa xb xn : Int) (w : World) (hok : Ok ⟨5, xa, xb, xn⟩) :
    Calls Tryd.prog 40 #[.agg #[.int .i64 5, .int .i64 xa, .int .i64 xb, .int .i64 xn]] w fun e w' => e = .returned (.string (asmOf ⟨5, xa, xb, xn⟩)) ∧ Below w.heap.size w w' := by
  have hbd := ok_bnd hok
  simp only at hbd
  obtain ⟨ha, hb, hn⟩ := hbd
  obtain ⟨s0, hs0⟩ : ∃ s : ByteArray, s = ⟨#[97, 110, 100]⟩ := ⟨_, rfl⟩
  have z0 : s0.size ≤ 8 := by rw [hs0]; decide
  obtain ⟨n0, hn0⟩ : ∃ n, NumB xa = n := ⟨_, rfl⟩
  have y0 : n0.size ≤ 20 := by rw [← hn0]; exact num_size xa (by omega) (by omega)
  obtain ⟨m0, hm0⟩ : ∃ m, s0 ++ (⟨#[32, 114]⟩ : ByteArray) = m := ⟨_, rfl⟩
  have x0 : m0.size ≤ 10 := by rw [← hm0, cat_size]; have : (⟨#[32, 114]⟩ : ByteArray).size ≤ 2 := (by decide); omega
  obtain ⟨s1, hs1⟩ : ∃ s, m0 ++ n0 = s := ⟨_, rfl⟩
  have z1 : s1.size ≤ 30 := by rw [← hs1, cat_size]; omega
  have add0a := fun wx => run_string_add_sum (P := Tryd.prog) (w := wx) s0 (⟨#[32, 114]⟩ : ByteArray) (by have : (⟨#[32, 114]⟩ : ByteArray).size ≤ 2 := (by decide); omega)
  have add0b := fun wx => run_string_add_sum (P := Tryd.prog) (w := wx) m0 n0 (by omega)
  rw [hm0] at add0a
  rw [hs1] at add0b
  obtain ⟨n1, hn1⟩ : ∃ n, NumB xb = n := ⟨_, rfl⟩
  have y1 : n1.size ≤ 20 := by rw [← hn1]; exact num_size xb (by omega) (by omega)
  obtain ⟨m1, hm1⟩ : ∃ m, s1 ++ (⟨#[32, 114]⟩ : ByteArray) = m := ⟨_, rfl⟩
  have x1 : m1.size ≤ 32 := by rw [← hm1, cat_size]; have : (⟨#[32, 114]⟩ : ByteArray).size ≤ 2 := (by decide); omega
  obtain ⟨s2, hs2⟩ : ∃ s, m1 ++ n1 = s := ⟨_, rfl⟩
  have z2 : s2.size ≤ 52 := by rw [← hs2, cat_size]; omega
  have add1a := fun wx => run_string_add_sum (P := Tryd.prog) (w := wx) s1 (⟨#[32, 114]⟩ : ByteArray) (by have : (⟨#[32, 114]⟩ : ByteArray).size ≤ 2 := (by decide); omega)
  have add1b := fun wx => run_string_add_sum (P := Tryd.prog) (w := wx) m1 n1 (by omega)
  rw [hm1] at add1a
  rw [hs2] at add1b
  have hasm : asmOf ⟨5, xa, xb, xn⟩ = s2 := by
    unfold asmOf cntA cntB mostN opName
    simp only [sp, spr]
    simp [hs0, hn0, ← hs1, ← hm0, hn1, ← hs2, ← hm1, ByteArray.append_assoc]
  have HASM := Lib.hid hasm
  have HN0 := Lib.hid hn0
  have HN1 := Lib.hid hn1
  have HS0 := Lib.hid hs0
  clear hasm hs0 hn0 hm0 hs1 hn1 hm1 hs2
  obtain ⟨wb, hwb⟩ : ∃ wb, w.alloc (.cells #[.int .i64 5, .int .i64 xa, .int .i64 xb, .int .i64 xn] 25) = wb := ⟨_, rfl⟩
  have HX : Hid (Blk wb w.heap.size 25 #[.int .i64 5, .int .i64 xa, .int .i64 xb, .int .i64 xn]) := Lib.hid (by rw [← hwb]; exact Blk.new _ _ _)
  have HW : Hid (Below w.heap.size w wb) := Lib.hid (by rw [← hwb]; exact below_more (Below.refl _ _) _)
  have HWB := Lib.hid hwb
  clear hwb
  have k0 : wb.cell? ⟨w.heap.size, 0, none⟩ = some (.int .i64 5) := HX.out.cell 0 _ rfl
  have HNM := Lib.hid (l3Names_any wb.drew)
  have e0 : wb.drew.cell? ⟨w.heap.size, 0, none⟩ = some (.int .i64 5) := k0
  go_enter Tryd.func40, Tryd.ntmps40
  go_wp2_with fail
  rw [HWB.out]
  refine (l3Uses_any 5 (by omega) (by omega) _).mono ?_
  rintro e w0 ⟨rfl, hw⟩
  subst hw
  rw [show useA 5 = true from rfl, show useB 5 = true from rfl, show useN 5 = false from rfl]
  go_wp2_with fail
  go_region_with (go_at_call 50; (with_reducible refine HNM.out.mono ?_); rintro e w1 ⟨g, rfl, hnm, hgn, hbx⟩; replace hbx : Below wb.heap.size wb w1 := (below_d1 wb).trans hbx; replace HX := Lib.hid (Blk.kept hbx HX.out); replace HW := Lib.hid (below_then HW.out hbx); have hcn : w1.cell? ⟨g, 5, none⟩ = some (.string s0) := (by rw [HS0.out]; exact hnm.cell 5 _ rfl); replace k0 : w1.cell? ⟨w.heap.size, 0, none⟩ = some (.int .i64 5) := HX.out.cell 0 _ rfl; clear hnm hbx)
  all_goals
    clear k0 e0 hcn HWB
    have k0 := HX.out.cell 0 _ rfl
    have k1 := HX.out.cell 1 _ rfl
    have k2 := HX.out.cell 2 _ rfl
    have k3 := HX.out.cell 3 _ rfl
    go_wp2_with fail
    refine (l1Num_int xa (by omega) (by omega) _).mono ?_
    rintro e w2 ⟨rfl, jj, hw⟩
    have hbb : Below w1.heap.size w1 w2 := by rw [hw]; exact below_dj _ _
    replace HX := Lib.hid (Blk.kept hbb HX.out)
    replace HW := Lib.hid (below_then HW.out hbb)
    clear hw hbb k0 k1 k2 k3
    rw [HN0.out]
    have k0 := HX.out.cell 0 _ rfl
    have k1 := HX.out.cell 1 _ rfl
    have k2 := HX.out.cell 2 _ rfl
    have k3 := HX.out.cell 3 _ rfl
    go_wp2_with fail
    refine (l1Num_int xb (by omega) (by omega) _).mono ?_
    rintro e w3 ⟨rfl, jj, hw⟩
    have hbb : Below w2.heap.size w2 w3 := by rw [hw]; exact below_dj _ _
    replace HX := Lib.hid (Blk.kept hbb HX.out)
    replace HW := Lib.hid (below_then HW.out hbb)
    clear hw hbb k0 k1 k2 k3
    rw [HN1.out]
    have k0 := HX.out.cell 0 _ rfl
    have k1 := HX.out.cell 1 _ rfl
    have k2 := HX.out.cell 2 _ rfl
    have k3 := HX.out.cell 3 _ rfl
    go_wp2_with fail
    go_ret
    exact ⟨by rw [HASM.out]; rfl, HW.out⟩
set_option maxRecDepth 100000 in
set_option maxHeartbeats 1600000 in
theorem l3Text_6 (xa xb xn : Int) (w : World) (hok : Ok ⟨6, xa, xb, xn⟩) :
    Calls Tryd.prog 40 #[.agg #[.int .i64 6, .int .i64 xa, .int .i64 xb, .int .i64 xn]] w fun e w' => e = .returned (.string (asmOf ⟨6, xa, xb, xn⟩)) ∧ Below w.heap.size w w' := by
  have hbd := ok_bnd hok
  simp only at hbd
  obtain ⟨ha, hb, hn⟩ := hbd
  obtain ⟨s0, hs0⟩ : ∃ s : ByteArray, s = ⟨#[115, 104, 105, 102, 116]⟩ := ⟨_, rfl⟩
  have z0 : s0.size ≤ 8 := by rw [hs0]; decide
  obtain ⟨n0, hn0⟩ : ∃ n, NumB xa = n := ⟨_, rfl⟩
  have y0 : n0.size ≤ 20 := by rw [← hn0]; exact num_size xa (by omega) (by omega)
  obtain ⟨m0, hm0⟩ : ∃ m, s0 ++ (⟨#[32, 114]⟩ : ByteArray) = m := ⟨_, rfl⟩
  have x0 : m0.size ≤ 10 := by rw [← hm0, cat_size]; have : (⟨#[32, 114]⟩ : ByteArray).size ≤ 2 := (by decide); omega
  obtain ⟨s1, hs1⟩ : ∃ s, m0 ++ n0 = s := ⟨_, rfl⟩
  have z1 : s1.size ≤ 30 := by rw [← hs1, cat_size]; omega
  have add0a := fun wx => run_string_add_sum (P := Tryd.prog) (w := wx) s0 (⟨#[32, 114]⟩ : ByteArray) (by have : (⟨#[32, 114]⟩ : ByteArray).size ≤ 2 := (by decide); omega)
  have add0b := fun wx => run_string_add_sum (P := Tryd.prog) (w := wx) m0 n0 (by omega)
  rw [hm0] at add0a
  rw [hs1] at add0b
  obtain ⟨n1, hn1⟩ : ∃ n, NumB xn = n := ⟨_, rfl⟩
  have y1 : n1.size ≤ 20 := by rw [← hn1]; exact num_size xn (by omega) (by omega)
  obtain ⟨m1, hm1⟩ : ∃ m, s1 ++ (⟨#[32]⟩ : ByteArray) = m := ⟨_, rfl⟩
  have x1 : m1.size ≤ 32 := by rw [← hm1, cat_size]; have : (⟨#[32]⟩ : ByteArray).size ≤ 2 := (by decide); omega
  obtain ⟨s2, hs2⟩ : ∃ s, m1 ++ n1 = s := ⟨_, rfl⟩
  have z2 : s2.size ≤ 52 := by rw [← hs2, cat_size]; omega
  have add1a := fun wx => run_string_add_sum (P := Tryd.prog) (w := wx) s1 (⟨#[32]⟩ : ByteArray) (by have : (⟨#[32]⟩ : ByteArray).size ≤ 2 := (by decide); omega)
  have add1b := fun wx => run_string_add_sum (P := Tryd.prog) (w := wx) m1 n1 (by omega)
  rw [hm1] at add1a
  rw [hs2] at add1b
  have hasm : asmOf ⟨6, xa, xb, xn⟩ = s2 := by
    unfold asmOf cntA cntB mostN opName
    simp only [sp, spr]
    simp [hs0, hn0, ← hs1, ← hm0, hn1, ← hs2, ← hm1, ByteArray.append_assoc]
  have HASM := Lib.hid hasm
  have HN0 := Lib.hid hn0
  have HN1 := Lib.hid hn1
  have HS0 := Lib.hid hs0
  clear hasm hs0 hn0 hm0 hs1 hn1 hm1 hs2
  obtain ⟨wb, hwb⟩ : ∃ wb, w.alloc (.cells #[.int .i64 6, .int .i64 xa, .int .i64 xb, .int .i64 xn] 25) = wb := ⟨_, rfl⟩
  have HX : Hid (Blk wb w.heap.size 25 #[.int .i64 6, .int .i64 xa, .int .i64 xb, .int .i64 xn]) := Lib.hid (by rw [← hwb]; exact Blk.new _ _ _)
  have HW : Hid (Below w.heap.size w wb) := Lib.hid (by rw [← hwb]; exact below_more (Below.refl _ _) _)
  have HWB := Lib.hid hwb
  clear hwb
  have k0 : wb.cell? ⟨w.heap.size, 0, none⟩ = some (.int .i64 6) := HX.out.cell 0 _ rfl
  have HNM := Lib.hid (l3Names_any wb.drew)
  have e0 : wb.drew.cell? ⟨w.heap.size, 0, none⟩ = some (.int .i64 6) := k0
  go_enter Tryd.func40, Tryd.ntmps40
  go_wp2_with fail
  rw [HWB.out]
  refine (l3Uses_any 6 (by omega) (by omega) _).mono ?_
  rintro e w0 ⟨rfl, hw⟩
  subst hw
  rw [show useA 6 = true from rfl, show useB 6 = false from rfl, show useN 6 = true from rfl]
  go_wp2_with fail
  go_region_with (go_at_call 50; (with_reducible refine HNM.out.mono ?_); rintro e w1 ⟨g, rfl, hnm, hgn, hbx⟩; replace hbx : Below wb.heap.size wb w1 := (below_d1 wb).trans hbx; replace HX := Lib.hid (Blk.kept hbx HX.out); replace HW := Lib.hid (below_then HW.out hbx); have hcn : w1.cell? ⟨g, 6, none⟩ = some (.string s0) := (by rw [HS0.out]; exact hnm.cell 6 _ rfl); replace k0 : w1.cell? ⟨w.heap.size, 0, none⟩ = some (.int .i64 6) := HX.out.cell 0 _ rfl; clear hnm hbx)
  all_goals
    clear k0 e0 hcn HWB
    have k0 := HX.out.cell 0 _ rfl
    have k1 := HX.out.cell 1 _ rfl
    have k2 := HX.out.cell 2 _ rfl
    have k3 := HX.out.cell 3 _ rfl
    go_wp2_with fail
    refine (l1Num_int xa (by omega) (by omega) _).mono ?_
    rintro e w2 ⟨rfl, jj, hw⟩
    have hbb : Below w1.heap.size w1 w2 := by rw [hw]; exact below_dj _ _
    replace HX := Lib.hid (Blk.kept hbb HX.out)
    replace HW := Lib.hid (below_then HW.out hbb)
    clear hw hbb k0 k1 k2 k3
    rw [HN0.out]
    have k0 := HX.out.cell 0 _ rfl
    have k1 := HX.out.cell 1 _ rfl
    have k2 := HX.out.cell 2 _ rfl
    have k3 := HX.out.cell 3 _ rfl
    go_wp2_with fail
    refine (l1Num_int xn (by omega) (by omega) _).mono ?_
    rintro e w3 ⟨rfl, jj, hw⟩
    have hbb : Below w2.heap.size w2 w3 := by rw [hw]; exact below_dj _ _
    replace HX := Lib.hid (Blk.kept hbb HX.out)
    replace HW := Lib.hid (below_then HW.out hbb)
    clear hw hbb k0 k1 k2 k3
    rw [HN1.out]
    have k0 := HX.out.cell 0 _ rfl
    have k1 := HX.out.cell 1 _ rfl
    have k2 := HX.out.cell 2 _ rfl
    have k3 := HX.out.cell 3 _ rfl
    go_wp2_with fail
    go_ret
    exact ⟨by rw [HASM.out]; rfl, HW.out⟩
set_option maxRecDepth 100000 in
set_option maxHeartbeats 1600000 in
theorem l3Text_7 (xa xb xn : Int) (w : World) (hok : Ok ⟨7, xa, xb, xn⟩) :
    Calls Tryd.prog 40 #[.agg #[.int .i64 7, .int .i64 xa, .int .i64 xb, .int .i64 xn]] w fun e w' => e = .returned (.string (asmOf ⟨7, xa, xb, xn⟩)) ∧ Below w.heap.size w w' := by
  have hbd := ok_bnd hok
  simp only at hbd
  obtain ⟨ha, hb, hn⟩ := hbd
  obtain ⟨s0, hs0⟩ : ∃ s : ByteArray, s = ⟨#[106, 117, 109, 112]⟩ := ⟨_, rfl⟩
  have z0 : s0.size ≤ 8 := by rw [hs0]; decide
  obtain ⟨n0, hn0⟩ : ∃ n, NumB xn = n := ⟨_, rfl⟩
  have y0 : n0.size ≤ 20 := by rw [← hn0]; exact num_size xn (by omega) (by omega)
  obtain ⟨m0, hm0⟩ : ∃ m, s0 ++ (⟨#[32]⟩ : ByteArray) = m := ⟨_, rfl⟩
  have x0 : m0.size ≤ 10 := by rw [← hm0, cat_size]; have : (⟨#[32]⟩ : ByteArray).size ≤ 2 := (by decide); omega
  obtain ⟨s1, hs1⟩ : ∃ s, m0 ++ n0 = s := ⟨_, rfl⟩
  have z1 : s1.size ≤ 30 := by rw [← hs1, cat_size]; omega
  have add0a := fun wx => run_string_add_sum (P := Tryd.prog) (w := wx) s0 (⟨#[32]⟩ : ByteArray) (by have : (⟨#[32]⟩ : ByteArray).size ≤ 2 := (by decide); omega)
  have add0b := fun wx => run_string_add_sum (P := Tryd.prog) (w := wx) m0 n0 (by omega)
  rw [hm0] at add0a
  rw [hs1] at add0b
  have hasm : asmOf ⟨7, xa, xb, xn⟩ = s1 := by
    unfold asmOf cntA cntB mostN opName
    simp only [sp, spr]
    simp [hs0, hn0, ← hs1, ← hm0, ByteArray.append_assoc]
  have HASM := Lib.hid hasm
  have HN0 := Lib.hid hn0
  have HS0 := Lib.hid hs0
  clear hasm hs0 hn0 hm0 hs1
  obtain ⟨wb, hwb⟩ : ∃ wb, w.alloc (.cells #[.int .i64 7, .int .i64 xa, .int .i64 xb, .int .i64 xn] 25) = wb := ⟨_, rfl⟩
  have HX : Hid (Blk wb w.heap.size 25 #[.int .i64 7, .int .i64 xa, .int .i64 xb, .int .i64 xn]) := Lib.hid (by rw [← hwb]; exact Blk.new _ _ _)
  have HW : Hid (Below w.heap.size w wb) := Lib.hid (by rw [← hwb]; exact below_more (Below.refl _ _) _)
  have HWB := Lib.hid hwb
  clear hwb
  have k0 : wb.cell? ⟨w.heap.size, 0, none⟩ = some (.int .i64 7) := HX.out.cell 0 _ rfl
  have HNM := Lib.hid (l3Names_any wb.drew)
  have e0 : wb.drew.cell? ⟨w.heap.size, 0, none⟩ = some (.int .i64 7) := k0
  go_enter Tryd.func40, Tryd.ntmps40
  go_wp2_with fail
  rw [HWB.out]
  refine (l3Uses_any 7 (by omega) (by omega) _).mono ?_
  rintro e w0 ⟨rfl, hw⟩
  subst hw
  rw [show useA 7 = false from rfl, show useB 7 = false from rfl, show useN 7 = true from rfl]
  go_wp2_with fail
  go_region_with (go_at_call 50; (with_reducible refine HNM.out.mono ?_); rintro e w1 ⟨g, rfl, hnm, hgn, hbx⟩; replace hbx : Below wb.heap.size wb w1 := (below_d1 wb).trans hbx; replace HX := Lib.hid (Blk.kept hbx HX.out); replace HW := Lib.hid (below_then HW.out hbx); have hcn : w1.cell? ⟨g, 7, none⟩ = some (.string s0) := (by rw [HS0.out]; exact hnm.cell 7 _ rfl); replace k0 : w1.cell? ⟨w.heap.size, 0, none⟩ = some (.int .i64 7) := HX.out.cell 0 _ rfl; clear hnm hbx)
  all_goals
    clear k0 e0 hcn HWB
    have k0 := HX.out.cell 0 _ rfl
    have k1 := HX.out.cell 1 _ rfl
    have k2 := HX.out.cell 2 _ rfl
    have k3 := HX.out.cell 3 _ rfl
    go_wp2_with fail
    refine (l1Num_int xn (by omega) (by omega) _).mono ?_
    rintro e w2 ⟨rfl, jj, hw⟩
    have hbb : Below w1.heap.size w1 w2 := by rw [hw]; exact below_dj _ _
    replace HX := Lib.hid (Blk.kept hbb HX.out)
    replace HW := Lib.hid (below_then HW.out hbb)
    clear hw hbb k0 k1 k2 k3
    rw [HN0.out]
    have k0 := HX.out.cell 0 _ rfl
    have k1 := HX.out.cell 1 _ rfl
    have k2 := HX.out.cell 2 _ rfl
    have k3 := HX.out.cell 3 _ rfl
    go_wp2_with fail
    go_ret
    exact ⟨by rw [HASM.out]; rfl, HW.out⟩
set_option maxRecDepth 100000 in
set_option maxHeartbeats 1600000 in
theorem l3Text_8 (xa xb xn : Int) (w : World) (hok : Ok ⟨8, xa, xb, xn⟩) :
    Calls Tryd.prog 40 #[.agg #[.int .i64 8, .int .i64 xa, .int .i64 xb, .int .i64 xn]] w fun e w' => e = .returned (.string (asmOf ⟨8, xa, xb, xn⟩)) ∧ Below w.heap.size w w' := by
  have hbd := ok_bnd hok
  simp only at hbd
  obtain ⟨ha, hb, hn⟩ := hbd
  obtain ⟨s0, hs0⟩ : ∃ s : ByteArray, s = ⟨#[106, 117, 109, 112, 122, 101, 114, 111]⟩ := ⟨_, rfl⟩
  have z0 : s0.size ≤ 8 := by rw [hs0]; decide
  obtain ⟨n0, hn0⟩ : ∃ n, NumB xn = n := ⟨_, rfl⟩
  have y0 : n0.size ≤ 20 := by rw [← hn0]; exact num_size xn (by omega) (by omega)
  obtain ⟨m0, hm0⟩ : ∃ m, s0 ++ (⟨#[32]⟩ : ByteArray) = m := ⟨_, rfl⟩
  have x0 : m0.size ≤ 10 := by rw [← hm0, cat_size]; have : (⟨#[32]⟩ : ByteArray).size ≤ 2 := (by decide); omega
  obtain ⟨s1, hs1⟩ : ∃ s, m0 ++ n0 = s := ⟨_, rfl⟩
  have z1 : s1.size ≤ 30 := by rw [← hs1, cat_size]; omega
  have add0a := fun wx => run_string_add_sum (P := Tryd.prog) (w := wx) s0 (⟨#[32]⟩ : ByteArray) (by have : (⟨#[32]⟩ : ByteArray).size ≤ 2 := (by decide); omega)
  have add0b := fun wx => run_string_add_sum (P := Tryd.prog) (w := wx) m0 n0 (by omega)
  rw [hm0] at add0a
  rw [hs1] at add0b
  have hasm : asmOf ⟨8, xa, xb, xn⟩ = s1 := by
    unfold asmOf cntA cntB mostN opName
    simp only [sp, spr]
    simp [hs0, hn0, ← hs1, ← hm0, ByteArray.append_assoc]
  have HASM := Lib.hid hasm
  have HN0 := Lib.hid hn0
  have HS0 := Lib.hid hs0
  clear hasm hs0 hn0 hm0 hs1
  obtain ⟨wb, hwb⟩ : ∃ wb, w.alloc (.cells #[.int .i64 8, .int .i64 xa, .int .i64 xb, .int .i64 xn] 25) = wb := ⟨_, rfl⟩
  have HX : Hid (Blk wb w.heap.size 25 #[.int .i64 8, .int .i64 xa, .int .i64 xb, .int .i64 xn]) := Lib.hid (by rw [← hwb]; exact Blk.new _ _ _)
  have HW : Hid (Below w.heap.size w wb) := Lib.hid (by rw [← hwb]; exact below_more (Below.refl _ _) _)
  have HWB := Lib.hid hwb
  clear hwb
  have k0 : wb.cell? ⟨w.heap.size, 0, none⟩ = some (.int .i64 8) := HX.out.cell 0 _ rfl
  have HNM := Lib.hid (l3Names_any wb.drew)
  have e0 : wb.drew.cell? ⟨w.heap.size, 0, none⟩ = some (.int .i64 8) := k0
  go_enter Tryd.func40, Tryd.ntmps40
  go_wp2_with fail
  rw [HWB.out]
  refine (l3Uses_any 8 (by omega) (by omega) _).mono ?_
  rintro e w0 ⟨rfl, hw⟩
  subst hw
  rw [show useA 8 = false from rfl, show useB 8 = false from rfl, show useN 8 = true from rfl]
  go_wp2_with fail
  go_region_with (go_at_call 50; (with_reducible refine HNM.out.mono ?_); rintro e w1 ⟨g, rfl, hnm, hgn, hbx⟩; replace hbx : Below wb.heap.size wb w1 := (below_d1 wb).trans hbx; replace HX := Lib.hid (Blk.kept hbx HX.out); replace HW := Lib.hid (below_then HW.out hbx); have hcn : w1.cell? ⟨g, 8, none⟩ = some (.string s0) := (by rw [HS0.out]; exact hnm.cell 8 _ rfl); replace k0 : w1.cell? ⟨w.heap.size, 0, none⟩ = some (.int .i64 8) := HX.out.cell 0 _ rfl; clear hnm hbx)
  all_goals
    clear k0 e0 hcn HWB
    have k0 := HX.out.cell 0 _ rfl
    have k1 := HX.out.cell 1 _ rfl
    have k2 := HX.out.cell 2 _ rfl
    have k3 := HX.out.cell 3 _ rfl
    go_wp2_with fail
    refine (l1Num_int xn (by omega) (by omega) _).mono ?_
    rintro e w2 ⟨rfl, jj, hw⟩
    have hbb : Below w1.heap.size w1 w2 := by rw [hw]; exact below_dj _ _
    replace HX := Lib.hid (Blk.kept hbb HX.out)
    replace HW := Lib.hid (below_then HW.out hbb)
    clear hw hbb k0 k1 k2 k3
    rw [HN0.out]
    have k0 := HX.out.cell 0 _ rfl
    have k1 := HX.out.cell 1 _ rfl
    have k2 := HX.out.cell 2 _ rfl
    have k3 := HX.out.cell 3 _ rfl
    go_wp2_with fail
    go_ret
    exact ⟨by rw [HASM.out]; rfl, HW.out⟩
set_option maxRecDepth 100000 in
set_option maxHeartbeats 1600000 in
theorem l3Text_9 (xa xb xn : Int) (w : World) (hok : Ok ⟨9, xa, xb, xn⟩) :
    Calls Tryd.prog 40 #[.agg #[.int .i64 9, .int .i64 xa, .int .i64 xb, .int .i64 xn]] w fun e w' => e = .returned (.string (asmOf ⟨9, xa, xb, xn⟩)) ∧ Below w.heap.size w w' := by
  have hbd := ok_bnd hok
  simp only at hbd
  obtain ⟨ha, hb, hn⟩ := hbd
  obtain ⟨s0, hs0⟩ : ∃ s : ByteArray, s = ⟨#[116, 114, 97, 112]⟩ := ⟨_, rfl⟩
  have z0 : s0.size ≤ 8 := by rw [hs0]; decide
  obtain ⟨n0, hn0⟩ : ∃ n, NumB xn = n := ⟨_, rfl⟩
  have y0 : n0.size ≤ 20 := by rw [← hn0]; exact num_size xn (by omega) (by omega)
  obtain ⟨m0, hm0⟩ : ∃ m, s0 ++ (⟨#[32]⟩ : ByteArray) = m := ⟨_, rfl⟩
  have x0 : m0.size ≤ 10 := by rw [← hm0, cat_size]; have : (⟨#[32]⟩ : ByteArray).size ≤ 2 := (by decide); omega
  obtain ⟨s1, hs1⟩ : ∃ s, m0 ++ n0 = s := ⟨_, rfl⟩
  have z1 : s1.size ≤ 30 := by rw [← hs1, cat_size]; omega
  have add0a := fun wx => run_string_add_sum (P := Tryd.prog) (w := wx) s0 (⟨#[32]⟩ : ByteArray) (by have : (⟨#[32]⟩ : ByteArray).size ≤ 2 := (by decide); omega)
  have add0b := fun wx => run_string_add_sum (P := Tryd.prog) (w := wx) m0 n0 (by omega)
  rw [hm0] at add0a
  rw [hs1] at add0b
  have hasm : asmOf ⟨9, xa, xb, xn⟩ = s1 := by
    unfold asmOf cntA cntB mostN opName
    simp only [sp, spr]
    simp [hs0, hn0, ← hs1, ← hm0, ByteArray.append_assoc]
  have HASM := Lib.hid hasm
  have HN0 := Lib.hid hn0
  have HS0 := Lib.hid hs0
  clear hasm hs0 hn0 hm0 hs1
  obtain ⟨wb, hwb⟩ : ∃ wb, w.alloc (.cells #[.int .i64 9, .int .i64 xa, .int .i64 xb, .int .i64 xn] 25) = wb := ⟨_, rfl⟩
  have HX : Hid (Blk wb w.heap.size 25 #[.int .i64 9, .int .i64 xa, .int .i64 xb, .int .i64 xn]) := Lib.hid (by rw [← hwb]; exact Blk.new _ _ _)
  have HW : Hid (Below w.heap.size w wb) := Lib.hid (by rw [← hwb]; exact below_more (Below.refl _ _) _)
  have HWB := Lib.hid hwb
  clear hwb
  have k0 : wb.cell? ⟨w.heap.size, 0, none⟩ = some (.int .i64 9) := HX.out.cell 0 _ rfl
  have HNM := Lib.hid (l3Names_any wb.drew)
  have e0 : wb.drew.cell? ⟨w.heap.size, 0, none⟩ = some (.int .i64 9) := k0
  go_enter Tryd.func40, Tryd.ntmps40
  go_wp2_with fail
  rw [HWB.out]
  refine (l3Uses_any 9 (by omega) (by omega) _).mono ?_
  rintro e w0 ⟨rfl, hw⟩
  subst hw
  rw [show useA 9 = false from rfl, show useB 9 = false from rfl, show useN 9 = true from rfl]
  go_wp2_with fail
  go_region_with (go_at_call 50; (with_reducible refine HNM.out.mono ?_); rintro e w1 ⟨g, rfl, hnm, hgn, hbx⟩; replace hbx : Below wb.heap.size wb w1 := (below_d1 wb).trans hbx; replace HX := Lib.hid (Blk.kept hbx HX.out); replace HW := Lib.hid (below_then HW.out hbx); have hcn : w1.cell? ⟨g, 9, none⟩ = some (.string s0) := (by rw [HS0.out]; exact hnm.cell 9 _ rfl); replace k0 : w1.cell? ⟨w.heap.size, 0, none⟩ = some (.int .i64 9) := HX.out.cell 0 _ rfl; clear hnm hbx)
  all_goals
    clear k0 e0 hcn HWB
    have k0 := HX.out.cell 0 _ rfl
    have k1 := HX.out.cell 1 _ rfl
    have k2 := HX.out.cell 2 _ rfl
    have k3 := HX.out.cell 3 _ rfl
    go_wp2_with fail
    refine (l1Num_int xn (by omega) (by omega) _).mono ?_
    rintro e w2 ⟨rfl, jj, hw⟩
    have hbb : Below w1.heap.size w1 w2 := by rw [hw]; exact below_dj _ _
    replace HX := Lib.hid (Blk.kept hbb HX.out)
    replace HW := Lib.hid (below_then HW.out hbb)
    clear hw hbb k0 k1 k2 k3
    rw [HN0.out]
    have k0 := HX.out.cell 0 _ rfl
    have k1 := HX.out.cell 1 _ rfl
    have k2 := HX.out.cell 2 _ rfl
    have k3 := HX.out.cell 3 _ rfl
    go_wp2_with fail
    go_ret
    exact ⟨by rw [HASM.out]; rfl, HW.out⟩
theorem l3Text_any (x : Ins) (w : World) (hok : Ok x) :
    Calls Tryd.prog 40 #[.agg #[.int .i64 x.op, .int .i64 x.a, .int .i64 x.b, .int .i64 x.n]] w fun e w' => e = .returned (.string (asmOf x)) ∧ Below w.heap.size w w' := by
  obtain ⟨op, xa, xb, xn⟩ := x
  have h := hok.1
  simp only at h ⊢
  rcases ops h.1 h.2 with rfl | rfl | rfl | rfl | rfl | rfl | rfl | rfl | rfl | rfl
  · exact l3Text_0 xa xb xn w hok
  · exact l3Text_1 xa xb xn w hok
  · exact l3Text_2 xa xb xn w hok
  · exact l3Text_3 xa xb xn w hok
  · exact l3Text_4 xa xb xn w hok
  · exact l3Text_5 xa xb xn w hok
  · exact l3Text_6 xa xb xn w hok
  · exact l3Text_7 xa xb xn w hok
  · exact l3Text_8 xa xb xn w hok
  · exact l3Text_9 xa xb xn w hok
theorem implAsm_yes (x : Ins) (w : World) (hok : Ok x) (ho : OpsIs w) (ht : Lib.TabIs Tryd.prog w "internal/strconv.uint64pow10" .u64 Lib.pow10Tab) :
    Calls Tryd.prog 14 #[.agg #[.int .i64 x.op, .int .i64 x.a, .int .i64 x.b, .int .i64 x.n]] w fun e w' => e = .returned (.tuple #[.string (asmOf x), .bool true]) ∧ Below w.heap.size w w' := by
  obtain ⟨op, xa, xb, xn⟩ := x
  have h := hok.1
  simp only at h ⊢
  rcases ops h.1 h.2 with rfl | rfl | rfl | rfl | rfl | rfl | rfl | rfl | rfl | rfl
  · exact implAsm_0 xa xb xn w hok ho ht
  · exact implAsm_1 xa xb xn w hok ho ht
  · exact implAsm_2 xa xb xn w hok ho ht
  · exact implAsm_3 xa xb xn w hok ho ht
  · exact implAsm_4 xa xb xn w hok ho ht
  · exact implAsm_5 xa xb xn w hok ho ht
  · exact implAsm_6 xa xb xn w hok ho ht
  · exact implAsm_7 xa xb xn w hok ho ht
  · exact implAsm_8 xa xb xn w hok ho ht
  · exact implAsm_9 xa xb xn w hok ho ht
/-- the answer of AssemblyText -/
def asmAns (x : Ins) : Value := if Ok x then .tuple #[.string (asmOf x), .bool true] else .tuple #[.string ByteArray.empty, .bool false]
set_option maxRecDepth 100000 in
theorem specAsm_any (x : Ins) (w : World) :
    Calls Tryd.prog 15 #[.agg #[.int .i64 x.op, .int .i64 x.a, .int .i64 x.b, .int .i64 x.n]] w fun e w' => e = .returned (asmAns x) ∧ Below w.heap.size w w' := by
  by_cases hok : Ok x
  · have hv : asmAns x = .tuple #[.string (asmOf x), .bool true] := by unfold asmAns; rw [if_pos hok]
    rw [hv]
    have HT := Lib.hid fun w => l3Text_any x w hok
    have HOK := Lib.hid hok
    obtain ⟨t, ht⟩ : ∃ t, asmOf x = t := ⟨_, rfl⟩
    rw [ht] at HT ⊢
    clear hv ht hok
    obtain ⟨op, xa, xb, xn⟩ := x
    dsimp only at HT ⊢
    go_enter Tryd.func15, Tryd.ntmps15
    go_wp2_with fail
    refine (l3One_any ⟨op, xa, xb, xn⟩ _ true (decide_eq_true HOK.out)).mono ?_
    rintro e w1 ⟨rfl, hb⟩
    have HX := Lib.hid (Blk.kept hb (Blk.new _ _ _))
    have HW := Lib.hid (below_then (below_more (Below.refl _ _) _) hb)
    clear hb
    have k0 := HX.out.cell 0 _ rfl
    have k1 := HX.out.cell 1 _ rfl
    have k2 := HX.out.cell 2 _ rfl
    have k3 := HX.out.cell 3 _ rfl
    go_wp2_with fail
    refine (HT.out _).mono ?_
    rintro e w2 ⟨rfl, hb⟩
    replace HW := Lib.hid (below_then HW.out hb)
    clear hb k0 k1 k2 k3
    go_wp2_with fail
    go_ret2
    exact ⟨rfl, HW.out⟩
  · have hv : asmAns x = .tuple #[.string ByteArray.empty, .bool false] := by unfold asmAns; rw [if_neg hok]
    rw [hv]
    have HOK := Lib.hid hok
    clear hv hok
    obtain ⟨op, xa, xb, xn⟩ := x
    dsimp only
    go_enter Tryd.func15, Tryd.ntmps15
    go_wp2_with fail
    refine (l3One_any ⟨op, xa, xb, xn⟩ _ false (decide_eq_false HOK.out)).mono ?_
    rintro e w1 ⟨rfl, hb⟩
    go_wp2_with fail
    go_ret2
    exact ⟨rfl, below_then (below_more (Below.refl _ _) _) hb⟩
set_option maxRecDepth 100000 in
theorem implAsm_any (x : Ins) (w : World) (ho : OpsIs w) (ht : Lib.TabIs Tryd.prog w "internal/strconv.uint64pow10" .u64 Lib.pow10Tab) :
    Calls Tryd.prog 14 #[.agg #[.int .i64 x.op, .int .i64 x.a, .int .i64 x.b, .int .i64 x.n]] w fun e w' => e = .returned (asmAns x) ∧ Below w.heap.size w w' := by
  by_cases hok : Ok x
  · rw [show asmAns x = .tuple #[.string (asmOf x), .bool true] by unfold asmAns; rw [if_pos hok]]
    exact implAsm_yes x w hok ho ht
  · have hv : asmAns x = .tuple #[.string ByteArray.empty, .bool false] := by unfold asmAns; rw [if_neg hok]
    rw [hv]
    have HOK := Lib.hid hok
    have HO := Lib.hid ho
    clear hv hok ho ht
    obtain ⟨op, xa, xb, xn⟩ := x
    dsimp only
    go_enter Tryd.func14, Tryd.ntmps14
    go_wp2_with fail
    refine (implIs_any ⟨op, xa, xb, xn⟩ _ (ops_below (below_more (Below.refl _ _) _) HO.out) false (decide_eq_false HOK.out)).mono ?_
    rintro e w1 ⟨rfl, hb⟩
    go_wp2_with fail
    go_ret2
    exact ⟨rfl, below_then (below_more (Below.refl _ _) _) hb⟩
end Go.Proofs.YtfdbnolifimnhabDoor.L3
