/- What impl.EvictSlot answers. -/
import Derived.Test.YtadpjkghfgnbbaaSlG
import Derived.Test.YtadpjkghfgnbbaaSlP
import Derived.Test.YtadpjkghfgnbbaaSlEv
namespace Go.Proofs.Ytadpjkghfgnbbaa.L8
open Go Go.RowKit Go.Proofs.Ytadpjkghfgnbbaa.Mem Go.Proofs.Ytadpjkghfgnbbaa.Own Go.Proofs.Ytadpjkghfgnbbaa.L6 Go.Proofs.Ytadpjkghfgnbbaa.L1
set_option maxRecDepth 100000 in
set_option maxHeartbeats 800000 in
theorem implEvict_any (A : Option Addr) (n c : Nat) (xs : List Slt) (w : World) (hr : Reads w w.heap.size 3 A n (FL xs)) (hc : n ≤ c) :
    Calls Try.prog 19 #[.slice A n c] w (EvPost w (evAns xs)) := by
  have HR := Lib.hid hr
  obtain ⟨b, hb⟩ : ∃ b, okB xs = b := ⟨_, rfl⟩
  have HG := Lib.hid hb
  have HI := Lib.hid (fun w hr => implAre_any A n c _ xs w hr (Nat.le_refl _) hc b HG.out)
  clear hr hb
  cases b
  · have HZ : Hid (evAns xs = ([], nul, false)) := Lib.hid (evAns_no (.inl HG.out))
    rw [HZ.out]
    clear HZ
    obtain ⟨wz, hwz⟩ : ∃ wz, w.alloc (.cells #[.int .i64 0, .int .i64 0, .int .i64 0] 33) = wz := ⟨_, rfl⟩
    have HRZ : Hid (Blk wz w.heap.size 33 #[.int .i64 0, .int .i64 0, .int .i64 0]) := Lib.hid (by rw [← hwz]; exact Blk.new _ _ _)
    have HB0 : Hid (Below w.heap.size w wz) := Lib.hid (by rw [← hwz]; exact below_more (Below.refl _ _) _)
    have HWZ := Lib.hid hwz
    clear hwz
    go_enter Try.func19, Try.ntmps19
    go_upto_region 1 with fail
    rw [HWZ.out]
    clear HWZ
    go_wp2_with fail
    refine (HI.out _ ((HR.out.below HB0.out).more HB0.out.size)).mono ?_
    rintro e w1 ⟨rfl, hb1⟩
    have HB1 := Lib.hid (below_then HB0.out hb1)
    have HR1 := Lib.hid (Blk.kept hb1 HRZ.out)
    clear hb1
    have z0 : w1.cell? ⟨w.heap.size, 0, none⟩ = some (.int .i64 0) := HR1.out.cell 0 _ rfl
    have z1 : w1.cell? ⟨w.heap.size, 1, none⟩ = some (.int .i64 0) := HR1.out.cell 1 _ rfl
    have z2 : w1.cell? ⟨w.heap.size, 2, none⟩ = some (.int .i64 0) := HR1.out.cell 2 _ rfl
    have zf0 := HR1.out.free 0
    have zf1 := HR1.out.free 1
    have zf2 := HR1.out.free 2
    have H3 := Lib.hid (((HR1.out.set 0 (.int .i64 0)).set 1 (.int .i64 0)).set 2 (.int .i64 0))
    have HB3 := Lib.hid (below_set (below_set (below_set HB1.out (Nat.le_refl _) (j := 0) (.int .i64 0)) (Nat.le_refl _) (j := 1) (.int .i64 0)) (Nat.le_refl _) (j := 2) (.int .i64 0))
    clear HB1 HR1
    go_wp2_with fail
    have y0 := H3.out.cell 0 _ rfl
    have y1 := H3.out.cell 1 _ rfl
    have y2 := H3.out.cell 2 _ rfl
    exact bodyPost_ret (v := .tuple #[.slice none 0 0, .agg #[.int .i64 0, .int .i64 0, .int .i64 0], .bool false]) (by simp [results, Try.results19, go_sem, y0, y1, y2]) rfl (evPost_no HB3.out)
  have hl : xs.length = 4 := okB_len HG.out
  have h4 : n = 4 := by have h1 : xs.length = n := reads_len HR.out; omega
  subst h4
  obtain ⟨wz, hwz⟩ : ∃ wz, w.alloc (.cells #[.int .i64 0, .int .i64 0, .int .i64 0] 33) = wz := ⟨_, rfl⟩
  have HRZ : Hid (Blk wz w.heap.size 33 #[.int .i64 0, .int .i64 0, .int .i64 0]) := Lib.hid (by rw [← hwz]; exact Blk.new _ _ _)
  have HB0 : Hid (Below w.heap.size w wz) := Lib.hid (by rw [← hwz]; exact below_more (Below.refl _ _) _)
  have HWZ := Lib.hid hwz
  clear hwz
  go_enter Try.func19, Try.ntmps19
  go_upto_region 1 with fail
  rw [HWZ.out]
  clear HWZ
  go_wp2_with fail
  refine (HI.out _ ((HR.out.below HB0.out).more HB0.out.size)).mono ?_
  rintro e w1 ⟨rfl, hb1⟩
  have HB1 := Lib.hid (below_then HB0.out hb1)
  have HR1 := Lib.hid (Blk.kept hb1 HRZ.out)
  clear hb1
  go_wp2_with fail
  refine (pendingSlots_any A c xs _ ((HR.out.below HB1.out).more HB1.out.size) HG.out).mono ?_
  rintro e w2 ⟨A', c', rfl, hown, hb2⟩
  have HB := Lib.hid (below_then HB1.out hb2)
  have HR2 := Lib.hid (Blk.kept hb2 HR1.out)
  have HOP := Lib.hid hown
  obtain ⟨m, hm⟩ : ∃ m, (pnd xs).length = m := ⟨_, rfl⟩
  have hm4 : m ≤ 4 := by rw [← hm]; exact pnd_len xs
  rw [hm] at HOP
  rw [hm]
  have HM := Lib.hid hm
  clear hb2 hown HB1 HR1 hm
  by_cases h0 : m = 0
  · have HT := Lib.hid (evAns_no (xs := xs) (.inr (pnd_nil (m := false) (List.length_eq_zero_iff.1 (HM.out.trans h0)))))
    subst h0
    have z0 : w2.cell? ⟨w.heap.size, 0, none⟩ = some (.int .i64 0) := HR2.out.cell 0 _ rfl
    have z1 : w2.cell? ⟨w.heap.size, 1, none⟩ = some (.int .i64 0) := HR2.out.cell 1 _ rfl
    have z2 : w2.cell? ⟨w.heap.size, 2, none⟩ = some (.int .i64 0) := HR2.out.cell 2 _ rfl
    have zf0 := HR2.out.free 0
    have zf1 := HR2.out.free 1
    have zf2 := HR2.out.free 2
    have H3 := Lib.hid (((HR2.out.set 0 (.int .i64 0)).set 1 (.int .i64 0)).set 2 (.int .i64 0))
    have HB3 := Lib.hid (below_set (below_set (below_set HB.out (Nat.le_refl _) (j := 0) (.int .i64 0)) (Nat.le_refl _) (j := 1) (.int .i64 0)) (Nat.le_refl _) (j := 2) (.int .i64 0))
    clear HB HR2
    go_wp2_with fail
    have y0 := H3.out.cell 0 _ rfl
    have y1 := H3.out.cell 1 _ rfl
    have y2 := H3.out.cell 2 _ rfl
    exact bodyPost_ret (v := .tuple #[.slice none 0 0, .agg #[.int .i64 0, .int .i64 0, .int .i64 0], .bool false]) (by simp [results, Try.results19, go_sem, y0, y1, y2]) rfl (by rw [HT.out]; exact evPost_no HB3.out)
  obtain ⟨m1, hm1⟩ : ∃ m1, m = m1 + 1 := ⟨m - 1, by omega⟩
  subst hm1
  have hpl : m1 < (pnd xs).length := by rw [HM.out]; omega
  obtain ⟨k, hk⟩ : ∃ k, (pnd xs)[m1]? = some k := ⟨_, List.getElem?_eq_getElem hpl⟩
  have hbst := pnd_last HG.out HM.out hk
  have hkm := mem_pnd.1 (List.mem_of_getElem? hk)
  have hk4 : k < 4 := hkm.1
  have hkz : (k : Int) < 4 := by omega
  obtain ⟨g0, rfl⟩ := own_head HOP.out (by omega)
  have q0 : w2.cell? ⟨g0, m1, none⟩ = some (.int .i64 (k : Int)) := (HOP.out.cellAt m1 (by omega)).trans (I_at (L6.ints_at hk))
  obtain ⟨b, off, y, rfl, _, hx, m0, mm1, mm2⟩ := slt_at HR.out hk4
  have hs1 : y.st = 1 := by have h := hkm.2; rw [getD_atS hx] at h; exact h
  have HX := Lib.hid hx
  have HLEN : Hid (∀ y, (xs.set k y).length = 4) := Lib.hid (fun y => by rw [List.length_set]; exact hl)
  have HT := Lib.hid (evAns_yes HG.out hbst hx)
  obtain ⟨x0, x1, x2⟩ := y
  simp only at hs1 m0 mm1 mm2
  subst hs1
  have hfl : (FL xs).length = 12 := by rw [FL_len, hl]; rfl
  have t00 : (((m1 + 1 : Nat) : Int) == 0) = false := by simp; omega
  have hw1 : IntKind.i64.wrap (((m1 + 1 : Nat) : Int) - 1) = (m1 : Int) := by rw [show (((m1 + 1 : Nat) : Int) - 1) = (m1 : Int) by push_cast; omega]; exact IntWalk.i64_in _ (by omega)
  have hmz : (m1 : Int) < ((m1 + 1 : Nat) : Int) := by push_cast; omega
  clear hbst hx hl h0 hpl hk hkm
  have HM0 := Lib.hid m0
  have HM1 := Lib.hid mm1
  have HM2 := Lib.hid mm2
  clear m0 mm1 mm2
  go_upto_region 7 with fail
  clear q0 t00 hw1 hmz
  obtain ⟨_, _, hA, _, a0, a1, a2, b0, b1, b2, c0, c1, c2, d0, d1, d2, hfl2, k0, k1, k2, k3, k4, k5, k6, k7, k8, k9, k10, k11⟩ := cells12 (HR.out.below HB.out)
  simp only [Option.some.injEq, Addr.mk.injEq, and_true] at hA
  obtain ⟨rfl, rfl⟩ := hA
  obtain ⟨wc, hwc⟩ : ∃ wc, w2.alloc (.cells #[.int .i64 a0, .int .i64 a1, .int .i64 a2, .int .i64 b0, .int .i64 b1, .int .i64 b2, .int .i64 c0, .int .i64 c1, .int .i64 c2, .int .i64 d0, .int .i64 d1, .int .i64 d2] 66) = wc := ⟨_, rfl⟩
  have HO : Hid (wc.ownsRow w.heap.size 66 3 (.slice (some ⟨w2.heap.size, 0, none⟩) 4 4) 4 (FL xs)) := Lib.hid (own_arr (by rw [← hwc, hfl2]; exact Blk.new _ _ _) (reads_len HR.out) HB.out.size)
  have HB2 : Hid (Below w.heap.size w wc) := Lib.hid (by rw [← hwc]; exact below_more HB.out _)
  have HWC := Lib.hid hwc
  have hat := arrayAt_any (some ⟨b, off, none⟩) c
  clear hfl2 hwc
  go_upto_region 8 with fail
  rw [HWC.out]
  clear hat k0 k1 k2 k3 k4 k5 k6 k7 k8 k9 k10 k11
  have HWC2 := HWC
  clear HWC
  have hgw : w.heap.size ≤ w2.heap.size := HB.out.size
  have hgw2 : w.heap.size < w2.heap.size := HR2.out.lt
  obtain ⟨g, hg⟩ : ∃ g, w2.heap.size = g := ⟨_, rfl⟩
  rw [hg] at HO hgw hgw2
  rw [hg]
  clear hg HB
  have hgw1 : w.heap.size ≠ g := by omega
  have HRC : Hid (Blk wc w.heap.size 33 #[.int .i64 0, .int .i64 0, .int .i64 0]) := Lib.hid (by rw [← HWC2.out]; exact HR2.out.alloc _)
  clear HWC2 HR2
  have f0 := HO.out.frozenAt (k * 3)
  have f1 := HO.out.frozenAt (k * 3 + 1)
  have f2 := HO.out.frozenAt (k * 3 + 2)
  have e0 : wc.cell? ⟨g, k * 3, none⟩ = some (.int .i64 1) := (HO.out.cellAt (k * 3) (by omega)).trans (FL_at (i := 0) HX.out rfl)
  have e1 : wc.cell? ⟨g, k * 3 + 1, none⟩ = some (.int .i64 x1) := (HO.out.cellAt (k * 3 + 1) (by omega)).trans (FL_at (i := 1) HX.out rfl)
  have e2 : wc.cell? ⟨g, k * 3 + 2, none⟩ = some (.int .i64 x2) := (HO.out.cellAt (k * 3 + 2) (by omega)).trans (FL_at (i := 2) HX.out rfl)
  have HP := Lib.hid (slt_put HO.out (k := k) (by rw [reads_len HR.out]; exact hk4) nul).1
  have HW := Lib.hid (below_set (below_set (below_set HB2.out hgw (j := k * 3) (.int .i64 0)) hgw (j := k * 3 + 1) (.int .i64 0)) hgw (j := k * 3 + 2) (.int .i64 0))
  have HRD := Lib.hid (((HRC.out.other (.int .i64 0) hgw1 (j := k * 3)).other (.int .i64 0) hgw1 (j := k * 3 + 1)).other (.int .i64 0) hgw1 (j := k * 3 + 2))
  go_upto_region 9 with fail
  clear e0 e1 e2 f0 f1 f2 HO HB2 HRC
  revert HP HW HRD
  simp only [nul]
  generalize (World.setCell (World.setCell (World.setCell wc _ _) _ _) _ _) = wd
  intro HP HW HRD
  have n0 : wd.cell? ⟨b, off + k * 3, none⟩ = some (.int .i64 1) := (HW.out.cell (block_lt_of_cell HM0.out)).trans HM0.out
  have n1 : wd.cell? ⟨b, off + k * 3 + 1, none⟩ = some (.int .i64 x1) := (HW.out.cell (block_lt_of_cell HM1.out)).trans HM1.out
  have n2 : wd.cell? ⟨b, off + k * 3 + 2, none⟩ = some (.int .i64 x2) := (HW.out.cell (block_lt_of_cell HM2.out)).trans HM2.out
  have z0 : wd.cell? ⟨w.heap.size, 0, none⟩ = some (.int .i64 0) := HRD.out.cell 0 _ rfl
  have z1 : wd.cell? ⟨w.heap.size, 1, none⟩ = some (.int .i64 0) := HRD.out.cell 1 _ rfl
  have z2 : wd.cell? ⟨w.heap.size, 2, none⟩ = some (.int .i64 0) := HRD.out.cell 2 _ rfl
  have zf0 := HRD.out.free 0
  have zf1 := HRD.out.free 1
  have zf2 := HRD.out.free 2
  have hgn : (Value.slice (some ⟨g, 0, none⟩) 4 4).ownBlock ≠ some w.heap.size := by intro h; injection h with h; exact hgw1 h.symm
  have HD : Hid (Blk wd w.heap.size 33 #[.int .i64 0, .int .i64 0, .int .i64 0]) := Lib.hid HRD.out
  have HPD : Hid (wd.ownsRow w.heap.size 66 3 (.slice (some ⟨g, 0, none⟩) 4 4) 4 (FL (xs.set k ⟨0, 0, 0⟩))) := Lib.hid HP.out
  have HWD : Hid (Below w.heap.size w wd) := Lib.hid HW.out
  have H3 := Lib.hid (((HD.out.set 0 (.int .i64 1)).set 1 (.int .i64 x1)).set 2 (.int .i64 x2))
  have HO3 := Lib.hid (own_set (own_set (own_set HPD.out (j := 0) (.int .i64 1) hgn) (j := 1) (.int .i64 x1) hgn) (j := 2) (.int .i64 x2) hgn)
  have HB3 := Lib.hid (below_set (below_set (below_set HWD.out (Nat.le_refl _) (j := 0) (.int .i64 1)) (Nat.le_refl _) (j := 1) (.int .i64 x1)) (Nat.le_refl _) (j := 2) (.int .i64 x2))
  clear HRD HP HW HD HPD HWD hgn
  go_region
  all_goals
    clear n0 n1 n2 z0 z1 z2 zf0 zf1 zf2
    revert H3 HO3 HB3
    generalize (World.setCell (World.setCell (World.setCell _ _ _) _ _) _ _) = wy
    intro H3 HO3 HB3
    have y0 : World.cell? _ ⟨w.heap.size, 0, none⟩ = some (.int .i64 1) := H3.out.cell 0 _ rfl
    have y1 : World.cell? _ ⟨w.heap.size, 1, none⟩ = some (.int .i64 x1) := H3.out.cell 1 _ rfl
    have y2 : World.cell? _ ⟨w.heap.size, 2, none⟩ = some (.int .i64 x2) := H3.out.cell 2 _ rfl
    go_wp2_with fail
    exact bodyPost_ret (v := .tuple #[.slice (some ⟨g, 0, none⟩) 4 4, .agg #[.int .i64 1, .int .i64 x1, .int .i64 x2], .bool true]) (by simp [results, Try.results19, go_sem, y0, y1, y2]) rfl (by rw [HT.out]; exact evPost_4 (x := ⟨1, x1, x2⟩) (HLEN.out _) HO3.out (below_then HB3.out (below_dN wy 1)))
end Go.Proofs.Ytadpjkghfgnbbaa.L8
