/- What impl.EndSlot answers. -/
import Derived.Test.YtadpjkghfgnbbaaSlG
namespace Go.Proofs.Ytadpjkghfgnbbaa.L8
open Go Go.RowKit Go.Proofs.Ytadpjkghfgnbbaa.Mem Go.Proofs.Ytadpjkghfgnbbaa.Own Go.Proofs.Ytadpjkghfgnbbaa.L6
set_option maxRecDepth 100000 in
set_option maxHeartbeats 1600000 in
theorem implEnd_any (A : Option Addr) (n c : Nat) (xs : List Slt) (q : Int) (w : World) (hr : Reads w w.heap.size 3 A n (FL xs)) (hc : n ≤ c) :
    Calls Try.prog 14 #[.slice A n c, .int .i64 q] w (SlPost w (endAns xs q)) := by
  have HR := Lib.hid hr
  obtain ⟨r, hr_⟩ : ∃ r, fdAns xs q = r := ⟨_, rfl⟩
  obtain ⟨z, d⟩ := r
  have HFD := Lib.hid hr_
  have HI := Lib.hid (fun w hr => implFind_any A n c xs q w hr hc z d HFD.out)
  clear hr hr_
  cases d
  · have HZ : Hid (endAns xs q = ([], false)) := Lib.hid (by
      have h := HFD.out
      unfold fdAns at h
      split at h
      · cases h
      · rename_i hn
        unfold endAns
        split
        · rename_i hy
          have := ixOf_lo (has q) xs
          have h2 : fnd xs q < 0 := Int.not_le.1 (fun hh => hn ⟨hy.1, hh⟩)
          unfold endOf
          rw [if_pos h2]
        · rfl)
    rw [HZ.out]
    clear HZ HFD
    go_enter Try.func14, Try.ntmps14
    go_wp2_with fail
    refine (HI.out _ HR.out).mono ?_
    rintro e w1 ⟨rfl, hb1⟩
    have HB1 := Lib.hid hb1
    clear hb1
    go_wp2_with fail
    go_ret2
    exact slPost_no HB1.out
  have hok : okB xs = true ∧ 0 ≤ fnd xs q ∧ fnd xs q = z := by
    have h := HFD.out
    unfold fdAns at h
    split at h
    · rename_i hy
      exact ⟨hy.1, hy.2, congrArg Prod.fst h⟩
    · cases h
  have HG := Lib.hid hok.1
  have HZ : Hid (endAns xs q = endOf xs q) := Lib.hid (endAns_eq HG.out)
  rw [HZ.out]
  have hl : xs.length = 4 := okB_len HG.out
  have h4 : n = 4 := by have h1 : xs.length = n := reads_len HR.out; omega
  subst h4
  rcases ixOf_cases (has q) xs with ⟨hf, _⟩ | ⟨k, x, hf, hk, hx, hp, _⟩
  · exact absurd hok.2.1 (by rw [show fnd xs q = -1 from hf]; omega)
  have HF : Hid (fnd xs q = k) := Lib.hid hf
  have hz : z = k := by rw [← hok.2.2, HF.out]
  subst hz
  have hst := st_of (okB_ok HG.out hx)
  have hst0 : x.st ≠ 0 := by
    simp only [has, Bool.and_eq_true, bne_iff_ne] at hp
    exact hp.1
  have HX := Lib.hid hx
  have hk4 : k < 4 := by omega
  have hkz : (k : Int) < 4 := by omega
  have HLEN : Hid (∀ y, (xs.set k y).length = 4) := Lib.hid (fun y => by rw [List.length_set]; exact hl)
  have HFS := Lib.hid (fl_set0 hx 1)
  have hfl : (FL xs).length = 12 := by rw [FL_len, hl]; rfl
  have HE1 : Hid (x.st = 1 → endOf xs q = ([], false)) := Lib.hid (endOf_1 HF.out hx)
  have HE2 : Hid (x.st = 2 → endOf xs q = (xs.set k nul, true)) := Lib.hid (endOf_2 HF.out hx)
  have HE3 : Hid (x.st = 3 → endOf xs q = (xs.set k { x with st := 1 }, true)) := Lib.hid (fun h => endOf_3 HF.out hx (by omega) (by omega))
  obtain ⟨b, off, y, rfl, _, hy, m0, m1, m2⟩ := slt_at HR.out hk4
  obtain rfl : y = x := by rw [hx] at hy; exact (Option.some.inj hy).symm
  clear hok HZ HFD hp hf hx hy hl HF hk
  obtain ⟨x0, x1, x2⟩ := y
  simp only at hst hst0 m0 m1 m2 HFS HE1 HE2 HE3
  have hbb := block_lt_of_cell m0
  have hst3 : x0 = 1 ∨ x0 = 2 ∨ x0 = 3 := by omega
  rcases hst3 with rfl | rfl | rfl
  · rw [HE1.out rfl]
    clear hst hst0 HE1 HE2 HE3 HFS
    go_enter Try.func14, Try.ntmps14
    go_wp2_with fail
    refine (HI.out _ HR.out).mono ?_
    rintro e w1 ⟨rfl, hb1⟩
    have HB1 := Lib.hid hb1
    have p0 : w1.cell? ⟨b, off + k * 3, none⟩ = some (.int .i64 1) := (hb1.cell hbb).trans m0
    have p1 : w1.cell? ⟨b, off + k * 3 + 1, none⟩ = some (.int .i64 x1) := (hb1.cell hbb).trans m1
    have p2 : w1.cell? ⟨b, off + k * 3 + 2, none⟩ = some (.int .i64 x2) := (hb1.cell hbb).trans m2
    clear hb1 m0 m1 m2
    go_wp2_with fail
    refine (isActive_c 1 x1 x2 (.inr (.inl rfl)) false rfl _).mono ?_
    rintro e w2 ⟨rfl, hb2⟩
    have HB2 := Lib.hid (below_then HB1.out hb2)
    clear hb2 p0 p1 p2
    go_wp2_with fail
    go_ret2
    exact slPost_no HB2.out
  · rw [HE2.out rfl]
    clear hst hst0 HE1 HE2 HE3 HFS
    go_enter Try.func14, Try.ntmps14
    go_wp2_with fail
    refine (HI.out _ HR.out).mono ?_
    rintro e w1 ⟨rfl, hb1⟩
    have HB1 := Lib.hid hb1
    have p0 : w1.cell? ⟨b, off + k * 3, none⟩ = some (.int .i64 2) := (hb1.cell hbb).trans m0
    have p1 : w1.cell? ⟨b, off + k * 3 + 1, none⟩ = some (.int .i64 x1) := (hb1.cell hbb).trans m1
    have p2 : w1.cell? ⟨b, off + k * 3 + 2, none⟩ = some (.int .i64 x2) := (hb1.cell hbb).trans m2
    clear hb1 m0 m1 m2
    go_wp2_with fail
    refine (isActive_c 2 x1 x2 (.inr (.inr (.inl rfl))) true rfl _).mono ?_
    rintro e w2 ⟨rfl, hb2⟩
    have HBB := Lib.hid (below_then HB1.out hb2)
    clear hb2 p0 p1 p2 HB1
    obtain ⟨_, _, hA, _, a0, a1, a2, b0, b1, b2, c0, c1, c2, d0, d1, d2, hfl, k0, k1, k2, k3, k4, k5, k6, k7, k8, k9, k10, k11⟩ := cells12 (HR.out.below HBB.out)
    simp only [Option.some.injEq, Addr.mk.injEq, and_true] at hA
    obtain ⟨rfl, rfl⟩ := hA
    obtain ⟨wc, hwc⟩ : ∃ wc, w2.alloc (.cells #[.int .i64 a0, .int .i64 a1, .int .i64 a2, .int .i64 b0, .int .i64 b1, .int .i64 b2, .int .i64 c0, .int .i64 c1, .int .i64 c2, .int .i64 d0, .int .i64 d1, .int .i64 d2] 66) = wc := ⟨_, rfl⟩
    have HO : Hid (wc.ownsRow w.heap.size 66 3 (.slice (some ⟨w2.heap.size, 0, none⟩) 4 4) 4 (FL xs)) := Lib.hid (own_arr (by rw [← hwc, hfl]; exact Blk.new _ _ _) (reads_len HR.out) HBB.out.size)
    have HB2 : Hid (Below w.heap.size w wc) := Lib.hid (by rw [← hwc]; exact below_more HBB.out _)
    have HWC := Lib.hid hwc
    have hat := arrayAt_any (some ⟨b, off, none⟩) c
    clear hfl hwc
    go_upto_region 5 with fail
    rw [HWC.out]
    clear HWC hat k0 k1 k2 k3 k4 k5 k6 k7 k8 k9 k10 k11
    have hgw : w.heap.size ≤ w2.heap.size := HBB.out.size
    obtain ⟨g, hg⟩ : ∃ g, w2.heap.size = g := ⟨_, rfl⟩
    rw [hg] at HO hgw
    rw [hg]
    clear hg HBB
    have f0 := HO.out.frozenAt (k * 3)
    have f1 := HO.out.frozenAt (k * 3 + 1)
    have f2 := HO.out.frozenAt (k * 3 + 2)
    have e0 : wc.cell? ⟨g, k * 3, none⟩ = some (.int .i64 2) := (HO.out.cellAt (k * 3) (by omega)).trans (FL_at (i := 0) HX.out rfl)
    have e1 : wc.cell? ⟨g, k * 3 + 1, none⟩ = some (.int .i64 x1) := (HO.out.cellAt (k * 3 + 1) (by omega)).trans (FL_at (i := 1) HX.out rfl)
    have e2 : wc.cell? ⟨g, k * 3 + 2, none⟩ = some (.int .i64 x2) := (HO.out.cellAt (k * 3 + 2) (by omega)).trans (FL_at (i := 2) HX.out rfl)
    have HP := Lib.hid (slt_put HO.out (k := k) (by rw [reads_len HR.out]; exact hk4) nul)
    have HW := Lib.hid (below_set (below_set (below_set HB2.out hgw (j := k * 3) (.int .i64 0)) hgw (j := k * 3 + 1) (.int .i64 0)) hgw (j := k * 3 + 2) (.int .i64 0))
    clear HO HB2
    go_wp2_with fail
    go_ret2
    exact slPost_4 (HLEN.out _) HP.out.1 HW.out
  · rw [HE3.out rfl]
    clear hst hst0 HE1 HE2 HE3
    go_enter Try.func14, Try.ntmps14
    go_wp2_with fail
    refine (HI.out _ HR.out).mono ?_
    rintro e w1 ⟨rfl, hb1⟩
    have HB1 := Lib.hid hb1
    have p0 : w1.cell? ⟨b, off + k * 3, none⟩ = some (.int .i64 3) := (hb1.cell hbb).trans m0
    have p1 : w1.cell? ⟨b, off + k * 3 + 1, none⟩ = some (.int .i64 x1) := (hb1.cell hbb).trans m1
    have p2 : w1.cell? ⟨b, off + k * 3 + 2, none⟩ = some (.int .i64 x2) := (hb1.cell hbb).trans m2
    clear hb1 m0 m1 m2
    go_wp2_with fail
    refine (isActive_c 3 x1 x2 (.inr (.inr (.inr rfl))) true rfl _).mono ?_
    rintro e w2 ⟨rfl, hb2⟩
    have HBB := Lib.hid (below_then HB1.out hb2)
    clear hb2 p0 p1 p2 HB1
    obtain ⟨_, _, hA, _, a0, a1, a2, b0, b1, b2, c0, c1, c2, d0, d1, d2, hfl, k0, k1, k2, k3, k4, k5, k6, k7, k8, k9, k10, k11⟩ := cells12 (HR.out.below HBB.out)
    simp only [Option.some.injEq, Addr.mk.injEq, and_true] at hA
    obtain ⟨rfl, rfl⟩ := hA
    obtain ⟨wc, hwc⟩ : ∃ wc, w2.alloc (.cells #[.int .i64 a0, .int .i64 a1, .int .i64 a2, .int .i64 b0, .int .i64 b1, .int .i64 b2, .int .i64 c0, .int .i64 c1, .int .i64 c2, .int .i64 d0, .int .i64 d1, .int .i64 d2] 66) = wc := ⟨_, rfl⟩
    have HO : Hid (wc.ownsRow w.heap.size 66 3 (.slice (some ⟨w2.heap.size, 0, none⟩) 4 4) 4 (FL xs)) := Lib.hid (own_arr (by rw [← hwc, hfl]; exact Blk.new _ _ _) (reads_len HR.out) HBB.out.size)
    have HB2 : Hid (Below w.heap.size w wc) := Lib.hid (by rw [← hwc]; exact below_more HBB.out _)
    have HWC := Lib.hid hwc
    have hat := arrayAt_any (some ⟨b, off, none⟩) c
    clear hfl hwc
    go_upto_region 5 with fail
    rw [HWC.out]
    clear HWC hat k0 k1 k2 k3 k4 k5 k6 k7 k8 k9 k10 k11
    have hgw : w.heap.size ≤ w2.heap.size := HBB.out.size
    obtain ⟨g, hg⟩ : ∃ g, w2.heap.size = g := ⟨_, rfl⟩
    rw [hg] at HO hgw
    rw [hg]
    clear hg HBB
    have f0 := HO.out.frozenAt (k * 3)
    have f1 := HO.out.frozenAt (k * 3 + 1)
    have f2 := HO.out.frozenAt (k * 3 + 2)
    have e0 : wc.cell? ⟨g, k * 3, none⟩ = some (.int .i64 3) := (HO.out.cellAt (k * 3) (by omega)).trans (FL_at (i := 0) HX.out rfl)
    have e1 : wc.cell? ⟨g, k * 3 + 1, none⟩ = some (.int .i64 x1) := (HO.out.cellAt (k * 3 + 1) (by omega)).trans (FL_at (i := 1) HX.out rfl)
    have e2 : wc.cell? ⟨g, k * 3 + 2, none⟩ = some (.int .i64 x2) := (HO.out.cellAt (k * 3 + 2) (by omega)).trans (FL_at (i := 2) HX.out rfl)
    have HS := Lib.hid (HO.out.stored (k * 3) (.int .i64 1)).1
    have HW := Lib.hid (below_set HB2.out hgw (j := k * 3) (.int .i64 1))
    rw [HFS.out] at HS
    clear HO HB2 HFS
    go_wp2_with fail
    go_ret2
    exact slPost_4 (HLEN.out _) HS.out HW.out
end Go.Proofs.Ytadpjkghfgnbbaa.L8
