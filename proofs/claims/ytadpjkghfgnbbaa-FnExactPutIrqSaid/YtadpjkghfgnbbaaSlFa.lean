/- What impl.PutIrq answers. -/
import Derived.Test.YtadpjkghfgnbbaaSlX
namespace Go.Proofs.Ytadpjkghfgnbbaa.L8
open Go Go.RowKit Go.Proofs.Ytadpjkghfgnbbaa.Mem Go.Proofs.Ytadpjkghfgnbbaa.Own Go.Proofs.Ytadpjkghfgnbbaa.L6
set_option maxRecDepth 100000 in
set_option maxHeartbeats 4000000 in
theorem implPut_any (A : Option Addr) (n c : Nat) (xs : List Slt) (q p : Int) (w : World) (hr : Reads w w.heap.size 3 A n (FL xs)) (hc : n ≤ c) :
    Calls Try.prog 21 #[.slice A n c, .int .i64 q, .int .i64 p] w (SlPost w (putAns xs q p)) := by
  have HR := Lib.hid hr
  obtain ⟨b, hb⟩ : ∃ b, okB xs = b := ⟨_, rfl⟩
  have HG := Lib.hid hb
  have HI := Lib.hid (fun w hr => implAre_any A n c _ xs w hr (Nat.le_refl _) hc b HG.out)
  clear hr hb
  cases b
  · have HZ : Hid (putAns xs q p = ([], false)) := Lib.hid (by unfold putAns; rw [if_neg (by rw [HG.out]; simp)])
    rw [HZ.out]
    clear HZ
    go_enter Try.func21, Try.ntmps21
    go_wp2_with fail
    refine (HI.out _ HR.out).mono ?_
    rintro e w1 ⟨rfl, hb1⟩
    have HB1 := Lib.hid hb1
    clear hb1
    go_wp2_with fail
    go_ret2
    exact slPost_no HB1.out
  obtain ⟨b1, hb1⟩ : ∃ b, decide (0 ≤ q ∧ q < 8) = b := ⟨_, rfl⟩
  have H1 := Lib.hid hb1
  obtain ⟨b2, hb2⟩ : ∃ b, decide (0 ≤ p ∧ p < 16) = b := ⟨_, rfl⟩
  have H2 := Lib.hid hb2
  clear hb1 hb2
  cases b1
  · have HZ : Hid (putAns xs q p = ([], false)) := Lib.hid (by unfold putAns; rw [if_neg (fun hh => of_decide_eq_false H1.out hh.2.1)])
    rw [HZ.out]
    clear HZ
    go_enter Try.func21, Try.ntmps21
    go_wp2_with fail
    refine (HI.out _ HR.out).mono ?_
    rintro e w1 ⟨rfl, hb1⟩
    have HB1 := Lib.hid hb1
    clear hb1
    go_wp2_with fail
    refine (isIrq_any _ _ H1.out _).mono ?_
    rintro e w1 ⟨rfl, rfl⟩
    go_wp2_with fail
    go_ret2
    exact slPost_no HB1.out
  cases b2
  · have HZ : Hid (putAns xs q p = ([], false)) := Lib.hid (by unfold putAns; rw [if_neg (fun hh => of_decide_eq_false H2.out hh.2.2)])
    rw [HZ.out]
    clear HZ
    go_enter Try.func21, Try.ntmps21
    go_wp2_with fail
    refine (HI.out _ HR.out).mono ?_
    rintro e w1 ⟨rfl, hb1⟩
    have HB1 := Lib.hid hb1
    clear hb1
    go_wp2_with fail
    refine (isIrq_any _ _ H1.out _).mono ?_
    rintro e w1 ⟨rfl, rfl⟩
    go_wp2_with fail
    refine (isPriority_any _ _ H2.out _).mono ?_
    rintro e w1 ⟨rfl, rfl⟩
    go_wp2_with fail
    go_ret2
    exact slPost_no HB1.out
  have HZ : Hid (putAns xs q p = putOf xs q p) := Lib.hid (by unfold putAns; rw [if_pos ⟨HG.out, of_decide_eq_true H1.out, of_decide_eq_true H2.out⟩])
  rw [HZ.out]
  have h4 : n = 4 := by have h1 : xs.length = n := reads_len HR.out; have h2 := okB_len HG.out; omega
  subst h4
  clear HZ
  go_enter Try.func21, Try.ntmps21
  go_wp2_with fail
  refine (HI.out _ HR.out).mono ?_
  rintro e w1 ⟨rfl, hb1⟩
  have HB1 := Lib.hid hb1
  clear hb1
  go_wp2_with fail
  refine (isIrq_any _ _ H1.out _).mono ?_
  rintro e w1 ⟨rfl, rfl⟩
  go_wp2_with fail
  refine (isPriority_any _ _ H2.out _).mono ?_
  rintro e w1 ⟨rfl, rfl⟩
  obtain ⟨b, off, rfl, hbB, a0, a1, a2, b0, b1, b2, c0, c1, c2, d0, d1, d2, hfl, k0, k1, k2, k3, k4, k5, k6, k7, k8, k9, k10, k11⟩ := cells12 (HR.out.below HB1.out)
  obtain ⟨wc, hwc⟩ : ∃ wc, w1.alloc (.cells #[.int .i64 a0, .int .i64 a1, .int .i64 a2, .int .i64 b0, .int .i64 b1, .int .i64 b2, .int .i64 c0, .int .i64 c1, .int .i64 c2, .int .i64 d0, .int .i64 d1, .int .i64 d2] 66) = wc := ⟨_, rfl⟩
  have HO : Hid (wc.ownsRow w.heap.size 66 3 (.slice (some ⟨w1.heap.size, 0, none⟩) 4 4) 4 (FL xs)) := Lib.hid (own_arr (by rw [← hwc, hfl]; exact Blk.new _ _ _) (reads_len HR.out) HB1.out.size)
  have HB2 : Hid (Below w.heap.size w wc) := Lib.hid (by rw [← hwc]; exact below_more HB1.out _)
  have HWC := Lib.hid hwc
  have hat := arrayAt_any (some ⟨b, off, none⟩) c
  clear hfl hwc
  go_upto_region 4 with fail
  rw [HWC.out]
  clear HWC hat k0 k1 k2 k3 k4 k5 k6 k7 k8 k9 k10 k11
  have hR2 := Lib.hid ((HR.out.below HB2.out).more HB2.out.size)
  have hgw : w.heap.size ≤ w1.heap.size := HB1.out.size
  obtain ⟨g, hg⟩ : ∃ g, w1.heap.size = g := ⟨_, rfl⟩
  rw [hg] at HO hgw
  rw [hg]
  clear hg HB1
  rcases ixOf_cases (has q) xs with ⟨hf, _⟩ | ⟨k, x, hf, hk, hx, hp, _⟩
  · have HF : Hid (fnd xs q = -1) := Lib.hid hf
    clear hf
    go_wp2_with fail
    refine (slotWith_any (some ⟨b, off, none⟩) 4 c q xs _ hR2.out (by omega)).mono ?_
    rintro e w2 ⟨rfl, hb2⟩
    rw [HF.out]
    have HR3 := Lib.hid ((hR2.out.below hb2).more hb2.size)
    have HO3 := Lib.hid (own_below HO.out hb2)
    have HB3 := Lib.hid (below_then HB2.out hb2)
    clear hb2 HO HB2 hR2
    go_wp2_with fail
    refine (index_any (some ⟨b, off, none⟩) c xs _ HR3.out HG.out).mono ?_
    rintro e w3 ⟨rfl, hb3⟩
    have HO4 := Lib.hid (own_below HO3.out hb3)
    have HB4 := Lib.hid (below_then HB3.out hb3)
    clear hb3 HO3 HB3 HR3
    rcases ixOf_cases (fun x => x.st == 0) xs with ⟨he, _⟩ | ⟨k, x, he, hk, hx, hp, _⟩
    · have HE : Hid (fre xs = -1) := Lib.hid he
      rw [HE.out]
      have HZ2 := Lib.hid (putOf_no (p := p) HF.out HE.out)
      clear he HE HF
      go_wp2_with fail
      go_ret2
      rw [HZ2.out]
      exact slPost_no HB4.out
    · have HE : Hid (fre xs = k) := Lib.hid he
      have hl : xs.length = 4 := okB_len HG.out
      rw [HE.out]
      have HZ2 := Lib.hid (putOf_new (p := p) HF.out HE.out)
      have hk4 : k < 4 := by omega
      have hkz : (k : Int) < 4 := by omega
      have hfl : (FL xs).length = 12 := by rw [FL_len, hl]; rfl
      have HP := Lib.hid (slt_put HO4.out hk ⟨1, q, p⟩)
      have HW := Lib.hid (below_set (below_set (below_set HB4.out hgw (j := k * 3) (.int .i64 1)) hgw (j := k * 3 + 1) (.int .i64 q)) hgw (j := k * 3 + 2) (.int .i64 p))
      have hlen : (xs.set k ⟨1, q, p⟩).length = 4 := by rw [List.length_set]; exact hl
      have HLEN := Lib.hid hlen
      have f0 := HO4.out.frozenAt (k * 3)
      have f1 := HO4.out.frozenAt (k * 3 + 1)
      have f2 := HO4.out.frozenAt (k * 3 + 2)
      obtain ⟨y0, e0⟩ : ∃ z, w3.cell? ⟨g, k * 3, none⟩ = some z := ⟨_, (HO4.out.cellAt (k * 3) (by omega)).trans (List.getElem?_eq_getElem (by omega))⟩
      obtain ⟨y1, e1⟩ : ∃ z, w3.cell? ⟨g, k * 3 + 1, none⟩ = some z := ⟨_, (HO4.out.cellAt (k * 3 + 1) (by omega)).trans (List.getElem?_eq_getElem (by omega))⟩
      obtain ⟨y2, e2⟩ : ∃ z, w3.cell? ⟨g, k * 3 + 2, none⟩ = some z := ⟨_, (HO4.out.cellAt (k * 3 + 2) (by omega)).trans (List.getElem?_eq_getElem (by omega))⟩
      clear he HE HF HO4 HB4 hlen hfl hl hk hx hp
      go_wp2_with fail
      go_ret2
      rw [HZ2.out]
      exact slPost_4 HLEN.out HP.out.1 HW.out
  · have HF : Hid (fnd xs q = k) := Lib.hid hf
    have hl : xs.length = 4 := okB_len HG.out
    have HZ2 := Lib.hid (putOf_at (p := p) HF.out hx)
    go_wp2_with fail
    refine (slotWith_any (some ⟨b, off, none⟩) 4 c q xs _ hR2.out (by omega)).mono ?_
    rintro e w2 ⟨rfl, hb2⟩
    rw [HF.out]
    have HO3 := Lib.hid (own_below HO.out hb2)
    have HB3 := Lib.hid (below_then HB2.out hb2)
    have hkz : (k : Int) < 4 := by omega
    have hk4 : k < 4 := by omega
    have hfl : (FL xs).length = 12 := by rw [FL_len, hl]; rfl
    have hlen : (xs.set k (again x)).length = 4 := by rw [List.length_set]; exact hl
    have HLEN := Lib.hid hlen
    have hst : x.st = 1 ∨ x.st = 2 ∨ x.st = 3 := by
      have h1 := okB_ok HG.out hx
      simp only [has, Bool.and_eq_true, bne_iff_ne] at hp
      unfold Ok at h1
      omega
    have HFS := fun z => Lib.hid (fl_set0 hx z)
    have c0 : w2.cell? ⟨g, k * 3, none⟩ = some (.int .i64 x.st) := (HO3.out.cellAt (k * 3) (by omega)).trans (FL_at (i := 0) hx rfl)
    have f0 := HO3.out.frozenAt (k * 3)
    obtain ⟨x0, x1, x2⟩ := x
    simp only at hst c0
    clear hb2 HO HB2 hR2 hf hlen hfl hl hk hx hp HF
    rcases hst with rfl | rfl | rfl
    · have HS := Lib.hid (HO3.out.stored (k * 3) (.int .i64 1)).1
      have HW := Lib.hid (below_set HB3.out hgw (j := k * 3) (.int .i64 1))
      rw [(HFS 1).out] at HS
      clear HO3 HB3 HFS
      go_wp2_with fail
      go_ret2
      rw [HZ2.out]
      exact slPost_4 HLEN.out HS.out HW.out
    · have HS := Lib.hid (HO3.out.stored (k * 3) (.int .i64 3)).1
      have HW := Lib.hid (below_set HB3.out hgw (j := k * 3) (.int .i64 3))
      rw [(HFS 3).out] at HS
      clear HO3 HB3 HFS
      go_wp2_with fail
      go_ret2
      rw [HZ2.out]
      exact slPost_4 HLEN.out HS.out HW.out
    · have HS := Lib.hid (HO3.out.stored (k * 3) (.int .i64 3)).1
      have HW := Lib.hid (below_set HB3.out hgw (j := k * 3) (.int .i64 3))
      rw [(HFS 3).out] at HS
      clear HO3 HB3 HFS
      go_wp2_with fail
      go_ret2
      rw [HZ2.out]
      exact slPost_4 HLEN.out HS.out HW.out
end Go.Proofs.Ytadpjkghfgnbbaa.L8
