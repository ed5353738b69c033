/- What spec.l8End, spec.EndSlot answer. -/
import Derived.Test.YtadpjkghfgnbbaaSlTa
namespace Go.Proofs.Ytadpjkghfgnbbaa.L8
open Go Go.RowKit Go.Proofs.Ytadpjkghfgnbbaa.Mem Go.Proofs.Ytadpjkghfgnbbaa.Own Go.Proofs.Ytadpjkghfgnbbaa.L6 Go.Proofs.Ytadpjkghfgnbbaa.L1
set_option maxRecDepth 100000 in
set_option maxHeartbeats 1600000 in
theorem l8End_any (A : Option Addr) (c : Nat) (xs : List Slt) (q : Int) (w : World) (hr : Reads w w.heap.size 3 A 4 (FL xs)) (ho : okB xs = true) :
    Calls Try.prog 53 #[.slice A 4 c, .int .i64 q] w (SlPostS w (endOf xs q)) := by
  have HR := Lib.hid hr
  have HG := Lib.hid ho
  clear hr ho
  have hl : xs.length = 4 := okB_len HG.out
  rcases ixOf_cases (has q) xs with ⟨hf, _⟩ | ⟨k, x, hf, hk, hx, hp, _⟩
  · have HF : Hid (fnd xs q = -1) := Lib.hid hf
    have HZ2 := Lib.hid (endOf_no HF.out)
    rw [HZ2.out]
    clear hf HZ2 hl
    go_enter Try.func53, Try.ntmps53
    go_wp2_with fail
    refine (l8Find_any A 4 c _ q xs _ HR.out (by omega)).mono ?_
    rintro e w1 ⟨rfl, rfl⟩
    rw [HF.out]
    go_wp2_with fail
    go_ret2
    exact slPostS_nil (Below.refl _ _)
  · have HF : Hid (fnd xs q = k) := Lib.hid hf
    have hk4 : k < 4 := by omega
    have hkz : (k : Int) < 4 := by omega
    have hst := okB_ok HG.out hx
    have hst0 : x.st ≠ 0 := by
      simp only [has, Bool.and_eq_true, bne_iff_ne] at hp
      exact hp.1
    have HE1 : Hid (x.st = 1 → endOf xs q = ([], false)) := Lib.hid (endOf_1 HF.out hx)
    have HE2 : Hid (x.st = 2 → endOf xs q = (xs.set k nul, true)) := Lib.hid (endOf_2 HF.out hx)
    have HE3 : Hid (x.st = 3 → endOf xs q = (xs.set k { x with st := 1 }, true)) := Lib.hid (fun h => endOf_3 HF.out hx (by omega) (by omega))
    have HLEN : Hid (∀ y, (xs.set k y).length = 4) := Lib.hid (fun y => by rw [List.length_set]; exact hl)
    obtain ⟨b, off, y, rfl, hbB, hy, m0, m1, m2⟩ := slt_at HR.out hk4
    obtain rfl : y = x := by rw [hx] at hy; exact (Option.some.inj hy).symm
    obtain ⟨x0, x1, x2⟩ := y
    have hst3 : x0 = 1 ∨ x0 = 2 ∨ x0 = 3 := by unfold Ok at hst; simp only at hst hst0; omega
    simp only at m0 m1 m2 HE1 HE2 HE3
    clear hf hx hy hp hl hk hst hst0
    rcases hst3 with rfl | rfl | rfl
    · rw [HE1.out rfl]
      clear HE1 HE2 HE3
      go_enter Try.func53, Try.ntmps53
      go_wp2_with fail
      refine (l8Find_any (some ⟨b, off, none⟩) 4 c _ q xs _ HR.out (by omega)).mono ?_
      rintro e w1 ⟨rfl, rfl⟩
      rw [HF.out]
      go_wp2_with fail
      go_ret2
      exact slPostS_nil (Below.refl _ _)
    · rw [HE2.out rfl]
      clear HE1 HE2 HE3
      go_enter Try.func53, Try.ntmps53
      go_wp2_with fail
      refine (l8Find_any (some ⟨b, off, none⟩) 4 c _ q xs _ HR.out (by omega)).mono ?_
      rintro e w1 ⟨rfl, rfl⟩
      rw [HF.out]
      go_wp2_with fail
      refine (l8With_any (some ⟨b, off, none⟩) c k xs nul _ HR.out hk4).mono ?_
      rintro e w2 ⟨g, cc, rfl, hown, hb⟩
      have HO := Lib.hid hown
      have HB := Lib.hid hb
      clear hown hb m0 m1 m2
      go_wp2_with fail
      go_ret2
      exact slPostS_4 (HLEN.out _) HO.out HB.out
    · rw [HE3.out rfl]
      clear HE1 HE2 HE3
      obtain ⟨wx, hwx⟩ : ∃ wx, w.alloc (.cells #[.int .i64 3, .int .i64 x1, .int .i64 x2] 33) = wx := ⟨_, rfl⟩
      have HX0 : Hid (Blk wx w.heap.size 33 #[.int .i64 3, .int .i64 x1, .int .i64 x2]) := Lib.hid (by rw [← hwx]; exact Blk.new _ _ _)
      have HBX : Hid (Below w.heap.size w wx) := Lib.hid (by rw [← hwx]; exact below_more (Below.refl _ _) _)
      have HWX := Lib.hid hwx
      clear hwx
      go_enter Try.func53, Try.ntmps53
      go_wp2_with fail
      refine (l8Find_any (some ⟨b, off, none⟩) 4 c _ q xs _ HR.out (by omega)).mono ?_
      rintro e w1 ⟨rfl, rfl⟩
      rw [HF.out]
      go_upto_region 7 with fail
      rw [HWX.out]
      have d0 : wx.cell? ⟨w.heap.size, 0, none⟩ = some (.int .i64 3) := HX0.out.cell 0 _ rfl
      have df := HX0.out.free 0
      clear HWX m0 m1 m2
      go_upto_region 8 with fail
      have HX1 := Lib.hid (HX0.out.set 0 (.int .i64 1))
      replace HBX := Lib.hid (below_set HBX.out (Nat.le_refl _) (j := 0) (.int .i64 1))
      clear d0 df HX0
      revert HX1 HBX
      generalize (World.setCell wx _ _) = wy
      intro HX1 HBX
      have d0 : wy.cell? ⟨w.heap.size, 0, none⟩ = some (.int .i64 1) := HX1.out.cell 0 _ rfl
      have d1 : wy.cell? ⟨w.heap.size, 1, none⟩ = some (.int .i64 x1) := HX1.out.cell 1 _ rfl
      have d2 : wy.cell? ⟨w.heap.size, 2, none⟩ = some (.int .i64 x2) := HX1.out.cell 2 _ rfl
      go_wp2_with fail
      refine (l8With_any (some ⟨b, off, none⟩) c k xs ⟨1, x1, x2⟩ _ ((HR.out.below HBX.out).more HBX.out.size) hk4).mono ?_
      rintro e w2 ⟨g, cc, rfl, hown, hb⟩
      have HO := Lib.hid (own_mono hown HBX.out.size)
      have HB := Lib.hid (below_then HBX.out hb)
      clear hown hb d0 d1 d2 HBX
      go_wp2_with fail
      go_ret2
      exact slPostS_4 (HLEN.out _) HO.out HB.out
set_option maxRecDepth 100000 in
set_option maxHeartbeats 1600000 in
theorem specEnd_any (A : Option Addr) (n c : Nat) (xs : List Slt) (q : Int) (w : World) (hr : Reads w w.heap.size 3 A n (FL xs)) (hn : n ≤ 1048576) :
    Calls Try.prog 15 #[.slice A n c, .int .i64 q] w (SlPost w (endAns xs q)) := by
  have HR := Lib.hid hr
  obtain ⟨b, hb⟩ : ∃ b, okB xs = b := ⟨_, rfl⟩
  have HG := Lib.hid hb
  have HI := Lib.hid (fun w hr => l8Good_any A n c _ xs w hr (Nat.le_refl _) hn b HG.out)
  clear hr hb
  cases b
  · have HZ : Hid (endAns xs q = ([], false)) := Lib.hid (by unfold endAns; rw [if_neg (by rw [HG.out]; simp)])
    rw [HZ.out]
    clear HZ
    go_enter Try.func15, Try.ntmps15
    go_wp2_with fail
    refine (HI.out _ HR.out).mono ?_
    rintro e w1 ⟨rfl, hb1⟩
    have HB1 := Lib.hid hb1
    clear hb1
    go_wp2_with fail
    go_ret2
    exact slPost_nil HB1.out
  obtain ⟨b1, hb1⟩ : ∃ b, decide (0 ≤ q ∧ q < 8) = b := ⟨_, rfl⟩
  have H1 := Lib.hid hb1
  clear hb1
  cases b1
  · have HZ : Hid (endAns xs q = ([], false)) := Lib.hid (by unfold endAns; rw [if_neg (fun hh => of_decide_eq_false H1.out hh.2)])
    rw [HZ.out]
    clear HZ
    go_enter Try.func15, Try.ntmps15
    go_wp2_with fail
    refine (HI.out _ HR.out).mono ?_
    rintro e w1 ⟨rfl, hb1⟩
    have HB1 := Lib.hid hb1
    clear hb1
    go_wp2_with fail
    refine (l6Irq_any _ _ H1.out _).mono ?_
    rintro e w2 ⟨rfl, rfl⟩
    go_wp2_with fail
    go_ret2
    exact slPost_nil HB1.out
  have HZ : Hid (endAns xs q = endOf xs q) := Lib.hid (endAns_eq HG.out)
  rw [HZ.out]
  clear HZ
  have hl : xs.length = 4 := okB_len HG.out
  have h4 : n = 4 := by have h1 : xs.length = n := reads_len HR.out; omega
  subst h4
  clear hl
  go_enter Try.func15, Try.ntmps15
  go_wp2_with fail
  refine (HI.out _ HR.out).mono ?_
  rintro e w1 ⟨rfl, hb1⟩
  have HB1 := Lib.hid hb1
  clear hb1
  go_wp2_with fail
  refine (l6Irq_any _ _ H1.out _).mono ?_
  rintro e w2 ⟨rfl, rfl⟩
  go_wp2_with fail
  refine (l8End_any A c xs q _ ((HR.out.below HB1.out).more HB1.out.size) HG.out).mono ?_
  rintro e w2 ⟨A', c', rfl, hown, hb⟩
  have HO := Lib.hid (own_mono hown HB1.out.size)
  have HB := Lib.hid (below_then HB1.out hb)
  clear hown hb
  obtain ⟨r, hr⟩ : ∃ r, endOf xs q = r := ⟨_, rfl⟩
  rw [hr] at HO
  rw [hr]
  have HRR := Lib.hid hr
  obtain ⟨l, d⟩ := r
  clear hr
  go_wp2_with fail
  go_ret2
  rw [HRR.out]
  exact ⟨A', c', 33, rfl, HO.out, HB.out⟩
end Go.Proofs.Ytadpjkghfgnbbaa.L8
