/- What spec.l8Put, spec.PutIrq answer. -/
import Derived.Test.YtadpjkghfgnbbaaSlSf
import Derived.Test.YtadpjkghfgnbbaaSlW
import Derived.Test.YtadpjkghfgnbbaaSlX
namespace Go.Proofs.Ytadpjkghfgnbbaa.L8
open Go Go.RowKit Go.Proofs.Ytadpjkghfgnbbaa.Mem Go.Proofs.Ytadpjkghfgnbbaa.Own Go.Proofs.Ytadpjkghfgnbbaa.L6 Go.Proofs.Ytadpjkghfgnbbaa.L1
/-- an empty slice of the call's own -/
theorem slPost_nil {w w1 : World} (hb : Below w.heap.size w w1) : SlPost w ([], false) (.returned (.tuple #[.slice (some ⟨w1.heap.size, 0, none⟩) 0 0, .bool false])) (w1.alloc (.cells #[] 33)) :=
  ⟨some ⟨w1.heap.size, 0, none⟩, 0, 33, rfl, World.ownsRow_made w1 #[] 0 hb.size (Nat.zero_le _) rfl, below_more hb _⟩
theorem slPost3_nil {w w1 : World} (hb : Below w.heap.size w w1) : SlPost3 w ([], 0, false) (.returned (.tuple #[.slice (some ⟨w1.heap.size, 0, none⟩) 0 0, .int .i64 0, .bool false])) (w1.alloc (.cells #[] 33)) :=
  ⟨some ⟨w1.heap.size, 0, none⟩, 0, 33, rfl, World.ownsRow_made w1 #[] 0 hb.size (Nat.zero_le _) rfl, below_more hb _⟩
/-- slots of spec's own, an answer of two parts -/
def SlPostS (w : World) (r : List Slt × Bool) (e : Ending) (w' : World) : Prop :=
  ∃ A' c', e = .returned (.tuple #[.slice A' r.1.length c', .bool r.2]) ∧ w'.ownsRow w.heap.size 33 3 (.slice A' r.1.length c') r.1.length (FL r.1) ∧ Below w.heap.size w w'
theorem slPostS_nil {w w1 : World} (hb : Below w.heap.size w w1) : SlPostS w ([], false) (.returned (.tuple #[.slice (some ⟨w1.heap.size, 0, none⟩) 0 0, .bool false])) (w1.alloc (.cells #[] 33)) :=
  ⟨some ⟨w1.heap.size, 0, none⟩, 0, rfl, World.ownsRow_made w1 #[] 0 hb.size (Nat.zero_le _) rfl, below_more hb _⟩
theorem slPostS_4 {w w' : World} {l : List Slt} {g c : Nat} (hl : l.length = 4) (ho : w'.ownsRow w.heap.size 33 3 (.slice (some ⟨g, 0, none⟩) 4 c) 4 (FL l)) (hb : Below w.heap.size w w') : SlPostS w (l, true) (.returned (.tuple #[.slice (some ⟨g, 0, none⟩) 4 c, .bool true])) w' :=
  ⟨some ⟨g, 0, none⟩, c, by rw [hl], by rw [hl]; exact ho, hb⟩
set_option maxRecDepth 100000 in
set_option maxHeartbeats 1600000 in
theorem l8Put_any (A : Option Addr) (c : Nat) (xs : List Slt) (q p : Int) (w : World) (hr : Reads w w.heap.size 3 A 4 (FL xs)) (ho : okB xs = true) :
    Calls Try.prog 67 #[.slice A 4 c, .int .i64 q, .int .i64 p] w (SlPostS w (putOf xs q p)) := by
  have HR := Lib.hid hr
  have HG := Lib.hid ho
  clear hr ho
  have hl : xs.length = 4 := okB_len HG.out
  rcases ixOf_cases (has q) xs with ⟨hf, _⟩ | ⟨k, x, hf, hk, hx, hp, _⟩
  · have HF : Hid (fnd xs q = -1) := Lib.hid hf
    clear hf
    rcases ixOf_cases (fun x => x.st == 0) xs with ⟨he, _⟩ | ⟨k, x, he, hk, hx, hp, _⟩
    · have HE : Hid (fre xs = -1) := Lib.hid he
      have HZ2 := Lib.hid (putOf_no (p := p) HF.out HE.out)
      rw [HZ2.out]
      clear he HZ2 hl
      go_enter Try.func67, Try.ntmps67
      go_wp2_with fail
      refine (l8Find_any A 4 c _ q xs _ HR.out (by omega)).mono ?_
      rintro e w1 ⟨rfl, rfl⟩
      rw [HF.out]
      go_wp2_with fail
      refine (l8Free_any A 4 c _ xs _ HR.out (by omega)).mono ?_
      rintro e w1 ⟨rfl, rfl⟩
      rw [HE.out]
      go_wp2_with fail
      go_ret2
      exact slPostS_nil (Below.refl _ _)
    · have HE : Hid (fre xs = k) := Lib.hid he
      have HZ2 := Lib.hid (putOf_new (p := p) HF.out HE.out)
      have hk4 : k < 4 := by omega
      have HLEN : Hid ((xs.set k ⟨1, q, p⟩).length = 4) := Lib.hid (by rw [List.length_set]; exact hl)
      rw [HZ2.out]
      clear he hx hp HZ2 hl hk
      go_enter Try.func67, Try.ntmps67
      go_wp2_with fail
      refine (l8Find_any A 4 c _ q xs _ HR.out (by omega)).mono ?_
      rintro e w1 ⟨rfl, rfl⟩
      rw [HF.out]
      go_wp2_with fail
      refine (l8Free_any A 4 c _ xs _ HR.out (by omega)).mono ?_
      rintro e w1 ⟨rfl, rfl⟩
      rw [HE.out]
      go_wp2_with fail
      refine (l8With_any A c k xs ⟨1, q, p⟩ _ HR.out hk4).mono ?_
      rintro e w1 ⟨g, cc, rfl, hown, hb⟩
      have HO := Lib.hid hown
      have HB := Lib.hid hb
      clear hown hb
      go_wp2_with fail
      go_ret2
      exact slPostS_4 HLEN.out HO.out HB.out
  · have HF : Hid (fnd xs q = k) := Lib.hid hf
    have hk4 : k < 4 := by omega
    have hkz : (k : Int) < 4 := by omega
    have HZ2 := Lib.hid (putOf_at (p := p) HF.out hx)
    have HLEN : Hid ((xs.set k (again x)).length = 4) := Lib.hid (by rw [List.length_set]; exact hl)
    have hst := okB_ok HG.out hx
    have hst0 : x.st ≠ 0 := by
      simp only [has, Bool.and_eq_true, bne_iff_ne] at hp
      exact hp.1
    obtain ⟨b, off, y, rfl, hbB, hy, m0, m1, m2⟩ := slt_at HR.out hk4
    obtain rfl : y = x := by rw [hx] at hy; exact (Option.some.inj hy).symm
    rw [HZ2.out]
    obtain ⟨x0, x1, x2⟩ := y
    have hst3 : x0 = 1 ∨ x0 = 2 ∨ x0 = 3 := by unfold Ok at hst; simp only at hst hst0; omega
    simp only at m0 m1 m2
    clear hf hx hy hp HZ2 hl hk hst hst0
    rcases hst3 with rfl | rfl | rfl
    · obtain ⟨wx, hwx⟩ : ∃ wx, w.alloc (.cells #[.int .i64 1, .int .i64 x1, .int .i64 x2] 33) = wx := ⟨_, rfl⟩
      have HX0 : Hid (Blk wx w.heap.size 33 #[.int .i64 1, .int .i64 x1, .int .i64 x2]) := Lib.hid (by rw [← hwx]; exact Blk.new _ _ _)
      have HBX : Hid (Below w.heap.size w wx) := Lib.hid (by rw [← hwx]; exact below_more (Below.refl _ _) _)
      have HWX := Lib.hid hwx
      clear hwx
      go_enter Try.func67, Try.ntmps67
      go_wp2_with fail
      refine (l8Find_any (some ⟨b, off, none⟩) 4 c _ q xs _ HR.out (by omega)).mono ?_
      rintro e w1 ⟨rfl, rfl⟩
      rw [HF.out]
      go_upto_region 4 with fail
      rw [HWX.out]
      have d0 : wx.cell? ⟨w.heap.size, 0, none⟩ = some (.int .i64 1) := HX0.out.cell 0 _ rfl
      have d1 : wx.cell? ⟨w.heap.size, 1, none⟩ = some (.int .i64 x1) := HX0.out.cell 1 _ rfl
      have d2 : wx.cell? ⟨w.heap.size, 2, none⟩ = some (.int .i64 x2) := HX0.out.cell 2 _ rfl
      clear HWX m0 m1 m2
      go_wp2_with fail
      refine (l8With_any (some ⟨b, off, none⟩) c k xs ⟨1, x1, x2⟩ _ ((HR.out.below HBX.out).more HBX.out.size) hk4).mono ?_
      rintro e w2 ⟨g, cc, rfl, hown, hb⟩
      have HO := Lib.hid (own_mono hown HBX.out.size)
      have HB := Lib.hid (below_then HBX.out hb)
      clear hown hb d0 d1 d2 HBX
      go_wp2_with fail
      go_ret2
      exact slPostS_4 HLEN.out HO.out HB.out
    · obtain ⟨wx, hwx⟩ : ∃ wx, w.alloc (.cells #[.int .i64 2, .int .i64 x1, .int .i64 x2] 33) = wx := ⟨_, rfl⟩
      have HX0 : Hid (Blk wx w.heap.size 33 #[.int .i64 2, .int .i64 x1, .int .i64 x2]) := Lib.hid (by rw [← hwx]; exact Blk.new _ _ _)
      have HBX : Hid (Below w.heap.size w wx) := Lib.hid (by rw [← hwx]; exact below_more (Below.refl _ _) _)
      have HWX := Lib.hid hwx
      clear hwx
      go_enter Try.func67, Try.ntmps67
      go_wp2_with fail
      refine (l8Find_any (some ⟨b, off, none⟩) 4 c _ q xs _ HR.out (by omega)).mono ?_
      rintro e w1 ⟨rfl, rfl⟩
      rw [HF.out]
      go_upto_region 4 with fail
      rw [HWX.out]
      have d0 : wx.cell? ⟨w.heap.size, 0, none⟩ = some (.int .i64 2) := HX0.out.cell 0 _ rfl
      have d1 : wx.cell? ⟨w.heap.size, 1, none⟩ = some (.int .i64 x1) := HX0.out.cell 1 _ rfl
      have d2 : wx.cell? ⟨w.heap.size, 2, none⟩ = some (.int .i64 x2) := HX0.out.cell 2 _ rfl
      clear HWX m0 m1 m2
      have df := HX0.out.free 0
      go_upto_region 6 with fail
      have HX1 := Lib.hid (HX0.out.set 0 (.int .i64 3))
      replace HBX := Lib.hid (below_set HBX.out (Nat.le_refl _) (j := 0) (.int .i64 3))
      clear d0 d1 d2 df HX0
      revert HX1 HBX
      generalize (World.setCell wx _ _) = wy
      intro HX1 HBX
      have d0 : wy.cell? ⟨w.heap.size, 0, none⟩ = some (.int .i64 3) := HX1.out.cell 0 _ rfl
      have d1 : wy.cell? ⟨w.heap.size, 1, none⟩ = some (.int .i64 x1) := HX1.out.cell 1 _ rfl
      have d2 : wy.cell? ⟨w.heap.size, 2, none⟩ = some (.int .i64 x2) := HX1.out.cell 2 _ rfl
      go_wp2_with fail
      refine (l8With_any (some ⟨b, off, none⟩) c k xs ⟨3, x1, x2⟩ _ ((HR.out.below HBX.out).more HBX.out.size) hk4).mono ?_
      rintro e w2 ⟨g, cc, rfl, hown, hb⟩
      have HO := Lib.hid (own_mono hown HBX.out.size)
      have HB := Lib.hid (below_then HBX.out hb)
      clear hown hb d0 d1 d2 HBX
      go_wp2_with fail
      go_ret2
      exact slPostS_4 HLEN.out HO.out HB.out
    · obtain ⟨wx, hwx⟩ : ∃ wx, w.alloc (.cells #[.int .i64 3, .int .i64 x1, .int .i64 x2] 33) = wx := ⟨_, rfl⟩
      have HX0 : Hid (Blk wx w.heap.size 33 #[.int .i64 3, .int .i64 x1, .int .i64 x2]) := Lib.hid (by rw [← hwx]; exact Blk.new _ _ _)
      have HBX : Hid (Below w.heap.size w wx) := Lib.hid (by rw [← hwx]; exact below_more (Below.refl _ _) _)
      have HWX := Lib.hid hwx
      clear hwx
      go_enter Try.func67, Try.ntmps67
      go_wp2_with fail
      refine (l8Find_any (some ⟨b, off, none⟩) 4 c _ q xs _ HR.out (by omega)).mono ?_
      rintro e w1 ⟨rfl, rfl⟩
      rw [HF.out]
      go_upto_region 4 with fail
      rw [HWX.out]
      have d0 : wx.cell? ⟨w.heap.size, 0, none⟩ = some (.int .i64 3) := HX0.out.cell 0 _ rfl
      have d1 : wx.cell? ⟨w.heap.size, 1, none⟩ = some (.int .i64 x1) := HX0.out.cell 1 _ rfl
      have d2 : wx.cell? ⟨w.heap.size, 2, none⟩ = some (.int .i64 x2) := HX0.out.cell 2 _ rfl
      clear HWX m0 m1 m2
      go_wp2_with fail
      refine (l8With_any (some ⟨b, off, none⟩) c k xs ⟨3, x1, x2⟩ _ ((HR.out.below HBX.out).more HBX.out.size) hk4).mono ?_
      rintro e w2 ⟨g, cc, rfl, hown, hb⟩
      have HO := Lib.hid (own_mono hown HBX.out.size)
      have HB := Lib.hid (below_then HBX.out hb)
      clear hown hb d0 d1 d2 HBX
      go_wp2_with fail
      go_ret2
      exact slPostS_4 HLEN.out HO.out HB.out
set_option maxRecDepth 100000 in
set_option maxHeartbeats 1600000 in
theorem specPut_any (A : Option Addr) (n c : Nat) (xs : List Slt) (q p : Int) (w : World) (hr : Reads w w.heap.size 3 A n (FL xs)) (hn : n ≤ 1048576) :
    Calls Try.prog 36 #[.slice A n c, .int .i64 q, .int .i64 p] w (SlPost w (putAns xs q p)) := by
  have HR := Lib.hid hr
  obtain ⟨b, hb⟩ : ∃ b, okB xs = b := ⟨_, rfl⟩
  have HG := Lib.hid hb
  have HI := Lib.hid (fun w hr => l8Good_any A n c _ xs w hr (Nat.le_refl _) hn b HG.out)
  clear hr hb
  cases b
  · have HZ : Hid (putAns xs q p = ([], false)) := Lib.hid (by unfold putAns; rw [if_neg (by rw [HG.out]; simp)])
    rw [HZ.out]
    clear HZ
    go_enter Try.func36, Try.ntmps36
    go_wp2_with fail
    refine (HI.out _ HR.out).mono ?_
    rintro e w1 ⟨rfl, hb1⟩
    have HB1 := Lib.hid hb1
    clear hb1
    go_wp2_with fail
    go_ret2
    exact slPost_nil HB1.out
  obtain ⟨b1, hb1⟩ : ∃ b, decide (0 ≤ q ∧ q < 8) = b := ⟨_, rfl⟩
  have H1 := Lib.hid hb1
  obtain ⟨b2, hb2⟩ : ∃ b, decide (0 ≤ p ∧ p < 16) = b := ⟨_, rfl⟩
  have H2 := Lib.hid hb2
  clear hb1 hb2
  cases b1
  · have HZ : Hid (putAns xs q p = ([], false)) := Lib.hid (by unfold putAns; rw [if_neg (fun hh => of_decide_eq_false H1.out hh.2.1)])
    rw [HZ.out]
    clear HZ
    go_enter Try.func36, Try.ntmps36
    go_wp2_with fail
    refine (HI.out _ HR.out).mono ?_
    rintro e w1 ⟨rfl, hb1⟩
    have HB1 := Lib.hid hb1
    clear hb1
    go_wp2_with fail
    refine (l6Irq_any _ _ H1.out _).mono ?_
    rintro e w2 ⟨rfl, rfl⟩
    go_wp2_with fail
    go_ret2
    exact slPost_nil HB1.out
  cases b2
  · have HZ : Hid (putAns xs q p = ([], false)) := Lib.hid (by unfold putAns; rw [if_neg (fun hh => of_decide_eq_false H2.out hh.2.2)])
    rw [HZ.out]
    clear HZ
    go_enter Try.func36, Try.ntmps36
    go_wp2_with fail
    refine (HI.out _ HR.out).mono ?_
    rintro e w1 ⟨rfl, hb1⟩
    have HB1 := Lib.hid hb1
    clear hb1
    go_wp2_with fail
    refine (l6Irq_any _ _ H1.out _).mono ?_
    rintro e w2 ⟨rfl, rfl⟩
    go_wp2_with fail
    refine (l6Prio_any _ _ H2.out _).mono ?_
    rintro e w2 ⟨rfl, rfl⟩
    go_wp2_with fail
    go_ret2
    exact slPost_nil HB1.out
  have HZ : Hid (putAns xs q p = putOf xs q p) := Lib.hid (by unfold putAns; rw [if_pos ⟨HG.out, of_decide_eq_true H1.out, of_decide_eq_true H2.out⟩])
  rw [HZ.out]
  clear HZ
  have hl : xs.length = 4 := okB_len HG.out
  have h4 : n = 4 := by have h1 : xs.length = n := reads_len HR.out; omega
  subst h4
  clear hl
  go_enter Try.func36, Try.ntmps36
  go_wp2_with fail
  refine (HI.out _ HR.out).mono ?_
  rintro e w1 ⟨rfl, hb1⟩
  have HB1 := Lib.hid hb1
  clear hb1
  go_wp2_with fail
  refine (l6Irq_any _ _ H1.out _).mono ?_
  rintro e w2 ⟨rfl, rfl⟩
  go_wp2_with fail
  refine (l6Prio_any _ _ H2.out _).mono ?_
  rintro e w2 ⟨rfl, rfl⟩
  go_wp2_with fail
  refine (l8Put_any A c xs q p _ ((HR.out.below HB1.out).more HB1.out.size) HG.out).mono ?_
  rintro e w2 ⟨A', c', rfl, hown, hb⟩
  have HO := Lib.hid (own_mono hown HB1.out.size)
  have HB := Lib.hid (below_then HB1.out hb)
  clear hown hb
  obtain ⟨r, hr⟩ : ∃ r, putOf xs q p = r := ⟨_, rfl⟩
  rw [hr] at HO
  rw [hr]
  have HRR := Lib.hid hr
  obtain ⟨l, d⟩ := r
  clear hr
  go_wp2_with fail
  go_ret2
  rw [HRR.out]
  exact ⟨A', c', 33, rfl, HO.out, HB.out⟩
end Go.Proofs.Ytadpjkghfgnbbaa.L8
