/- What spec.l8Less, spec.l8Best answer. -/
import Derived.Test.YtadpjkghfgnbbaaSlTa
import Derived.Test.YtadpjkghfgnbbaaSloB
import Derived.BigQuiet
namespace Go.Proofs.Ytadpjkghfgnbbaa.L8
open Go Go.RowKit Go.Proofs.Ytadpjkghfgnbbaa.Mem Go.Proofs.Ytadpjkghfgnbbaa.Own Go.Proofs.Ytadpjkghfgnbbaa.L6 Go.Proofs.Ytadpjkghfgnbbaa.L1
set_option maxRecDepth 100000 in
set_option maxHeartbeats 800000 in
theorem l8Less_c (p q p2 q2 : Int) (r : Bool) (h : decide (p < p2 ∨ (p = p2 ∧ q < q2)) = r) (w : World) :
    Calls Try.prog 79 #[.int .i64 p, .int .i64 q, .int .i64 p2, .int .i64 q2] w fun e w' => e = .returned (.bool r) ∧ w = w' := by
  by_cases h1 : p < p2
  · rw [decide_eq_true (.inl h1)] at h
    subst h
    go_enter Try.func79, Try.ntmps79
    go_wp2_with fail
    go_ret
    exact ⟨rfl, rfl⟩
  · have t1 : decide (p < p2) = false := decide_eq_false h1
    by_cases h2 : p = p2
    · subst h2
      by_cases h3 : q < q2
      · rw [decide_eq_true (.inr ⟨rfl, h3⟩)] at h
        subst h
        clear h1
        go_enter Try.func79, Try.ntmps79
        go_wp2_with fail
        go_ret
        exact ⟨rfl, rfl⟩
      · rw [decide_eq_false (by omega)] at h
        subst h
        have t3 : decide (q < q2) = false := decide_eq_false h3
        clear h1 h3
        go_enter Try.func79, Try.ntmps79
        go_wp2_with fail
        go_ret
        exact ⟨rfl, rfl⟩
    · rw [decide_eq_false (by omega)] at h
      subst h
      have t2 : (p == p2) = false := by simpa using h2
      clear h1 h2
      go_enter Try.func79, Try.ntmps79
      go_wp2_with fail
      go_ret
      exact ⟨rfl, rfl⟩
set_option maxRecDepth 100000 in
set_option maxHeartbeats 800000 in
theorem l8Best_true (A : Option Addr) (c B : Nat) (xs : List Slt) (w : World) (hr : Reads w B 3 A 4 (FL xs)) (hB : B ≤ w.heap.size) :
    Calls Try.prog 57 #[.slice A 4 c, .bool true] w fun e w' => e = .returned (.int .i64 (bst true xs 4)) ∧ Below w.heap.size w w' := by
  have HR := Lib.hid hr
  clear hr
  go_enter Try.func57, Try.ntmps57
  go_wp2_with fail
  go_loopw [5, 6] (fun u5 u6 wr => ∃ (k : Nat) (z : Int), u6 = .int .i64 k ∧ k ≤ 4 ∧ u5 = .int .i64 z ∧ Hid (bst true xs k = z) ∧ Hid (Below w.heap.size w wr)) (fun _ u6 _ => 4 - (intOf u6).toNat)
  case atStart => exact ⟨0, -1, rfl, Nat.zero_le _, rfl, Lib.hid rfl, Lib.hid (Below.refl _ _)⟩
  case round =>
    obtain ⟨k, z, rfl, hk, rfl, HZ, HW⟩ := hrel
    by_cases hlt : k < 4
    · have hrw := HR.out.below (HW.out.mono hB)
      obtain ⟨b1, o1, x, rfl, _, hx, c0, c1, c2⟩ := slt_at hrw hlt
      have HRW := Lib.hid hrw
      have HGX := Lib.hid (getD_atS hx)
      obtain ⟨x0, x1, x2⟩ := x
      simp only at c0 c1 c2
      obtain ⟨wx, hwx⟩ : ∃ wx, wr.alloc (.cells #[.int .i64 x0, .int .i64 x1, .int .i64 x2] 33) = wx := ⟨_, rfl⟩
      have d0 : wx.cell? ⟨wr.heap.size, 0, none⟩ = some (.int .i64 x0) := by rw [← hwx]; exact (Blk.new _ _ _).cell 0 _ rfl
      have d1 : wx.cell? ⟨wr.heap.size, 1, none⟩ = some (.int .i64 x1) := by rw [← hwx]; exact (Blk.new _ _ _).cell 1 _ rfl
      have d2 : wx.cell? ⟨wr.heap.size, 2, none⟩ = some (.int .i64 x2) := by rw [← hwx]; exact (Blk.new _ _ _).cell 2 _ rfl
      have hbx : Below wr.heap.size wr wx := by rw [← hwx]; exact below_more (Below.refl _ _) _
      have HW2 := Lib.hid (below_then HW.out hbx)
      have HWN : Hid (∀ n, Below w.heap.size w (wx.drewN n)) := Lib.hid (fun n => below_then HW2.out (below_dN wx n))
      have HBX := Lib.hid hbx
      have HWX := Lib.hid hwx
      clear hx hwx hbx hrw HW
      go_upto_region 6 with fail
      rw [HWX.out]
      clear HWX c0 c1 c2
      by_cases h1 : x0 = 1
      · have HS1 : Hid ((xs.getD k default).st = 1) := Lib.hid (by rw [HGX.out]; exact h1)
        subst h1
        rcases bst_is true xs k with ⟨hb, _⟩ | ⟨j, hb, hj⟩
        · have hz : z = -1 := by rw [← HZ.out, hb]
          subst hz
          have HN := Lib.hid (bst_first HS1.out hb)
          clear hb HZ
          go_wp2_with fail
          go_big_quiet (fail)
          have hbn := Lib.hid (HWN.out nq)
          clear d0 d1 d2
          go_wp2_with fail
          go_roundw
          case rel => exact ⟨k + 1, k, by go_num, by omega, rfl, HN, hbn⟩
          case measure => simp [intOf]; omega
        · have hz : z = j := by rw [← HZ.out, hb]
          subst hz
          have hj4 : j < 4 := by have := hj.lt; omega
          obtain ⟨b2, o2, y, e2, _, hy, e0, e1, e3⟩ := slt_at (HRW.out) hj4
          simp only [Option.some.injEq, Addr.mk.injEq, and_true] at e2
          obtain ⟨rfl, rfl⟩ := e2
          have HGY := Lib.hid (getD_atS hy)
          obtain ⟨y0, y1, y2⟩ := y
          simp only at e0 e1 e3
          have q1 : wx.cell? ⟨b1, o1 + j * 3 + 1, none⟩ = some (.int .i64 y1) := (HBX.out.cell (block_lt_of_cell e1)).trans e1
          have q2 : wx.cell? ⟨b1, o1 + j * 3 + 2, none⟩ = some (.int .i64 y2) := (HBX.out.cell (block_lt_of_cell e3)).trans e3
          obtain ⟨r, hr⟩ : ∃ r, decide (x2 < y2 ∨ (x2 = y2 ∧ x1 < y1)) = r := ⟨_, rfl⟩
          have HM : Hid (mr true (xs.getD k default) (xs.getD j default) = r) := Lib.hid (by rw [HGX.out, HGY.out, ← hr]; rfl)
          have HRR := Lib.hid hr
          have hjz : (j : Int) < 4 := by omega
          have tj : decide ((j : Int) < 0) = false := decide_eq_false (by omega)
          have cL : ∀ n, Calls Try.prog 79 #[.int .i64 x2, .int .i64 x1, .int .i64 y2, .int .i64 y1] (wx.drewN n) fun e w'' => e = .returned (.bool r) ∧ ∃ m, w'' = wx.drewN m := fun n => Calls.quiet_of_same ((l8Less_c x2 x1 y2 y1 r HRR.out _).mono fun _ _ h => ⟨h.1, h.2.symm⟩)
          have HB := Lib.hid hb
          clear e0 e1 e3 hr hy hb hj HZ
          cases r
          · have HN := Lib.hid (bst_keep HB.out HM.out)
            clear HM HRR
            go_wp2_with fail
            go_big_quiet (exact cL _)
            have hbn := Lib.hid (HWN.out nq)
            clear d0 d1 d2 q1 q2 cL tj
            go_wp2_with fail
            go_roundw
            case rel => exact ⟨k + 1, j, by go_num, by omega, rfl, HN, hbn⟩
            case measure => simp [intOf]; omega
          · have HN := Lib.hid (bst_more HS1.out HB.out HM.out)
            clear HM HRR
            go_wp2_with fail
            go_big_quiet (exact cL _)
            have hbn := Lib.hid (HWN.out nq)
            clear d0 d1 d2 q1 q2 cL tj
            go_wp2_with fail
            go_roundw
            case rel => exact ⟨k + 1, k, by go_num, by omega, rfl, HN, hbn⟩
            case measure => simp [intOf]; omega
      · have t1 : (x0 != 1) = true := by simpa using h1
        have HN : Hid (bst true xs (k + 1) = z) := Lib.hid (by rw [← HZ.out]; exact bst_no (by rw [HGX.out]; exact h1))
        clear h1 HZ
        go_wp2_with fail
        go_roundw
        case rel => exact ⟨k + 1, z, by go_num, by omega, rfl, HN, HW2⟩
        case measure => simp [intOf]; omega
    · have hkn : k = 4 := by omega
      subst hkn
      go_wp2_with fail
      go_ret
      exact ⟨by rw [HZ.out]; rfl, HW.out⟩
set_option maxRecDepth 100000 in
set_option maxHeartbeats 800000 in
theorem l8Best_false (A : Option Addr) (c B : Nat) (xs : List Slt) (w : World) (hr : Reads w B 3 A 4 (FL xs)) (hB : B ≤ w.heap.size) :
    Calls Try.prog 57 #[.slice A 4 c, .bool false] w fun e w' => e = .returned (.int .i64 (bst false xs 4)) ∧ Below w.heap.size w w' := by
  have HR := Lib.hid hr
  clear hr
  go_enter Try.func57, Try.ntmps57
  go_wp2_with fail
  go_loopw [5, 6] (fun u5 u6 wr => ∃ (k : Nat) (z : Int), u6 = .int .i64 k ∧ k ≤ 4 ∧ u5 = .int .i64 z ∧ Hid (bst false xs k = z) ∧ Hid (Below w.heap.size w wr)) (fun _ u6 _ => 4 - (intOf u6).toNat)
  case atStart => exact ⟨0, -1, rfl, Nat.zero_le _, rfl, Lib.hid rfl, Lib.hid (Below.refl _ _)⟩
  case round =>
    obtain ⟨k, z, rfl, hk, rfl, HZ, HW⟩ := hrel
    by_cases hlt : k < 4
    · have hrw := HR.out.below (HW.out.mono hB)
      obtain ⟨b1, o1, x, rfl, _, hx, c0, c1, c2⟩ := slt_at hrw hlt
      have HRW := Lib.hid hrw
      have HGX := Lib.hid (getD_atS hx)
      obtain ⟨x0, x1, x2⟩ := x
      simp only at c0 c1 c2
      obtain ⟨wx, hwx⟩ : ∃ wx, wr.alloc (.cells #[.int .i64 x0, .int .i64 x1, .int .i64 x2] 33) = wx := ⟨_, rfl⟩
      have d0 : wx.cell? ⟨wr.heap.size, 0, none⟩ = some (.int .i64 x0) := by rw [← hwx]; exact (Blk.new _ _ _).cell 0 _ rfl
      have d1 : wx.cell? ⟨wr.heap.size, 1, none⟩ = some (.int .i64 x1) := by rw [← hwx]; exact (Blk.new _ _ _).cell 1 _ rfl
      have d2 : wx.cell? ⟨wr.heap.size, 2, none⟩ = some (.int .i64 x2) := by rw [← hwx]; exact (Blk.new _ _ _).cell 2 _ rfl
      have hbx : Below wr.heap.size wr wx := by rw [← hwx]; exact below_more (Below.refl _ _) _
      have HW2 := Lib.hid (below_then HW.out hbx)
      have HWN : Hid (∀ n, Below w.heap.size w (wx.drewN n)) := Lib.hid (fun n => below_then HW2.out (below_dN wx n))
      have HBX := Lib.hid hbx
      have HWX := Lib.hid hwx
      clear hx hwx hbx hrw HW
      go_upto_region 6 with fail
      rw [HWX.out]
      clear HWX c0 c1 c2
      by_cases h1 : x0 = 1
      · have HS1 : Hid ((xs.getD k default).st = 1) := Lib.hid (by rw [HGX.out]; exact h1)
        subst h1
        rcases bst_is false xs k with ⟨hb, _⟩ | ⟨j, hb, hj⟩
        · have hz : z = -1 := by rw [← HZ.out, hb]
          subst hz
          have HN := Lib.hid (bst_first HS1.out hb)
          clear hb HZ
          go_wp2_with fail
          go_big_quiet (fail)
          have hbn := Lib.hid (HWN.out nq)
          clear d0 d1 d2
          go_wp2_with fail
          go_roundw
          case rel => exact ⟨k + 1, k, by go_num, by omega, rfl, HN, hbn⟩
          case measure => simp [intOf]; omega
        · have hz : z = j := by rw [← HZ.out, hb]
          subst hz
          have hj4 : j < 4 := by have := hj.lt; omega
          obtain ⟨b2, o2, y, e2, _, hy, e0, e1, e3⟩ := slt_at (HRW.out) hj4
          simp only [Option.some.injEq, Addr.mk.injEq, and_true] at e2
          obtain ⟨rfl, rfl⟩ := e2
          have HGY := Lib.hid (getD_atS hy)
          obtain ⟨y0, y1, y2⟩ := y
          simp only at e0 e1 e3
          have q1 : wx.cell? ⟨b1, o1 + j * 3 + 1, none⟩ = some (.int .i64 y1) := (HBX.out.cell (block_lt_of_cell e1)).trans e1
          have q2 : wx.cell? ⟨b1, o1 + j * 3 + 2, none⟩ = some (.int .i64 y2) := (HBX.out.cell (block_lt_of_cell e3)).trans e3
          obtain ⟨r, hr⟩ : ∃ r, decide (y2 < x2 ∨ (y2 = x2 ∧ y1 < x1)) = r := ⟨_, rfl⟩
          have HM : Hid (mr false (xs.getD k default) (xs.getD j default) = r) := Lib.hid (by rw [HGX.out, HGY.out, ← hr]; rfl)
          have HRR := Lib.hid hr
          have hjz : (j : Int) < 4 := by omega
          have tj : decide ((j : Int) < 0) = false := decide_eq_false (by omega)
          have cL : ∀ n, Calls Try.prog 79 #[.int .i64 y2, .int .i64 y1, .int .i64 x2, .int .i64 x1] (wx.drewN n) fun e w'' => e = .returned (.bool r) ∧ ∃ m, w'' = wx.drewN m := fun n => Calls.quiet_of_same ((l8Less_c y2 y1 x2 x1 r HRR.out _).mono fun _ _ h => ⟨h.1, h.2.symm⟩)
          have HB := Lib.hid hb
          clear e0 e1 e3 hr hy hb hj HZ
          cases r
          · have HN := Lib.hid (bst_keep HB.out HM.out)
            clear HM HRR
            go_wp2_with fail
            go_big_quiet (exact cL _)
            have hbn := Lib.hid (HWN.out nq)
            clear d0 d1 d2 q1 q2 cL tj
            go_wp2_with fail
            go_roundw
            case rel => exact ⟨k + 1, j, by go_num, by omega, rfl, HN, hbn⟩
            case measure => simp [intOf]; omega
          · have HN := Lib.hid (bst_more HS1.out HB.out HM.out)
            clear HM HRR
            go_wp2_with fail
            go_big_quiet (exact cL _)
            have hbn := Lib.hid (HWN.out nq)
            clear d0 d1 d2 q1 q2 cL tj
            go_wp2_with fail
            go_roundw
            case rel => exact ⟨k + 1, k, by go_num, by omega, rfl, HN, hbn⟩
            case measure => simp [intOf]; omega
      · have t1 : (x0 != 1) = true := by simpa using h1
        have HN : Hid (bst false xs (k + 1) = z) := Lib.hid (by rw [← HZ.out]; exact bst_no (by rw [HGX.out]; exact h1))
        clear h1 HZ
        go_wp2_with fail
        go_roundw
        case rel => exact ⟨k + 1, z, by go_num, by omega, rfl, HN, HW2⟩
        case measure => simp [intOf]; omega
    · have hkn : k = 4 := by omega
      subst hkn
      go_wp2_with fail
      go_ret
      exact ⟨by rw [HZ.out]; rfl, HW.out⟩
end Go.Proofs.Ytadpjkghfgnbbaa.L8
