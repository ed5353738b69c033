/- What spec.ServeAll answers. -/
import Derived.Test.YtclnhdjnmfkeaaaSvI
import Derived.StillTailTactics
namespace Go.Proofs.Ytclnhdjnmfkeaaa.L6
open Go Go.RowKit Go.Proofs.Ytclnhdjnmfkeaaa.Mem Go.Proofs.Ytclnhdjnmfkeaaa.Own
theorem two_made (w : World) : SvPost w [] [] false (.returned (.tuple #[.slice (some ⟨w.heap.size, 0, none⟩) 0 0, .slice (some ⟨w.heap.size + 1, 0, none⟩) 0 0, .bool false])) ((w.alloc (.cells #[] 3)).alloc (.cells #[] 53)) := by
  have h1 : (w.alloc (.cells #[] 3)).ownsRow w.heap.size 3 1 (.slice (some ⟨w.heap.size, 0, none⟩) 0 0) 0 [] := World.ownsRow_made w #[] 0 (Nat.le_refl _) (Nat.zero_le _) rfl
  have h2 := World.ownsRow_made (w.alloc (.cells #[] 3)) (e := 53) (size := 5) #[] 0 (base := w.heap.size) (alloc_le _ _) (Nat.zero_le _) rfl
  rw [size1] at h2
  exact ⟨_, 0, _, 0, rfl, h1.alloc _, h2, below_more (below_more (Below.refl _ _) _) _⟩
set_option maxRecDepth 100000 in
set_option maxHeartbeats 4000000 in
theorem specServe_any (A : Option Addr) (n c : Nat) (xs : List Irq) (cpu : Int) (w : World) (hr : Reads w w.heap.size 5 A n (FL xs)) (hn : n ≤ 1048576) (l : List Nat) (ys : List Irq) (b : Bool) (h : svAns xs cpu = (l, ys, b)) :
    Calls Try.prog 39 #[.slice A n c, .int .i64 cpu] w (SvPost w l ys b) := by
  obtain ⟨i0, hi, hz0, hz1, hz2⟩ := info_parts infoIrq
  have HR := Lib.hid hr
  have HH := Lib.hid h
  have HL : Hid (xs.length = n) := Lib.hid (reads_len hr)
  clear hr h
  by_cases hok : OkL xs
  · have HA := Lib.hid (decide_eq_true hok)
    have HOK := Lib.hid hok
    have h8 : n = 8 := by rw [← HL.out]; exact hok.1
    subst h8
    by_cases hc : 0 ≤ cpu ∧ cpu < 4
    · have HC := Lib.hid (decide_eq_true hc)
      obtain ⟨rfl, rfl, rfl⟩ := svAns_yes HH.out hok hc
      obtain ⟨b1, o1, rfl, hbw, _⟩ := HR.out.2 (by omega)
      have HAL := Lib.hid (l6All_any (some ⟨b1, o1, none⟩) c xs cpu w HR.out)
      have hRlen := rdy_len xs cpu 8
      obtain ⟨R, hR⟩ : ∃ R, rdy xs cpu 8 = R := ⟨_, rfl⟩
      have HR8 : Hid (∀ j ∈ R, j < 8) := Lib.hid (fun j hj => by rw [← hR] at hj; exact rdy_lt hj)
      rw [hR] at hRlen HAL ⊢
      obtain ⟨m, hm⟩ : ∃ m, R.length = m := ⟨_, rfl⟩
      rw [hm] at hRlen HAL
      have HM := Lib.hid hm
      clear hok hc HH hR hm
      go_enter Try.func39, Try.ntmps39
      go_wp2_with fail
      refine (l6Good_any _ 8 c _ xs _ HR.out (by omega) _ HA.out).mono ?_
      rintro e w1 ⟨rfl, rfl⟩
      go_wp2_with fail
      refine (l6Cpu_any _ _ HC.out _).mono ?_
      rintro e w2 ⟨rfl, rfl⟩
      go_wp2_with fail
      refine HAL.out.mono ?_
      rintro e w2 ⟨ga, ca, rfl, hown, hb2⟩
      have HB2 := Lib.hid hb2
      have HOA := Lib.hid hown
      have hown0 : (w2.alloc (.cells #[] 53)).ownsRow w2.heap.size 53 5 (.slice (some ⟨w2.heap.size, 0, none⟩) 0 0) 0 [] := World.ownsRow_made w2 #[] 0 (Nat.le_refl _) (Nat.zero_le _) rfl
      have hba : Below w2.heap.size w2 (w2.alloc (.cells #[] 53)) := below_more (Below.refl _ _) _
      have hl2 : (FL xs).length = 8 * 5 := HR.out.1
      have h1 := irq_one xs
      obtain ⟨L, hL⟩ : ∃ L, L = FL xs := ⟨_, rfl⟩
      have hcells : ∀ j u, L[j]? = some u → (w2.alloc (.cells #[] 53)).cell? ((⟨b1, o1, none⟩ : Addr).add j) = some u := by
        intro j u hu
        subst hL
        obtain ⟨b', off', e, hb, hc⟩ := (HR.out.below (below_then hb2 hba)).2 (by omega)
        simp only [Option.some.injEq, Addr.mk.injEq, and_true] at e
        obtain ⟨rfl, rfl⟩ := e
        rw [Go.WideShapes.add_plain]
        exact hc j u hu
      rw [← hL] at hl2 h1
      have HLL := Lib.hid hL
      clear hown hb2 hL
      go_upto_region 5 with (at_builtin; refine wpList_append_own _ rfl _ _ 25 rfl w2.heap.size 53 i0 (.agg #[.bool false, .bool false, .bool false, .int .i64 0, .int .i64 0]) 5 24 Try.underlying25 hi hz0 hz1 hz2 rfl (by decide) _ _ _ rfl hown0 ⟨b1, o1, none⟩ 8 c L rfl hl2 hcells h1 (by unfold maxLen; omega) (by omega) (by simp) ?_; intro v' w3 hown3 hgrow3 _)
      have hb3 : Below w2.heap.size w2 w3 := hba.grown hgrow3 (by simp) (fun q hq => (hown0.lt q hq).1)
      have hown4 : w3.ownsRow w2.heap.size 53 5 v' 8 (FL xs) := by rw [← HLL.out]; simpa using hown3
      obtain ⟨A', c8, rfl, _, _⟩ := own_form hown4
      obtain ⟨g8, rfl⟩ := own_head hown4 (by omega)
      have HB3 := Lib.hid (below_then HB2.out hb3)
      have HO8 := Lib.hid (own_mono hown4 HB2.out.size)
      have HOA3 := Lib.hid (own_below HOA.out hb3)
      clear hown0 hba hcells hl2 h1 HLL hown3 hgrow3 hb3 hown4 HB2 HOA
      go_wp2_with fail
      go_loopw [9] (fun u9 wr => ∃ (k : Nat), u9 = .int .i64 k ∧ k ≤ m ∧ Hid (wr.ownsRow w.heap.size 3 1 (.slice (some ⟨ga, 0, none⟩) m ca) m (I (ints R))) ∧ Hid (wr.ownsRow w.heap.size 53 5 (.slice (some ⟨g8, 0, none⟩) 8 c8) 8 (FL (clr xs (R.take k)))) ∧ Hid (Below w.heap.size w wr)) (fun u9 _ => m - (intOf u9).toNat)
      case atStart => exact ⟨0, rfl, Nat.zero_le _, HOA3, HO8, HB3⟩
      case round =>
        clear HO8 HB3 HOA3
        obtain ⟨k, rfl, hk, HOA, HO8, HB⟩ := hrel
        by_cases hkl : k < m
        · obtain ⟨j, hj⟩ : ∃ j, R[k]? = some j := ⟨_, List.getElem?_eq_getElem (by rw [HM.out]; exact hkl)⟩
          have hj8 : j < 8 := HR8.out j (List.mem_of_getElem? hj)
          have hjz : (j : Int) < 8 := by omega
          have hyl : (clr xs (R.take k)).length = 8 := by rw [clr_len]; exact HL.out
          have HTK : Hid (R.take (k + 1) = R.take k ++ [j]) := Lib.hid (by rw [List.take_add_one, hj]; rfl)
          obtain ⟨ys, hys⟩ : ∃ ys, clr xs (R.take k) = ys := ⟨_, rfl⟩
          rw [hys] at hyl HO8
          obtain ⟨b9, o9, x, e9, _, hu, c0, c1, c2, c3, c4⟩ := irq_at (own_reads HO8.out) hj8
          simp only [Option.some.injEq, Addr.mk.injEq, and_true] at e9
          obtain ⟨rfl, rfl⟩ := e9
          simp only [Nat.zero_add] at c0 c1 c2 c3 c4
          have HCN : Hid (clr xs (R.take (k + 1)) = ys.set j (quit x)) := Lib.hid (by rw [HTK.out, clr_snoc, hys, getD_at hu])
          have a0 : wr.cell? ⟨ga, k, none⟩ = some (.int .i64 (j : Int)) := (HOA.out.cellAt k (by omega)).trans (I_at (ints_at hj))
          obtain ⟨x0, x1, x2, x3, x4⟩ := x
          simp only at c0 c1 c2 c3 c4
          have HJ := Lib.hid hj
          have hbx := below_more (Below.refl wr.heap.size wr) (.cells #[.bool x0, .bool false, .bool x2, .int .i64 x3, .int .i64 x4] 53)
          have HOX := Lib.hid (own_below HO8.out hbx)
          have HAX := Lib.hid (own_below HOA.out hbx)
          have HBX := Lib.hid (below_then HB.out hbx)
          have HV := Lib.hid (Blk.new wr #[.bool x0, .bool false, .bool x2, .int .i64 x3, .int .i64 x4] 53)
          obtain ⟨wx, hwx⟩ : ∃ wx, wr.alloc (.cells #[.bool x0, .bool false, .bool x2, .int .i64 x3, .int .i64 x4] 53) = wx := ⟨_, rfl⟩
          rw [hwx] at HOX HAX HBX HV
          have HWX := Lib.hid hwx
          clear hj hu hys hbx hwx HOA HO8
          go_upto_region 10 with fail
          rw [HWX.out]
          clear HWX a0 c0 c1 c2 c3 c4
          have a0 : wx.cell? ⟨ga, k, none⟩ = some (.int .i64 (j : Int)) := (HAX.out.cellAt k (by omega)).trans (I_at (ints_at HJ.out))
          have v0 := HV.out.cell 0 _ rfl
          have v1 := HV.out.cell 1 _ rfl
          have v2 := HV.out.cell 2 _ rfl
          have v3 := HV.out.cell 3 _ rfl
          have v4 := HV.out.cell 4 _ rfl
          have hfl : (FL ys).length = 40 := by rw [FL_len, hyl]; rfl
          obtain ⟨y0, q0⟩ : ∃ z, wx.cell? ⟨g8, j * 5, none⟩ = some z := ⟨_, (HOX.out.cellAt (j * 5) (by omega)).trans (List.getElem?_eq_getElem (by omega))⟩
          have p0 : wx.drew.cell? ⟨g8, j * 5, none⟩ = some y0 := q0
          have f0 : wx.frozen? ⟨g8, j * 5, none⟩ = false := HOX.out.frozenAt (j * 5)
          have e0 : wx.drew.frozen? ⟨g8, j * 5, none⟩ = false := f0
          obtain ⟨y1, q1⟩ : ∃ z, wx.cell? ⟨g8, j * 5 + 1, none⟩ = some z := ⟨_, (HOX.out.cellAt (j * 5 + 1) (by omega)).trans (List.getElem?_eq_getElem (by omega))⟩
          have p1 : wx.drew.cell? ⟨g8, j * 5 + 1, none⟩ = some y1 := q1
          have f1 : wx.frozen? ⟨g8, j * 5 + 1, none⟩ = false := HOX.out.frozenAt (j * 5 + 1)
          have e1 : wx.drew.frozen? ⟨g8, j * 5 + 1, none⟩ = false := f1
          obtain ⟨y2, q2⟩ : ∃ z, wx.cell? ⟨g8, j * 5 + 2, none⟩ = some z := ⟨_, (HOX.out.cellAt (j * 5 + 2) (by omega)).trans (List.getElem?_eq_getElem (by omega))⟩
          have p2 : wx.drew.cell? ⟨g8, j * 5 + 2, none⟩ = some y2 := q2
          have f2 : wx.frozen? ⟨g8, j * 5 + 2, none⟩ = false := HOX.out.frozenAt (j * 5 + 2)
          have e2 : wx.drew.frozen? ⟨g8, j * 5 + 2, none⟩ = false := f2
          obtain ⟨y3, q3⟩ : ∃ z, wx.cell? ⟨g8, j * 5 + 3, none⟩ = some z := ⟨_, (HOX.out.cellAt (j * 5 + 3) (by omega)).trans (List.getElem?_eq_getElem (by omega))⟩
          have p3 : wx.drew.cell? ⟨g8, j * 5 + 3, none⟩ = some y3 := q3
          have f3 : wx.frozen? ⟨g8, j * 5 + 3, none⟩ = false := HOX.out.frozenAt (j * 5 + 3)
          have e3 : wx.drew.frozen? ⟨g8, j * 5 + 3, none⟩ = false := f3
          obtain ⟨y4, q4⟩ : ∃ z, wx.cell? ⟨g8, j * 5 + 4, none⟩ = some z := ⟨_, (HOX.out.cellAt (j * 5 + 4) (by omega)).trans (List.getElem?_eq_getElem (by omega))⟩
          have p4 : wx.drew.cell? ⟨g8, j * 5 + 4, none⟩ = some y4 := q4
          have f4 : wx.frozen? ⟨g8, j * 5 + 4, none⟩ = false := HOX.out.frozenAt (j * 5 + 4)
          have e4 : wx.drew.frozen? ⟨g8, j * 5 + 4, none⟩ = false := f4
          have hod : wx.drew.ownsRow w.heap.size 53 5 (.slice (some ⟨g8, 0, none⟩) 8 c8) 8 (FL ys) := HOX.out
          have hpt := irq_put hod (k := j) (by omega) ⟨x0, false, x2, x3, x4⟩
          have had : wx.drew.ownsRow w.heap.size 3 1 (.slice (some ⟨ga, 0, none⟩) m ca) m (I (ints R)) := HAX.out
          have hbd : Below w.heap.size w wx.drew := below_then HBX.out (below_drew1 _)
          have HP8 := Lib.hid hpt.1
          have HPA := Lib.hid (own_apart (u := .slice (some ⟨g8, 0, none⟩) 8 c8) had hpt.2 (apart_types hod had (by decide)))
          have HPB := Lib.hid (hbd.grown hpt.2 hbd.size (fun q hq => by injection hq with hq; subst hq; exact (hod.lt g8 rfl).1))
          clear hod hpt had hbd hfl HOX HAX HBX HV
          go_still_tail 7, (by kernel_rfl)
          change wpList _ _ _ _ _ wx.drew
          go_wp2_with fail
          go_roundw
          case rel => exact ⟨k + 1, by go_num, by omega, HPA, by rw [HCN.out]; exact HP8, HPB⟩
          case measure => simp [intOf]; omega
        · have hkm : k = m := by omega
          subst hkm
          have hall : R.take k = R := List.take_of_length_le (by rw [HM.out]; exact Nat.le_refl _)
          rw [hall] at HO8
          clear hall
          go_wp2_with fail
          go_ret3
          exact svPost_of HM.out (by rw [clr_len]; exact HL.out) HOA.out HO8.out HB.out
    · have HC := Lib.hid (decide_eq_false hc)
      obtain ⟨rfl, rfl, rfl⟩ := svAns_no HH.out (fun hh => hc hh.2)
      clear hok hc HH
      go_enter Try.func39, Try.ntmps39
      go_wp2_with fail
      refine (l6Good_any A 8 c _ xs _ HR.out (by omega) _ HA.out).mono ?_
      rintro e w1 ⟨rfl, rfl⟩
      go_wp2_with fail
      refine (l6Cpu_any _ _ HC.out _).mono ?_
      rintro e w2 ⟨rfl, rfl⟩
      go_wp2_with fail
      go_ret3
      exact two_made w
  · have HA := Lib.hid (decide_eq_false hok)
    obtain ⟨rfl, rfl, rfl⟩ := svAns_no HH.out (fun hh => hok hh.1)
    clear hok HH
    go_enter Try.func39, Try.ntmps39
    go_wp2_with fail
    refine (l6Good_any A n c _ xs _ HR.out hn _ HA.out).mono ?_
    rintro e w1 ⟨rfl, rfl⟩
    go_wp2_with fail
    go_ret3
    exact two_made w
end Go.Proofs.Ytclnhdjnmfkeaaa.L6
