/- What spec.PriorityMask answers. -/
import Derived.Test.YtclnhdjnmfkeaaaPmI
import Derived.Test.YtclnhdjnmfkeaaaRdA
import Derived.Deep.AppendLies
namespace Go.Proofs.Ytclnhdjnmfkeaaa.L6
open Go Go.RowKit Go.Proofs.Ytclnhdjnmfkeaaa.Mem Go.Proofs.Ytclnhdjnmfkeaaa.Own
set_option maxRecDepth 100000 in
set_option maxHeartbeats 4000000 in
theorem specMask_any (A : Option Addr) (n c : Nat) (xs : List Irq) (cpu mask : Int) (w : World) (hr : Reads w w.heap.size 5 A n (FL xs)) (hn : n ≤ 1048576) (l : List Nat) (b : Bool) (h : pmAns xs cpu mask = (l, b)) :
    Calls Try.prog 41 #[.slice A n c, .int .i64 cpu, .int .i64 mask] w (NatPost w l b) := by
  obtain ⟨i0, hi, hz0, hz1, hz2⟩ := info_parts intInfo
  have HE0 : Hid ((w.alloc (.cells #[] 3)).ownsRow w.heap.size 3 1 (.slice (some ⟨w.heap.size, 0, none⟩) 0 0) 0 (I (ints []))) := Lib.hid (World.ownsRow_made w #[] 0 (Nat.le_refl _) (Nat.zero_le _) rfl)
  have HB0 := Lib.hid (below_more (Below.refl w.heap.size w) (.cells #[] 3))
  obtain ⟨wb, hwb⟩ : ∃ wb, w.alloc (.cells #[] 3) = wb := ⟨_, rfl⟩
  have HSZ : Hid (wb.heap.size = w.heap.size + 1) := Lib.hid (by rw [← hwb, size1])
  have HRW := Lib.hid hr
  rw [hwb] at HE0 HB0
  have HR := Lib.hid ((hr.below HB0.out).more HB0.out.size)
  have HH := Lib.hid h
  have HL : Hid (xs.length = n) := Lib.hid (reads_len hr)
  have HWB := Lib.hid hwb
  clear hr h hwb
  by_cases hok : OkL xs
  · have HA := Lib.hid (decide_eq_true hok)
    have h8 : n = 8 := by rw [← HL.out]; exact hok.1
    subst h8
    by_cases hc : 0 ≤ cpu ∧ cpu < 4
    · have HC := Lib.hid (decide_eq_true hc)
      by_cases hm : 0 ≤ mask ∧ mask < 17
      · have HM : Hid (decide (0 ≤ mask ∧ mask ≤ 16) = true) := Lib.hid (decide_eq_true (by omega))
        obtain ⟨rfl, rfl⟩ := pmAns_yes HH.out ⟨hok, hc, hm⟩
        obtain ⟨b1, o1, rfl, hbw, _⟩ := HR.out.2 (by omega)
        have HAL := Lib.hid (l6All_any (some ⟨b1, o1, none⟩) c xs cpu wb HR.out)
        have hRlen := rdy_len xs cpu 8
        obtain ⟨R, hR⟩ : ∃ R, rdy xs cpu 8 = R := ⟨_, rfl⟩
        have HR8 : Hid (∀ j ∈ R, j < 8) := Lib.hid (fun j hj => by rw [← hR] at hj; exact rdy_lt hj)
        rw [hR] at hRlen HAL ⊢
        obtain ⟨m, hmm⟩ : ∃ m, R.length = m := ⟨_, rfl⟩
        rw [hmm] at hRlen HAL
        have HMM := Lib.hid hmm
        clear hok hc hm HH hR hmm
        go_enter Try.func41, Try.ntmps41
        go_upto_region 2 with fail
        rw [HWB.out]
        clear HWB
        go_wp2_with fail
        refine (l6Good_any _ 8 c _ xs _ HR.out (by omega) _ HA.out).mono ?_
        rintro e w1 ⟨rfl, rfl⟩
        go_wp2_with fail
        refine (l6Cpu_any _ _ HC.out _).mono ?_
        rintro e w2 ⟨rfl, rfl⟩
        go_wp2_with fail
        refine (Go.Proofs.Ytclnhdjnmfkeaaa.L6.l1In_any _ _ _ _ HM.out _).mono ?_
        rintro e w2 ⟨rfl, rfl⟩
        go_wp2_with fail
        refine HAL.out.mono ?_
        rintro e w2 ⟨ga, ca, rfl, hown, hb2⟩
        have HB2 := Lib.hid hb2
        have HOA := Lib.hid hown
        have HOE := Lib.hid (own_below HE0.out hb2)
        clear hown hb2 HE0
        go_wp2_with fail
        have hsw := HB2.out.size
        have hgaE : w.heap.size ≠ ga := by have h1 := (HOA.out.lt ga rfl).1; have h2 := HSZ.out; omega
        have hgal := (HOA.out.lt ga rfl).2
        have HB2w := Lib.hid (below_then HB0.out HB2.out)
        have HOAw := Lib.hid (own_mono HOA.out HB0.out.size)
        go_loopw [8, 10] (fun u8 u10 wr => ∃ (k go c8 : Nat) (F : List Nat), u10 = .int .i64 k ∧ k ≤ m ∧ u8 = .slice (some ⟨go, 0, none⟩) F.length c8 ∧ go ≠ ga ∧ F.length ≤ k ∧ w2.heap.size ≤ wr.heap.size ∧ Hid (F = (R.take k).filter fun j => decide (prio xs j < mask)) ∧ Hid (wr.ownsRow w.heap.size 3 1 (.slice (some ⟨go, 0, none⟩) F.length c8) F.length (I (ints F))) ∧ Hid (wr.ownsRow w.heap.size 3 1 (.slice (some ⟨ga, 0, none⟩) m ca) m (I (ints R))) ∧ Hid (Below w.heap.size w wr)) (fun _ u10 _ => m - (intOf u10).toNat)
        case atStart => exact ⟨0, _, 0, [], rfl, Nat.zero_le _, rfl, hgaE, Nat.le_refl _, Nat.le_refl _, Lib.hid rfl, HOE, HOAw, HB2w⟩
        case round =>
          clear HOE HOA HOAw HB2w HB2 hgaE
          obtain ⟨k, go, c8, F, rfl, hk, rfl, hga, hFk, hws, HF, HO8, HOA, HB⟩ := hrel
          by_cases hkl : k < m
          · obtain ⟨j, hj⟩ : ∃ j, R[k]? = some j := ⟨_, List.getElem?_eq_getElem (by rw [HMM.out]; exact hkl)⟩
            have hj8 : j < 8 := HR8.out j (List.mem_of_getElem? hj)
            have hjz : (j : Int) < 8 := by omega
            have HTK : Hid (R.take (k + 1) = R.take k ++ [j]) := Lib.hid (by rw [List.take_add_one, hj]; rfl)
            have a0 : wr.cell? ⟨ga, k, none⟩ = some (.int .i64 (j : Int)) := (HOA.out.cellAt k (by omega)).trans (I_at (ints_at hj))
            obtain ⟨b9, o9, x, e9, _, hu, _, _, _, c3, _⟩ := irq_at (HRW.out.below HB.out) hj8
            simp only [Option.some.injEq, Addr.mk.injEq, and_true] at e9
            obtain ⟨rfl, rfl⟩ := e9
            have HPJ : Hid (prio xs j = x.pr) := Lib.hid (by unfold prio; rw [getD_at hu])
            obtain ⟨x0, x1, x2, p, x4⟩ := x
            simp only at c3
            clear hj hu
            by_cases hp : p < mask
            · have HFN : Hid (F ++ [j] = (R.take (k + 1)).filter fun j => decide (prio xs j < mask)) := Lib.hid (by rw [HTK.out, List.filter_append, ← HF.out]; simp [HPJ.out, hp])
              have hown := HO8.out
              have hsz := HB.out.size
              go_wp2_with (at_builtin; refine wpList_append_lies _ rfl _ _ 35 rfl w.heap.size 3 i0 (.int .i64 0) 1 8 Try.underlying35 hi hz0 hz1 hz2 rfl (by decide) _ _ _ rfl (hown.alloc _) ⟨wr.heap.size, 0, none⟩ 1 1 [.int .i64 j] rfl rfl (cell_one_new _ _ _) (fun x hx => by simp at hx; subst hx; rfl) (by decide) (by unfold maxLen; omega) (by omega) (by simp; omega) _ rfl ?_; intro g9 c9 w4 hown1 hgrow1 hat1 _)
              have hgq : World.grownBy _ w4 (some go) := hgrow1
              have hba := below_more (Below.refl wr.heap.size wr) (.cells #[.int .i64 (j : Int)] 3)
              have hg9 : g9 ≠ ga := by
                rcases hat1 with h | h
                · have h5 : (some go : Option Nat) = some g9 := h
                  injection h5 with h5
                  omega
                · rw [size1] at h; omega
              have hap : Apart (.slice (some ⟨go, 0, none⟩) F.length c8) (.slice (some ⟨ga, 0, none⟩) m ca) := fun q h1 h2 => by
                simp only [Value.ownBlock, Option.some.injEq] at h1 h2
                omega
              have HA4 := Lib.hid (own_apart (own_below HOA.out hba) hgrow1 hap)
              have HB4 := Lib.hid ((below_then HB.out hba).grown hgrow1 (by simp; omega) (fun q hq => (hown.lt q hq).1))
              have hsz4 : w2.heap.size ≤ w4.heap.size := by have := hgq.size; rw [size1] at this; omega
              have HO4 : Hid (w4.ownsRow w.heap.size 3 1 (.slice (some ⟨g9, 0, none⟩) (F ++ [j]).length c9) (F ++ [j]).length (I (ints (F ++ [j])))) := Lib.hid (by simpa [I, ints] using hown1)
              clear hown hsz hown1 hgrow1 hat1 hgq hba hap a0 c3
              go_roundw
              case rel => exact ⟨k + 1, g9, c9, F ++ [j], by go_num, by omega, by simp, hg9, by simp; omega, hsz4, HFN, HO4, HA4, HB4⟩
              case measure => simp [intOf]; omega
            · have HFN : Hid (F = (R.take (k + 1)).filter fun j => decide (prio xs j < mask)) := Lib.hid (by rw [HTK.out, List.filter_append, ← HF.out]; simp [HPJ.out, hp])
              have hpd : decide (p < mask) = false := decide_eq_false hp
              clear hp
              go_wp2_with fail
              clear hpd a0 c3
              go_roundw
              case rel => exact ⟨k + 1, go, c8, F, by go_num, by omega, rfl, hga, by omega, hws, HFN, HO8, HOA, HB⟩
              case measure => simp [intOf]; omega
          · have hkm : k = m := by omega
            subst hkm
            have heq := HF.out
            rw [List.take_of_length_le (by rw [HMM.out]; exact Nat.le_refl _)] at heq
            subst heq
            go_wp2_with fail
            go_ret2
            exact natPost_of rfl HO8.out HB.out
      · have HM : Hid (decide (0 ≤ mask ∧ mask ≤ 16) = false) := Lib.hid (decide_eq_false (by omega))
        obtain ⟨rfl, rfl⟩ := pmAns_no HH.out (fun hh => hm hh.2.2)
        clear hok hc hm HH
        go_enter Try.func41, Try.ntmps41
        go_upto_region 2 with fail
        rw [HWB.out]
        clear HWB
        go_wp2_with fail
        refine (l6Good_any _ 8 c _ xs _ HR.out (by omega) _ HA.out).mono ?_
        rintro e w1 ⟨rfl, rfl⟩
        go_wp2_with fail
        refine (l6Cpu_any _ _ HC.out _).mono ?_
        rintro e w2 ⟨rfl, rfl⟩
        go_wp2_with fail
        refine (Go.Proofs.Ytclnhdjnmfkeaaa.L6.l1In_any _ _ _ _ HM.out _).mono ?_
        rintro e w2 ⟨rfl, rfl⟩
        go_wp2_with fail
        go_ret2
        exact ⟨_, 0, rfl, HE0.out, HB0.out⟩
    · have HC := Lib.hid (decide_eq_false hc)
      obtain ⟨rfl, rfl⟩ := pmAns_no HH.out (fun hh => hc hh.2.1)
      clear hok hc HH
      go_enter Try.func41, Try.ntmps41
      go_upto_region 2 with fail
      rw [HWB.out]
      clear HWB
      go_wp2_with fail
      refine (l6Good_any _ 8 c _ xs _ HR.out (by omega) _ HA.out).mono ?_
      rintro e w1 ⟨rfl, rfl⟩
      go_wp2_with fail
      refine (l6Cpu_any _ _ HC.out _).mono ?_
      rintro e w2 ⟨rfl, rfl⟩
      go_wp2_with fail
      go_ret2
      exact ⟨_, 0, rfl, HE0.out, HB0.out⟩
  · have HA := Lib.hid (decide_eq_false hok)
    obtain ⟨rfl, rfl⟩ := pmAns_no HH.out (fun hh => hok hh.1)
    clear hok HH
    go_enter Try.func41, Try.ntmps41
    go_upto_region 2 with fail
    rw [HWB.out]
    clear HWB
    go_wp2_with fail
    refine (l6Good_any _ n c _ xs _ HR.out hn _ HA.out).mono ?_
    rintro e w1 ⟨rfl, rfl⟩
    go_wp2_with fail
    go_ret2
    exact ⟨_, 0, rfl, HE0.out, HB0.out⟩
end Go.Proofs.Ytclnhdjnmfkeaaa.L6
