/- What spec.l8Active, spec.ActiveIrqs answer. -/
import Derived.Test.YtadpjkghfgnbbaaSlS
import Derived.Test.YtadpjkghfgnbbaaSlG
import Derived.Test.YtadpjkghfgnbbaaSlAc
import Derived.Test.YtadpjkghfgnbbaaPut
namespace Go.Proofs.Ytadpjkghfgnbbaa.L8
open Go Go.RowKit Go.Proofs.Ytadpjkghfgnbbaa.Mem Go.Proofs.Ytadpjkghfgnbbaa.Own Go.Proofs.Ytadpjkghfgnbbaa.L6 Go.Proofs.Ytadpjkghfgnbbaa.L1 Go.Proofs.Ytadpjkghfgnbbaa.L3
theorem act_zero (xs : List Slt) : act xs 0 = [] := by simp [act, acs]
set_option maxRecDepth 100000 in
set_option maxHeartbeats 1600000 in
theorem l8Active_any (A : Option Addr) (c : Nat) (xs : List Slt) (w : World) (hr : Reads w w.heap.size 3 A 4 (FL xs)) (ho : okB xs = true) :
    Calls Try.prog 46 #[.slice A 4 c] w fun e w' => ∃ A' c', e = .returned (.slice A' (act xs 4).length c') ∧ w'.ownsRow w.heap.size 3 1 (.slice A' (act xs 4).length c') (act xs 4).length (I (act xs 4)) ∧ Below w.heap.size w w' := by
  have HR := Lib.hid hr
  have HG := Lib.hid ho
  clear hr ho
  obtain ⟨wb, hwb⟩ : ∃ wb, w.alloc (.cells #[] 3) = wb := ⟨_, rfl⟩
  have HB0 : Hid (Below w.heap.size w wb) := Lib.hid (by rw [← hwb]; exact below_more (Below.refl _ _) _)
  have HO0 : Hid (wb.ownsRow w.heap.size 3 1 (.slice (some ⟨w.heap.size, 0, none⟩) 0 0) 0 (I (act xs 0))) := Lib.hid (by rw [← hwb, act_zero]; exact World.ownsRow_made w #[] 0 (Nat.le_refl _) (Nat.zero_le _) rfl)
  have HWB := Lib.hid hwb
  clear hwb
  go_enter Try.func46, Try.ntmps46
  go_upto_region 2 with fail
  rw [HWB.out]
  clear HWB
  go_wp2_with fail
  go_loopw [3, 4] (fun u3 u4 wr => ∃ (k go m c' : Nat), u4 = .int .i64 k ∧ k ≤ 4 ∧ u3 = .slice (some ⟨go, 0, none⟩) m c' ∧ Hid ((act xs k).length = m) ∧ Hid (wr.ownsRow w.heap.size 3 1 (.slice (some ⟨go, 0, none⟩) m c') m (I (act xs k))) ∧ Hid (Below w.heap.size w wr)) (fun _ u4 _ => 4 - (intOf u4).toNat)
  case atStart => exact ⟨0, w.heap.size, 0, 0, rfl, Nat.zero_le _, rfl, Lib.hid (by rw [act_zero]; rfl), HO0, HB0⟩
  case round =>
    obtain ⟨k, go, m, c', rfl, hk, rfl, HM, HO, HB⟩ := hrel
    have hm4 : m ≤ 4 := by have h1 := acs_len xs k; rw [← act_len, HM.out] at h1; omega
    by_cases hlt : k < 4
    · obtain ⟨b1, o1, x, rfl, hbB, hu, c0, c1, c2⟩ := slt_at ((HR.out.below HB.out).more HB.out.size) hlt
      have HCS := Lib.hid (acs_succ hu)
      have HU := Lib.hid hu
      have hst := st_of (okB_ok HG.out hu)
      clear hu c2
      obtain ⟨x0, x1, x2⟩ := x
      simp only at c0 c1 HCS hst
      rcases hst with rfl | rfl | rfl | rfl
      · have HN : Hid (acs xs (k + 1) = acs xs k) := Lib.hid (by rw [HCS.out]; exact List.append_nil _)
        have HA : Hid (act xs (k + 1) = act xs k) := Lib.hid (by unfold act; rw [HN.out])
        clear HCS c1
        go_wp2_with fail
        go_roundw
        case rel => exact ⟨k + 1, go, m, c', by go_num, by omega, rfl, Lib.hid (by rw [HA.out]; exact HM.out), Lib.hid (by rw [HA.out]; exact HO.out), HB⟩
        case measure => simp [intOf]; omega
      · have HN : Hid (acs xs (k + 1) = acs xs k) := Lib.hid (by rw [HCS.out]; exact List.append_nil _)
        have HA : Hid (act xs (k + 1) = act xs k) := Lib.hid (by unfold act; rw [HN.out])
        clear HCS c1
        go_wp2_with fail
        go_roundw
        case rel => exact ⟨k + 1, go, m, c', by go_num, by omega, rfl, Lib.hid (by rw [HA.out]; exact HM.out), Lib.hid (by rw [HA.out]; exact HO.out), HB⟩
        case measure => simp [intOf]; omega
      · have hu := HU.out
        obtain ⟨j, hj, hj1, hj2⟩ := act_spot xs k x1 (acs_no HG.out hu rfl)
        have HPUT := Lib.hid (act_put hu rfl hj hj1 hj2)
        rw [HM.out] at hj
        have HL2 : Hid ((act xs (k + 1)).length = m + 1) := Lib.hid (by rw [act_len, HCS.out, List.length_append, ← act_len, HM.out]; rfl)
        have HPC := Lib.hid (l1Put_at go m c' w.heap.size j (act xs k) x1 wr HO.out (by omega) hj hj1 hj2)
        clear HCS hj hj1 hj2 hu
        go_wp2_with fail
        refine HPC.out.mono ?_
        rintro e w3 ⟨g, c2, rfl, hown, hb⟩
        rw [HPUT.out] at hown
        have HO3 := Lib.hid (own_mono hown HB.out.size)
        have HB3 := Lib.hid (below_then HB.out hb)
        clear hown hb HPUT c0 c1 HPC
        go_wp2_with fail
        go_roundw
        case rel => exact ⟨k + 1, g, m + 1, c2, by go_num, by omega, rfl, HL2, HO3, HB3⟩
        case measure => simp [intOf]; omega
      · have hu := HU.out
        obtain ⟨j, hj, hj1, hj2⟩ := act_spot xs k x1 (acs_no HG.out hu rfl)
        have HPUT := Lib.hid (act_put hu rfl hj hj1 hj2)
        rw [HM.out] at hj
        have HL2 : Hid ((act xs (k + 1)).length = m + 1) := Lib.hid (by rw [act_len, HCS.out, List.length_append, ← act_len, HM.out]; rfl)
        have HPC := Lib.hid (l1Put_at go m c' w.heap.size j (act xs k) x1 wr HO.out (by omega) hj hj1 hj2)
        clear HCS hj hj1 hj2 hu
        go_wp2_with fail
        refine HPC.out.mono ?_
        rintro e w3 ⟨g, c2, rfl, hown, hb⟩
        rw [HPUT.out] at hown
        have HO3 := Lib.hid (own_mono hown HB.out.size)
        have HB3 := Lib.hid (below_then HB.out hb)
        clear hown hb HPUT c0 c1 HPC
        go_wp2_with fail
        go_roundw
        case rel => exact ⟨k + 1, g, m + 1, c2, by go_num, by omega, rfl, HL2, HO3, HB3⟩
        case measure => simp [intOf]; omega
    · have hkn : k = 4 := by omega
      subst hkn
      have HE := Lib.hid HM.out.symm
      go_wp2_with fail
      go_ret
      have hm := HM.out
      subst hm
      exact ⟨some ⟨go, 0, none⟩, c', rfl, HO.out, HB.out⟩
set_option maxRecDepth 100000 in
set_option maxHeartbeats 1600000 in
theorem specActive_any (A : Option Addr) (n c : Nat) (xs : List Slt) (w : World) (hr : Reads w w.heap.size 3 A n (FL xs)) (hn : n ≤ 1048576) :
    Calls Try.prog 27 #[.slice A n c] w (AcPost w (acAns xs)) := by
  have HR := Lib.hid hr
  obtain ⟨b, hb⟩ : ∃ b, okB xs = b := ⟨_, rfl⟩
  have HG := Lib.hid hb
  have HI := Lib.hid (fun w hr => l8Good_any A n c _ xs w hr (Nat.le_refl _) hn b HG.out)
  clear hr hb
  cases b
  · have HZ : Hid (acAns xs = ([], false)) := Lib.hid (by unfold acAns; rw [if_neg (by rw [HG.out]; simp)])
    rw [HZ.out]
    clear HZ
    go_enter Try.func27, Try.ntmps27
    go_wp2_with fail
    refine (HI.out _ HR.out).mono ?_
    rintro e w1 ⟨rfl, hb1⟩
    have HB1 := Lib.hid hb1
    clear hb1
    go_wp2_with fail
    go_ret2
    exact acPost_of (l := []) rfl (World.ownsRow_made w1 #[] 0 HB1.out.size (Nat.zero_le _) rfl) (below_more HB1.out _)
  have HZ : Hid (acAns xs = (act xs 4, true)) := Lib.hid (by unfold acAns; rw [if_pos HG.out])
  rw [HZ.out]
  clear HZ
  have h4 : n = 4 := by have h1 : xs.length = n := reads_len HR.out; have h2 := okB_len HG.out; omega
  subst h4
  go_enter Try.func27, Try.ntmps27
  go_wp2_with fail
  refine (HI.out _ HR.out).mono ?_
  rintro e w1 ⟨rfl, hb1⟩
  have HB1 := Lib.hid hb1
  clear hb1
  go_wp2_with fail
  refine (l8Active_any A c xs _ ((HR.out.below HB1.out).more HB1.out.size) HG.out).mono ?_
  rintro e w2 ⟨A', c', rfl, hown, hb⟩
  have HO := Lib.hid (own_mono hown HB1.out.size)
  have HB := Lib.hid (below_then HB1.out hb)
  clear hown hb
  obtain ⟨l, hl⟩ : ∃ l, act xs 4 = l := ⟨_, rfl⟩
  rw [hl] at HO
  rw [hl]
  have HLL := Lib.hid hl
  clear hl
  obtain ⟨m, hm⟩ : ∃ m, l.length = m := ⟨_, rfl⟩
  rw [hm] at HO
  rw [hm]
  have HMM := Lib.hid hm
  clear hm
  go_wp2_with fail
  go_ret2
  rw [HLL.out]
  exact acPost_of HMM.out HO.out HB.out
end Go.Proofs.Ytadpjkghfgnbbaa.L8
