/- What MapRun of impl answers. -/
import Derived.Test.YtaamjnpknmimmabMrA
namespace Go.Proofs.Ytaamjnpknmimmab.L4
open Go Go.RowKit Go.Proofs.Ytaamjnpknmimmab.Mem Go.Proofs.Ytaamjnpknmimmab.Own Go.Proofs.Ytaamjnpknmimmab.L1
set_option maxRecDepth 100000 in
set_option maxHeartbeats 4000000 in
theorem implRun_any (A : Option Addr) (c : Nat) (D : Option Addr) (d : Nat) (page frame count : Int) (write : Bool) (t : Tab) (w : World) (hr : ReadsT w w.heap.size A t.dirs.length D t.leaves.length t) (hs : Small t) (hnc : t.dirs.length ≤ c) (hp : -9223372036854775808 ≤ page ∧ page ≤ 9223372036854775807) (hf : -9223372036854775808 ≤ frame ∧ frame ≤ 9223372036854775807) (T : Tab) (b : Bool) (hT : runOf t page frame count write = (T, b)) :
    Calls Try.prog 21 #[.agg #[.slice A t.dirs.length c, .slice D t.leaves.length d], .int .i64 page, .int .i64 frame, .int .i64 count, .bool write] w (MrPost w T b) := by
  obtain ⟨wb, hwb⟩ : ∃ wb, (w.alloc (.cells #[.slice A t.dirs.length c, .slice D t.leaves.length d] 29)).alloc (.cells #[.slice none 0 0, .slice none 0 0] 29) = wb := ⟨_, rfl⟩
  have hb0 : Below w.heap.size w wb := by rw [← hwb]; exact below_more (below_more (Below.refl _ _) _) _
  have h0 : Blk wb w.heap.size 29 #[.slice A t.dirs.length c, .slice D t.leaves.length d] := by rw [← hwb]; exact Blk.alloc (Blk.new _ _ _) _
  have h1 : Blk wb (w.heap.size + 1) 29 #[.slice none 0 0, .slice none 0 0] := by
    rw [← hwb]
    have h := Blk.new (w.alloc (.cells #[.slice A t.dirs.length c, .slice D t.leaves.length d] 29)) #[.slice none 0 0, .slice none 0 0] 29
    rwa [size1] at h
  have HT := Lib.hid hT
  have HWB := Lib.hid hwb
  have HP := Lib.hid h0
  have HQ := Lib.hid h1
  have HB := Lib.hid hb0
  have HR := Lib.hid (hr.grow hb0)
  have HS := Lib.hid hs
  have HC := Lib.hid hnc
  clear hT hwb h0 h1 hb0 hr hs hnc
  by_cases hc1 : count < 1
  · obtain ⟨rfl, rfl⟩ := run_no HT.out (by omega)
    clear HT
    go_enter Try.func21, Try.ntmps21
    go_upto_region 1 with fail
    rw [HWB.out]
    clear HWB
    have r0 := HQ.out.cell 0 _ rfl
    have s0 := HQ.out.free 0
    have r1 := HQ.out.cell 1 _ rfl
    have s1 := HQ.out.free 1
    have HX := Lib.hid (AtMR.zero (R := w.heap.size + 1) HB.out (by omega))
    have HZ := Lib.hid (Blk.set (Blk.set HQ.out 0 (.slice none 0 0)) 1 (.slice none 0 0))
    go_wp2_with fail
    clear r0 r1 s0 s1
    revert HX HZ
    generalize ((World.setCell _ _ _).setCell _ _) = wz
    intro HX HZ
    have z0 := HZ.out.cell 0 _ rfl
    have z1 := HZ.out.cell 1 _ rfl
    exact bodyPost_ret (v := .tuple #[.agg #[.slice none 0 0, .slice none 0 0], .bool false]) (by simp [results, Try.results21, go_sem, z0, z1]) rfl HX.out
  have HA0 : Hid (AtMR w wb w.heap.size (w.heap.size + 1) A c D d t 0) := Lib.hid ⟨HP.out, HQ.out, HR.out, fun h => absurd h (by decide), HC.out, HS.out, HB.out, Nat.le_refl _, Nat.le_succ _, by omega⟩
  clear HP HQ HB HR HS HC
  go_enter Try.func21, Try.ntmps21
  go_upto_region 1 with fail
  rw [HWB.out]
  clear HWB
  go_wp2_with fail
  go_loopw [19] (fun i wr => ∃ (k : Nat) (A' : Option Addr) (c' : Nat) (D' : Option Addr) (d' : Nat) (T' : Tab), i = .int .i64 k ∧ (k : Int) ≤ count ∧ Hid (mapN t page frame write k = some T') ∧ Hid (AtMR w wr w.heap.size (w.heap.size + 1) A' c' D' d' T' k)) (fun i _ => (count - intOf i).toNat)
  case atStart => exact ⟨0, A, c, D, d, t, rfl, by omega, Lib.hid rfl, HA0⟩
  case round =>
    clear HA0
    obtain ⟨k, A', c', D', d', T', rfl, hk, HM, HA⟩ := hrel
    have hbd : 0 < k → (0 ≤ page ∧ page + k ≤ 16) ∧ (0 ≤ frame ∧ frame + k ≤ 16) := fun h => by
      have := mapN_first h HM.out
      omega
    by_cases hlt : (k : Int) < count
    · have q1 : -9223372036854775808 ≤ page + k ∧ page + k ≤ 9223372036854775807 := by
        by_cases h : 0 < k
        · have := hbd h; omega
        · have : k = 0 := by omega
          subst this; omega
      have q2 : -9223372036854775808 ≤ frame + k ∧ frame + k ≤ 9223372036854775807 := by
        by_cases h : 0 < k
        · have := hbd h; omega
        · have : k = 0 := by omega
          subst this; omega
      have q3 : k ≤ 16 := by
        by_cases h : 0 < k
        · have := hbd h; omega
        · omega
      clear hbd
      have o0 := HA.out.out.cell 0 _ rfl
      have o1 := HA.out.out.cell 1 _ rfl
      by_cases hcan : CanM T' (page + k) (frame + k)
      · obtain ⟨T2, hT2⟩ : ∃ T2, (mapOf T' (page + k) (frame + k) write).1 = T2 := ⟨_, rfl⟩
        have hmap := mapOf_yes (wr := write) hcan
        have HN2 := Lib.hid (mapN_succ HM.out hcan)
        have hsm := map_small (wr := write) hcan
        rw [hT2] at hmap HN2 hsm
        have HMAP := Lib.hid hmap
        have HSM := Lib.hid hsm
        clear hcan hT2 hmap hsm
        go_wp2_with fail
        refine (implMap_any A' _ c' D' _ d' (page + k) (frame + k) write T' _ HA.out.reads HA.out.small.1 HA.out.small.2.1 HA.out.small.leaf T2 true HMAP.out).mono ?_
        rintro e w2 ⟨A2, c2, D2, d2, rfl, hown, hb⟩
        have HN := Lib.hid (AtMN.of HA.out hown hb HSM.out)
        clear hown hb HA HSM o0 o1
        obtain ⟨N, hN⟩ : ∃ N, w2.heap.size = N := ⟨_, rfl⟩
        obtain ⟨wn, hwn⟩ : ∃ wn, w2.alloc (.cells #[.slice A2 T2.dirs.length c2, .slice D2 T2.leaves.length d2] 29) = wn := ⟨_, rfl⟩
        rw [hwn, hN] at HN
        have HWN := Lib.hid hwn
        have HNN := Lib.hid hN
        clear hwn hN
        go_upto_region 7 with fail
        rw [HWN.out, HNN.out]
        clear HWN HNN
        have n0 := HN.out.nxt.cell 0 _ rfl
        have n1 := HN.out.nxt.cell 1 _ rfl
        have o0 := HN.out.out.cell 0 _ rfl
        have o1 := HN.out.out.cell 1 _ rfl
        have f0 := HN.out.out.free 0
        have f1 := HN.out.out.free 1
        have HST := Lib.hid (AtMN.store (k := k) HN.out)
        clear HN
        go_wp2_with fail
        go_roundw
        case rel => exact ⟨k + 1, _, _, _, _, T2, by go_num, by omega, HN2, HST⟩
        case measure => simp [intOf]; omega
      · obtain ⟨rfl, rfl⟩ := run_stop HT.out HM.out hcan hlt
        have HMAP := Lib.hid (mapOf_no (wr := write) hcan)
        clear hcan HT
        go_wp2_with fail
        refine (implMap_any A' _ c' D' _ d' (page + k) (frame + k) write T' _ HA.out.reads HA.out.small.1 HA.out.small.2.1 HA.out.small.leaf noTab false HMAP.out).mono ?_
        rintro e w2 ⟨A2, c2, D2, d2, rfl, _, hb⟩
        have HQ := Lib.hid ((Blk.kept hb HA.out.res).alloc (.cells #[.slice A2 noTab.dirs.length c2, .slice D2 noTab.leaves.length d2] 29))
        have HB := Lib.hid (below_more (below_then HA.out.below hb) (.cells #[.slice A2 noTab.dirs.length c2, .slice D2 noTab.leaves.length d2] 29))
        obtain ⟨wn, hwn⟩ : ∃ wn, w2.alloc (.cells #[.slice A2 noTab.dirs.length c2, .slice D2 noTab.leaves.length d2] 29) = wn := ⟨_, rfl⟩
        rw [hwn] at HQ HB
        have HWN := Lib.hid hwn
        clear hwn hb o0 o1 HA
        go_upto_region 7 with fail
        rw [HWN.out]
        clear HWN
        have r0 := HQ.out.cell 0 _ rfl
        have s0 := HQ.out.free 0
        have r1 := HQ.out.cell 1 _ rfl
        have s1 := HQ.out.free 1
        have HX := Lib.hid (AtMR.zero (R := w.heap.size + 1) HB.out (by omega))
        have HZ := Lib.hid (Blk.set (Blk.set HQ.out 0 (.slice none 0 0)) 1 (.slice none 0 0))
        go_wp2_with fail
        clear r0 r1 s0 s1
        revert HX HZ
        generalize ((World.setCell _ _ _).setCell _ _) = wz
        intro HX HZ
        have z0 := HZ.out.cell 0 _ rfl
        have z1 := HZ.out.cell 1 _ rfl
        exact bodyPost_ret (v := .tuple #[.agg #[.slice none 0 0, .slice none 0 0], .bool false]) (by simp [results, Try.results21, go_sem, z0, z1]) rfl HX.out
    · have hkc : (k : Int) = count := by omega
      have hk0 : 0 < k := by omega
      obtain ⟨hTT, rfl⟩ := run_end HT.out HM.out hk0 hkc
      replace hTT := hTT.symm
      subst hTT
      clear HT HM hbd
      clear hc1
      have r0 := HA.out.res.cell 0 _ rfl
      have r1 := HA.out.res.cell 1 _ rfl
      have s0 := HA.out.res.free 0
      have s1 := HA.out.res.free 1
      have o0 := HA.out.out.cell 0 _ rfl
      have o1 := HA.out.out.cell 1 _ rfl
      have HX := Lib.hid (HA.out.last hk0)
      have HZ := Lib.hid (Blk.set (Blk.set HA.out.res 0 (.slice A' T'.dirs.length c')) 1 (.slice D' T'.leaves.length d'))
      clear hk0
      go_wp2_with fail
      clear r0 r1 s0 s1 o0 o1
      revert HX HZ
      generalize ((World.setCell _ _ _).setCell _ _) = wz
      intro HX HZ
      have z0 := HZ.out.cell 0 _ rfl
      have z1 := HZ.out.cell 1 _ rfl
      exact bodyPost_ret (v := .tuple #[.agg #[.slice A' T'.dirs.length c', .slice D' T'.leaves.length d'], .bool true]) (by simp [results, Try.results21, go_sem, z0, z1]) rfl HX.out
end Go.Proofs.Ytaamjnpknmimmab.L4
