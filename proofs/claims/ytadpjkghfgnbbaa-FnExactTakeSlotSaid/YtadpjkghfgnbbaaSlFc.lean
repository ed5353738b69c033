/- What impl.TakeSlot answers. -/
import Derived.Test.YtadpjkghfgnbbaaSlG
import Derived.Test.YtadpjkghfgnbbaaSlP
import Derived.Test.YtadpjkghfgnbbaaIsLm
namespace Go.Proofs.Ytadpjkghfgnbbaa.L8
open Go Go.RowKit Go.Proofs.Ytadpjkghfgnbbaa.Mem Go.Proofs.Ytadpjkghfgnbbaa.Own Go.Proofs.Ytadpjkghfgnbbaa.L6
set_option maxRecDepth 100000 in
set_option maxHeartbeats 1600000 in
theorem implTake_any (A : Option Addr) (n c : Nat) (xs : List Slt) (lim : Int) (w : World) (hr : Reads w w.heap.size 3 A n (FL xs)) (hc : n ≤ c) :
    Calls Try.prog 40 #[.slice A n c, .int .i64 lim] w (SlPost3 w (tkAns xs lim)) := by
  have HR := Lib.hid hr
  obtain ⟨b, hb⟩ : ∃ b, okB xs = b := ⟨_, rfl⟩
  have HG := Lib.hid hb
  have HI := Lib.hid (fun w hr => implAre_any A n c _ xs w hr (Nat.le_refl _) hc b HG.out)
  clear hr hb
  cases b
  · have HZ : Hid (tkAns xs lim = ([], 0, false)) := Lib.hid (by unfold tkAns; rw [if_neg (by rw [HG.out]; simp)])
    rw [HZ.out]
    clear HZ
    go_enter Try.func40, Try.ntmps40
    go_wp2_with fail
    refine (HI.out _ HR.out).mono ?_
    rintro e w1 ⟨rfl, hb1⟩
    have HB1 := Lib.hid hb1
    clear hb1
    go_wp2_with fail
    go_ret3
    exact slPost3_no HB1.out
  obtain ⟨b1, hb1⟩ : ∃ b, decide (0 ≤ lim ∧ lim < 17) = b := ⟨_, rfl⟩
  have H1 := Lib.hid hb1
  clear hb1
  cases b1
  · have HZ : Hid (tkAns xs lim = ([], 0, false)) := Lib.hid (by unfold tkAns; rw [if_neg (fun hh => of_decide_eq_false H1.out hh.2)])
    rw [HZ.out]
    clear HZ
    go_enter Try.func40, Try.ntmps40
    go_wp2_with fail
    refine (HI.out _ HR.out).mono ?_
    rintro e w1 ⟨rfl, hb1⟩
    have HB1 := Lib.hid hb1
    clear hb1
    go_wp2_with fail
    refine (isLimit_any _ _ H1.out _).mono ?_
    rintro e w2 ⟨rfl, rfl⟩
    go_wp2_with fail
    go_ret3
    exact slPost3_no HB1.out
  have HZ : Hid (tkAns xs lim = tkOf xs lim) := Lib.hid (by unfold tkAns; rw [if_pos ⟨HG.out, of_decide_eq_true H1.out⟩])
  rw [HZ.out]
  clear HZ
  have hl : xs.length = 4 := okB_len HG.out
  have h4 : n = 4 := by have h1 : xs.length = n := reads_len HR.out; omega
  subst h4
  have hfl : (FL xs).length = 12 := by rw [FL_len, hl]; rfl
  go_enter Try.func40, Try.ntmps40
  go_wp2_with fail
  refine (HI.out _ HR.out).mono ?_
  rintro e w1 ⟨rfl, hb1⟩
  have HB1 := Lib.hid hb1
  clear hb1
  go_wp2_with fail
  refine (isLimit_any _ _ H1.out _).mono ?_
  rintro e w2 ⟨rfl, rfl⟩
  go_wp2_with fail
  refine (pendingSlots_any A c xs _ ((HR.out.below HB1.out).more HB1.out.size) HG.out).mono ?_
  rintro e w2 ⟨A', c', rfl, hown, hb2⟩
  have HB := Lib.hid (below_then HB1.out hb2)
  have HOP := Lib.hid hown
  obtain ⟨m, hm⟩ : ∃ m, (pnd xs).length = m := ⟨_, rfl⟩
  rw [hm] at HOP
  rw [hm]
  have HM := Lib.hid hm
  clear hb2 hown HB1 hm
  by_cases h0 : m = 0
  · have HT := Lib.hid (tkOf_no (lim := lim) (pnd_nil (m := true) (List.length_eq_zero_iff.1 (HM.out.trans h0))))
    subst h0
    go_wp2_with fail
    go_ret3
    rw [HT.out]
    exact slPost3_no HB.out
  have hpl : 0 < (pnd xs).length := by rw [HM.out]; omega
  obtain ⟨k, hk⟩ : ∃ k, (pnd xs)[0]? = some k := ⟨_, List.getElem?_eq_getElem hpl⟩
  have hbst := pnd_head HG.out hk
  have hkm := mem_pnd.1 (List.mem_of_getElem? hk)
  have hk4 : k < 4 := hkm.1
  have hkz : (k : Int) < 4 := by omega
  have hmm : (m : Int) ≠ 0 := by omega
  have t00 : ((m : Int) == 0) = false := by simpa using hmm
  obtain ⟨g0, rfl⟩ := own_head HOP.out (by omega)
  have m9 : (0 : Int) < m := by omega
  have q0 : w2.cell? ⟨g0, 0, none⟩ = some (.int .i64 (k : Int)) := (HOP.out.cellAt 0 (by omega)).trans (I_at (L6.ints_at hk))
  obtain ⟨b, off, y, rfl, _, hx, m0, m1, m2⟩ := slt_at (HR.out.below HB.out) hk4
  have hs1 : y.st = 1 := by have h := hkm.2; rw [getD_atS hx] at h; exact h
  have HX := Lib.hid hx
  have HLEN : Hid (∀ y, (xs.set k y).length = 4) := Lib.hid (fun y => by rw [List.length_set]; exact hl)
  have HFS := Lib.hid (fl_set0 hx 2)
  have HT1 : Hid (lim ≤ y.pr → tkOf xs lim = ([], 0, false)) := Lib.hid (tkOf_hi hbst hx)
  have HT2 : Hid (y.pr < lim → tkOf xs lim = (xs.set k { y with st := 2 }, y.iq, true)) := Lib.hid (tkOf_yes hbst hx)
  clear h0 hpl hk hbst hkm hmm hx hl
  obtain ⟨x0, x1, x2⟩ := y
  simp only at hs1 m0 m1 m2 HFS HT1 HT2
  subst hs1
  by_cases hp : lim ≤ x2
  · have HT := Lib.hid (HT1.out hp)
    have tp : decide (x2 ≥ lim) = true := decide_eq_true hp
    clear HT1 HT2 HFS hp
    go_wp2_with fail
    go_ret3
    rw [HT.out]
    exact slPost3_no HB.out
  · have HT := Lib.hid (HT2.out (by omega))
    have tp : decide (x2 ≥ lim) = false := decide_eq_false hp
    clear HT1 HT2 hp
    go_upto_region 6 with fail
    have q1 := Lib.hid q0
    have hgl : g0 < w2.heap.size := block_lt_of_cell q0
    clear m0 m1 m2 tp
    obtain ⟨_, _, hA, _, a0, a1, a2, b0, b1, b2, c0, c1, c2, d0, d1, d2, hfl, k0, k1, k2, k3, k4, k5, k6, k7, k8, k9, k10, k11⟩ := cells12 (HR.out.below HB.out)
    simp only [Option.some.injEq, Addr.mk.injEq, and_true] at hA
    obtain ⟨rfl, rfl⟩ := hA
    obtain ⟨wc, hwc⟩ : ∃ wc, w2.alloc (.cells #[.int .i64 a0, .int .i64 a1, .int .i64 a2, .int .i64 b0, .int .i64 b1, .int .i64 b2, .int .i64 c0, .int .i64 c1, .int .i64 c2, .int .i64 d0, .int .i64 d1, .int .i64 d2] 66) = wc := ⟨_, rfl⟩
    have HO : Hid (wc.ownsRow w.heap.size 66 3 (.slice (some ⟨w2.heap.size, 0, none⟩) 4 4) 4 (FL xs)) := Lib.hid (own_arr (by rw [← hwc, hfl]; exact Blk.new _ _ _) (reads_len HR.out) HB.out.size)
    have HB2 : Hid (Below w.heap.size w wc) := Lib.hid (by rw [← hwc]; exact below_more HB.out _)
    have HWC := Lib.hid hwc
    have hat := arrayAt_any (some ⟨b, off, none⟩) c
    clear hfl hwc
    go_upto_region 7 with fail
    have q2 : wc.cell? ⟨g0, 0, none⟩ = some (.int .i64 (k : Int)) := by rw [← HWC.out]; exact (World.cell?_alloc_lt w2 _ ⟨g0, 0, none⟩ hgl).trans q1.out
    rw [HWC.out]
    clear HWC hat k0 k1 k2 k3 k4 k5 k6 k7 k8 k9 k10 k11
    have hgw : w.heap.size ≤ w2.heap.size := HB.out.size
    obtain ⟨g, hg⟩ : ∃ g, w2.heap.size = g := ⟨_, rfl⟩
    rw [hg] at HO hgw
    rw [hg]
    have hbw := HB.out
    clear hg HB
    have f0 := HO.out.frozenAt (k * 3)
    have f1 := HO.out.frozenAt (k * 3 + 1)
    have f2 := HO.out.frozenAt (k * 3 + 2)
    have e0 : wc.cell? ⟨g, k * 3, none⟩ = some (.int .i64 1) := (HO.out.cellAt (k * 3) (by omega)).trans (FL_at (i := 0) HX.out rfl)
    have e1 : wc.cell? ⟨g, k * 3 + 1, none⟩ = some (.int .i64 x1) := (HO.out.cellAt (k * 3 + 1) (by omega)).trans (FL_at (i := 1) HX.out rfl)
    have e2 : wc.cell? ⟨g, k * 3 + 2, none⟩ = some (.int .i64 x2) := (HO.out.cellAt (k * 3 + 2) (by omega)).trans (FL_at (i := 2) HX.out rfl)
    have HS := Lib.hid (HO.out.stored (k * 3) (.int .i64 2)).1
    have HW := Lib.hid (below_set HB2.out hgw (j := k * 3) (.int .i64 2))
    rw [HFS.out] at HS
    clear HFS q0 q1 hbw
    go_upto_region 9 with fail
    have r1 : _ = some (Value.int .i64 x1) := (HS.out.cellAt (k * 3 + 1) (by omega)).trans (FL_at (α := Slt) (i := 1) (List.getElem?_set_self (show k < xs.length by rw [reads_len HR.out]; exact hk4)) rfl)
    clear e0 e1 e2 f0 f1 f2 q2
    revert HS HW r1
    generalize (World.setCell wc _ _) = wd
    intro HS HW r1
    trace_state
    go_quiet (fail)
    clear r1
    go_wp2_with fail
    go_ret3
    rw [HT.out]
    exact slPost3_4 (HLEN.out _) HS.out (below_then HW.out (below_dN wd nq))
end Go.Proofs.Ytadpjkghfgnbbaa.L8
