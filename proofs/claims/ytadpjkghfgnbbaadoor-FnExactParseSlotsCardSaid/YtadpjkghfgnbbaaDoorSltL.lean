/- What the laws do with slices of Slot: copies, sizes, comparisons. -/
import Derived.Test.YtadpjkghfgnbbaaDoorSltE
import Derived.Test.YtadpjkghfgnbbaaDoorSltA
namespace Go.Proofs.YtadpjkghfgnbbaaDoor.L8
open Go Go.RowKit Go.Proofs.YtadpjkghfgnbbaaDoor.Mem Go.Proofs.YtadpjkghfgnbbaaDoor.Own
set_option maxRecDepth 100000 in
set_option maxHeartbeats 4000000 in
theorem toSlotS_any (A : Option Addr) (n c B : Nat) (xs : List Slt) (w : World) (hr : Reads w B 3 A n (FL xs)) (hB : B ≤ w.heap.size) (hn : n ≤ 1048576) :
    Calls Tryd.prog 7 #[.slice A n c] w fun e w' => ∃ g, e = .returned (.slice (some ⟨g, 0, none⟩) n n) ∧ w'.ownsRow w.heap.size 37 3 (.slice (some ⟨g, 0, none⟩) n n) n (FL xs) ∧ Below w.heap.size w w' := by
  obtain ⟨i0, hi, hz0, hz1, hz2⟩ := info_parts infoSlt
  have HL : Hid (xs.length = n) := Lib.hid (reads_len hr)
  go_enter Tryd.func7, Tryd.ntmps7
  go_wp2_with (at_make; refine wpList_make_full _ rfl _ _ 26 rfl w.heap.size 37 i0 (.agg #[.int .i64 0, .int .i64 0, .int .i64 0]) 3 Tryd.underlying26 hi hz0 hz1 .i64 .i64 _ _ n rfl rfl rfl rfl (by rw [hz2]; omega) (by unfold maxLen; omega) (Nat.le_refl _) ?_; intro w1 hown1 hg1)
  have hb1 : Below w.heap.size w w1 := (Below.refl _ _).grown hg1 (Nat.le_refl _) (by simp)
  have hr1 := Lib.hid (hr.keep (w' := w1) fun p hp => hb1.cell (by omega))
  obtain ⟨z0, hzz⟩ : ∃ z0, (madeCells (Value.agg #[.int .i64 0, .int .i64 0, .int .i64 0]).cells (n * 3)).toList = z0 := ⟨_, rfl⟩
  have HML : Hid (z0.length = n * 3) := Lib.hid (by rw [← hzz]; simp [madeCells])
  rw [hzz] at hown1
  clear hr hzz
  go_loopw [4] (fun i wr => ∃ (k : Nat) (ys : List Value), i = .int .i64 k ∧ k ≤ n ∧ Hid (ys.length = n * 3) ∧ Hid (ys.take (k * 3) = (FL xs).take (k * 3)) ∧ wr.ownsRow w.heap.size 37 3 (.slice (some ⟨w.heap.size, 0, none⟩) n n) n ys ∧ Below w.heap.size w wr) (fun i _ => n - (intOf i).toNat)
  case atStart => exact ⟨0, _, rfl, Nat.zero_le _, HML, Lib.hid (by simp), hown1, hb1⟩
  case round =>
    clear hown1 hg1 HML
    obtain ⟨k, ys, rfl, hk, HY, HT, hown, hbel⟩ := hrel
    by_cases hlt : k < n
    · have hrr : Reads wr B 3 A n (FL xs) := hr1.out.keep fun p hp => by rw [hbel.cell (by omega), hb1.cell (by omega)]
      obtain ⟨b, off, x, rfl, hbB, hu, c0, c1, c2⟩ := slt_at hrr hlt
      have HT2 := Lib.hid (set_slt (by rw [HY.out, HL.out]) hu HT.out)
      have hy2 : ((((ys.set (k * 3) (.int .i64 x.st)).set (k * 3 + 1) (.int .i64 x.iq)).set (k * 3 + 2) (.int .i64 x.pr))).length = n * 3 := by simp only [List.length_set]; exact HY.out
      have HY2 := Lib.hid hy2
      have HO := Lib.hid hown
      have HB := Lib.hid hbel
      clear hrr hown hbel hu HT hy2
      obtain ⟨x0, x1, x2⟩ := x
      go_wp2_with fail
      refine (toSlot_c x0 x1 x2 _).mono ?_
      rintro e w2 ⟨rfl, hb⟩
      have HO2 := Lib.hid (own_below HO.out hb)
      have HB2 := Lib.hid (below_then HB.out hb)
      clear hb HO HB c0 c1 c2
      have f0 := HO2.out.frozenAt (k * 3)
      have f1 := HO2.out.frozenAt (k * 3 + 1)
      have f2 := HO2.out.frozenAt (k * 3 + 2)
      obtain ⟨y0, d0⟩ : ∃ z, w2.cell? ⟨w.heap.size, k * 3, none⟩ = some z := ⟨_, (HO2.out.cellAt (k * 3) (by omega)).trans (List.getElem?_eq_getElem (by rw [HY.out]; omega))⟩
      obtain ⟨y1, d1⟩ : ∃ z, w2.cell? ⟨w.heap.size, k * 3 + 1, none⟩ = some z := ⟨_, (HO2.out.cellAt (k * 3 + 1) (by omega)).trans (List.getElem?_eq_getElem (by rw [HY.out]; omega))⟩
      obtain ⟨y2, d2⟩ : ∃ z, w2.cell? ⟨w.heap.size, k * 3 + 2, none⟩ = some z := ⟨_, (HO2.out.cellAt (k * 3 + 2) (by omega)).trans (List.getElem?_eq_getElem (by rw [HY.out]; omega))⟩
      have HS := Lib.hid (((HO2.out.stored (k * 3) (.int .i64 x0)).1.stored (k * 3 + 1) (.int .i64 x1)).1.stored (k * 3 + 2) (.int .i64 x2)).1
      have HW := Lib.hid (below_set (below_set (below_set HB2.out (Nat.le_refl _) (j := k * 3) (.int .i64 x0)) (Nat.le_refl _) (j := k * 3 + 1) (.int .i64 x1)) (Nat.le_refl _) (j := k * 3 + 2) (.int .i64 x2))
      clear HO2 HB2 HY
      go_wp2_with fail
      go_roundw
      case rel => exact ⟨k + 1, _, by go_num, by omega, HY2, HT2, HS.out, HW.out⟩
      case measure => simp [intOf]; omega
    · have hkn : k = n := by omega
      subst hkn
      have hy : ys = FL xs := by
        have h := HT.out
        rw [List.take_of_length_le (by rw [HY.out]; omega), List.take_of_length_le (by rw [FL_len, HL.out]; exact Nat.le_refl _)] at h
        exact h
      rw [hy] at hown
      clear hy HT HY
      go_wp2
      go_ret
      exact ⟨_, rfl, hown, hbel⟩
set_option maxRecDepth 100000 in
set_option maxHeartbeats 4000000 in
theorem eqSlotS_step (A A' : Option Addr) (n c c' : Nat) (xs : List Slt) (w : World) (hn : n ≤ 1048576) (hx : Reads w w.heap.size 3 A n (FL xs)) (hy : Reads w w.heap.size 3 A' n (FL xs)) :
    Calls Tryd.prog 9 #[.slice A n c, .slice A' n c'] w fun e w' => e = .returned (.bool true) ∧ Below w.heap.size w w' := by
  go_enter Tryd.func9, Tryd.ntmps9
  go_wp2
  go_loopw [5] (fun i wr => ∃ (k : Nat), i = .int .i64 k ∧ k ≤ n ∧ Below w.heap.size w wr) (fun i _ => n - (intOf i).toNat)
  case atStart => exact ⟨0, rfl, Nat.zero_le _, Below.refl _ _⟩
  case round =>
    obtain ⟨k, rfl, hk, hbel⟩ := hrel
    by_cases hlt : k < n
    · have hlt2 : w.heap.size ≤ wr.heap.size := hbel.size
      obtain ⟨b1, o1, x, rfl, _, hx1, c0, c1, c2⟩ := slt_at (hx.below hbel) hlt
      obtain ⟨b2, o2, y, rfl, _, hy1, d0, d1, d2⟩ := slt_at (hy.below hbel) hlt
      obtain rfl : y = x := by rw [hx1] at hy1; exact (Option.some.inj hy1).symm
      obtain ⟨x0, x1, x2⟩ := y
      have k0 := cell_regrown c0
      have k1 := cell_regrown c1
      have k2 := cell_regrown c2
      have l0 := cell_regrown d0
      have l1 := cell_regrown d1
      have l2 := cell_regrown d2
      have cQ : ∀ d os, Calls Tryd.prog 20 #[.agg #[.int .i64 x0, .int .i64 x1, .int .i64 x2], .agg #[.int .i64 x0, .int .i64 x1, .int .i64 x2]] (Sort.grow (redrawn wr d) os) fun e w'' => e = .returned (.bool true) ∧ ∃ p : Regrown, w'' = Sort.grow (redrawn wr p.d) p.os := fun d os => Calls.regrown_of (eqSlot_c x0 x1 x2 (Sort.grow (redrawn wr d) os))
      clear hx1 hy1 c0 c1 c2 d0 d1 d2
      go_wp2
      refine wp_region_quiet_below (by kernel_rfl) (by kernel_rfl) ?_
      repeat (quiet_step (exact cQ _ _))
      refine wpQuiet_nil ?_
      intro _ hw'
      obtain ⟨⟨dq, osq⟩, hw''⟩ := hw'
      subst hw''
      have hb2 : Below w.heap.size w (Sort.grow (redrawn wr dq) osq) := hbel.trans ((below_regrown wr dq osq).mono hlt2)
      clear k0 k1 k2 l0 l1 l2 cQ
      go_wp2
      go_roundw
      case rel => exact ⟨k + 1, by go_num, by omega, hb2⟩
      case measure => simp [intOf]; omega
    · have hqn : k = n := by omega
      subst hqn
      go_wp2
      go_ret
      exact ⟨rfl, hbel⟩
theorem szSlotS_yes (A : Option Addr) (n c : Nat) (L : Int) (h : n ≤ L) (w : World) (hL : L ≤ 1048576) :
    Calls Tryd.prog 5 #[.slice A n c, .int .i64 L] w fun e w' => e = .returned (.int .i64 (L - n)) ∧ w = w' := by
  go_enter Tryd.func5, Tryd.ntmps5
  go_wp2
  go_ret
  exact ⟨rfl, rfl⟩
theorem szSlotS_no (A : Option Addr) (n c : Nat) (L : Int) (h : L < n) (h0 : 0 ≤ L) (w : World) (hL : L ≤ 1048576) (hn : n ≤ 9223372036854775807) :
    Calls Tryd.prog 5 #[.slice A n c, .int .i64 L] w fun e w' => e = .returned (.int .i64 (-1)) ∧ w = w' := by
  go_enter Tryd.func5, Tryd.ntmps5
  go_wp2
  go_ret
  exact ⟨rfl, rfl⟩
end Go.Proofs.YtadpjkghfgnbbaaDoor.L8
