/- What the laws do with slices of Line: copies, sizes, comparisons. -/
import Derived.Test.YtfdbnolifimnhabLinE
import Derived.Test.YtfdbnolifimnhabLinA
namespace Go.Proofs.Ytfdbnolifimnhab.L7
open Go Go.RowKit Go.Proofs.Ytfdbnolifimnhab.Mem Go.Proofs.Ytfdbnolifimnhab.Own
set_option maxRecDepth 100000 in
set_option maxHeartbeats 4000000 in
theorem toLineS_any (A : Option Addr) (n c B : Nat) (xs : List Lin) (w : World) (hr : Reads w B 4 A n (FL xs)) (hB : B ≤ w.heap.size) (hn : n ≤ 1048576) :
    Calls Try.prog 7 #[.slice A n c] w fun e w' => ∃ g, e = .returned (.slice (some ⟨g, 0, none⟩) n n) ∧ w'.ownsRow w.heap.size 37 4 (.slice (some ⟨g, 0, none⟩) n n) n (FL xs) ∧ Below w.heap.size w w' := by
  obtain ⟨i0, hi, hz0, hz1, hz2⟩ := info_parts infoLin
  have HL : Hid (xs.length = n) := Lib.hid (reads_len hr)
  go_enter Try.func7, Try.ntmps7
  go_wp2_with (at_make; refine wpList_make_full _ rfl _ _ 27 rfl w.heap.size 37 i0 (.agg #[.int .i64 0, .int .i64 0, .bool false, .bool false]) 4 Try.underlying27 hi hz0 hz1 .i64 .i64 _ _ n rfl rfl rfl rfl (by rw [hz2]; omega) (by unfold maxLen; omega) (Nat.le_refl _) ?_; intro w1 hown1 hg1)
  have hb1 : Below w.heap.size w w1 := (Below.refl _ _).grown hg1 (Nat.le_refl _) (by simp)
  have hr1 := Lib.hid (hr.keep (w' := w1) fun p hp => hb1.cell (by omega))
  obtain ⟨z0, hzz⟩ : ∃ z0, (madeCells (Value.agg #[.int .i64 0, .int .i64 0, .bool false, .bool false]).cells (n * 4)).toList = z0 := ⟨_, rfl⟩
  have HML : Hid (z0.length = n * 4) := Lib.hid (by rw [← hzz]; simp [madeCells])
  rw [hzz] at hown1
  clear hr hzz
  go_loopw [4] (fun i wr => ∃ (k : Nat) (ys : List Value), i = .int .i64 k ∧ k ≤ n ∧ Hid (ys.length = n * 4) ∧ Hid (ys.take (k * 4) = (FL xs).take (k * 4)) ∧ wr.ownsRow w.heap.size 37 4 (.slice (some ⟨w.heap.size, 0, none⟩) n n) n ys ∧ Below w.heap.size w wr) (fun i _ => n - (intOf i).toNat)
  case atStart => exact ⟨0, _, rfl, Nat.zero_le _, HML, Lib.hid (by simp), hown1, hb1⟩
  case round =>
    clear hown1 hg1 HML
    obtain ⟨k, ys, rfl, hk, HY, HT, hown, hbel⟩ := hrel
    by_cases hlt : k < n
    · have hrr : Reads wr B 4 A n (FL xs) := hr1.out.keep fun p hp => by rw [hbel.cell (by omega), hb1.cell (by omega)]
      obtain ⟨b, off, x, rfl, hbB, hu, c0, c1, c2, c3⟩ := lin_at hrr hlt
      have HT2 := Lib.hid (set_lin (by rw [HY.out, HL.out]) hu HT.out)
      have hy2 : (((((ys.set (k * 4) (.int .i64 x.ki)).set (k * 4 + 1) (.int .i64 x.iq)).set (k * 4 + 2) (.bool x.hi)).set (k * 4 + 3) (.bool x.ra))).length = n * 4 := by simp only [List.length_set]; exact HY.out
      have HY2 := Lib.hid hy2
      have HO := Lib.hid hown
      have HB := Lib.hid hbel
      clear hrr hown hbel hu HT hy2
      obtain ⟨x0, x1, x2, x3⟩ := x
      go_wp2_with fail
      refine (toLine_c x0 x1 x2 x3 _).mono ?_
      rintro e w2 ⟨rfl, hb⟩
      have HO2 := Lib.hid (own_below HO.out hb)
      have HB2 := Lib.hid (below_then HB.out hb)
      clear hb HO HB c0 c1 c2 c3
      have f0 := HO2.out.frozenAt (k * 4)
      have f1 := HO2.out.frozenAt (k * 4 + 1)
      have f2 := HO2.out.frozenAt (k * 4 + 2)
      have f3 := HO2.out.frozenAt (k * 4 + 3)
      obtain ⟨y0, d0⟩ : ∃ z, w2.cell? ⟨w.heap.size, k * 4, none⟩ = some z := ⟨_, (HO2.out.cellAt (k * 4) (by omega)).trans (List.getElem?_eq_getElem (by rw [HY.out]; omega))⟩
      obtain ⟨y1, d1⟩ : ∃ z, w2.cell? ⟨w.heap.size, k * 4 + 1, none⟩ = some z := ⟨_, (HO2.out.cellAt (k * 4 + 1) (by omega)).trans (List.getElem?_eq_getElem (by rw [HY.out]; omega))⟩
      obtain ⟨y2, d2⟩ : ∃ z, w2.cell? ⟨w.heap.size, k * 4 + 2, none⟩ = some z := ⟨_, (HO2.out.cellAt (k * 4 + 2) (by omega)).trans (List.getElem?_eq_getElem (by rw [HY.out]; omega))⟩
      obtain ⟨y3, d3⟩ : ∃ z, w2.cell? ⟨w.heap.size, k * 4 + 3, none⟩ = some z := ⟨_, (HO2.out.cellAt (k * 4 + 3) (by omega)).trans (List.getElem?_eq_getElem (by rw [HY.out]; omega))⟩
      have HS := Lib.hid ((((HO2.out.stored (k * 4) (.int .i64 x0)).1.stored (k * 4 + 1) (.int .i64 x1)).1.stored (k * 4 + 2) (.bool x2)).1.stored (k * 4 + 3) (.bool x3)).1
      have HW := Lib.hid (below_set (below_set (below_set (below_set HB2.out (Nat.le_refl _) (j := k * 4) (.int .i64 x0)) (Nat.le_refl _) (j := k * 4 + 1) (.int .i64 x1)) (Nat.le_refl _) (j := k * 4 + 2) (.bool x2)) (Nat.le_refl _) (j := k * 4 + 3) (.bool x3))
      clear HO2 HB2 HY
      go_wp2_with fail
      go_roundw
      case rel => exact ⟨k + 1, _, by go_num, by omega, HY2, HT2, HS.out, HW.out⟩
      case measure => simp [intOf]; omega
    · have hkn : k = n := by omega
      subst hkn
      have hy : ys = FL xs := by
        have h := HT.out
        rw [List.take_of_length_le (by rw [HY.out]; omega), List.take_of_length_le (by rw [FL_len, HL.out]; exact Nat.le_refl _)] at h
        exact h
      rw [hy] at hown
      clear hy HT HY
      go_wp2
      go_ret
      exact ⟨_, rfl, hown, hbel⟩
set_option maxRecDepth 100000 in
set_option maxHeartbeats 4000000 in
theorem eqLineS_step (A A' : Option Addr) (n c c' : Nat) (xs : List Lin) (w : World) (hn : n ≤ 1048576) (hx : Reads w w.heap.size 4 A n (FL xs)) (hy : Reads w w.heap.size 4 A' n (FL xs)) :
    Calls Try.prog 10 #[.slice A n c, .slice A' n c'] w fun e w' => e = .returned (.bool true) ∧ Below w.heap.size w w' := by
  go_enter Try.func10, Try.ntmps10
  go_wp2
  go_loopw [5] (fun i wr => ∃ (k : Nat), i = .int .i64 k ∧ k ≤ n ∧ Below w.heap.size w wr) (fun i _ => n - (intOf i).toNat)
  case atStart => exact ⟨0, rfl, Nat.zero_le _, Below.refl _ _⟩
  case round =>
    obtain ⟨k, rfl, hk, hbel⟩ := hrel
    by_cases hlt : k < n
    · have hlt2 : w.heap.size ≤ wr.heap.size := hbel.size
      obtain ⟨b1, o1, x, rfl, _, hx1, c0, c1, c2, c3⟩ := lin_at (hx.below hbel) hlt
      obtain ⟨b2, o2, y, rfl, _, hy1, d0, d1, d2, d3⟩ := lin_at (hy.below hbel) hlt
      obtain rfl : y = x := by rw [hx1] at hy1; exact (Option.some.inj hy1).symm
      obtain ⟨x0, x1, x2, x3⟩ := y
      have k0 := cell_regrown c0
      have k1 := cell_regrown c1
      have k2 := cell_regrown c2
      have k3 := cell_regrown c3
      have l0 := cell_regrown d0
      have l1 := cell_regrown d1
      have l2 := cell_regrown d2
      have l3 := cell_regrown d3
      have cQ : ∀ d os, Calls Try.prog 21 #[.agg #[.int .i64 x0, .int .i64 x1, .bool x2, .bool x3], .agg #[.int .i64 x0, .int .i64 x1, .bool x2, .bool x3]] (Sort.grow (redrawn wr d) os) fun e w'' => e = .returned (.bool true) ∧ ∃ p : Regrown, w'' = Sort.grow (redrawn wr p.d) p.os := fun d os => Calls.regrown_of (eqLine_c x0 x1 x2 x3 (Sort.grow (redrawn wr d) os))
      clear hx1 hy1 c0 c1 c2 c3 d0 d1 d2 d3
      go_wp2
      refine wp_region_quiet_below (by kernel_rfl) (by kernel_rfl) ?_
      repeat (quiet_step (exact cQ _ _))
      refine wpQuiet_nil ?_
      intro _ hw'
      obtain ⟨⟨dq, osq⟩, hw''⟩ := hw'
      subst hw''
      have hb2 : Below w.heap.size w (Sort.grow (redrawn wr dq) osq) := hbel.trans ((below_regrown wr dq osq).mono hlt2)
      clear k0 k1 k2 k3 l0 l1 l2 l3 cQ
      go_wp2
      go_roundw
      case rel => exact ⟨k + 1, by go_num, by omega, hb2⟩
      case measure => simp [intOf]; omega
    · have hqn : k = n := by omega
      subst hqn
      go_wp2
      go_ret
      exact ⟨rfl, hbel⟩
theorem szLineS_yes (A : Option Addr) (n c : Nat) (L : Int) (h : n ≤ L) (w : World) (hL : L ≤ 1048576) :
    Calls Try.prog 5 #[.slice A n c, .int .i64 L] w fun e w' => e = .returned (.int .i64 (L - n)) ∧ w = w' := by
  go_enter Try.func5, Try.ntmps5
  go_wp2
  go_ret
  exact ⟨rfl, rfl⟩
theorem szLineS_no (A : Option Addr) (n c : Nat) (L : Int) (h : L < n) (h0 : 0 ≤ L) (w : World) (hL : L ≤ 1048576) (hn : n ≤ 9223372036854775807) :
    Calls Try.prog 5 #[.slice A n c, .int .i64 L] w fun e w' => e = .returned (.int .i64 (-1)) ∧ w = w' := by
  go_enter Try.func5, Try.ntmps5
  go_wp2
  go_ret
  exact ⟨rfl, rfl⟩
end Go.Proofs.Ytfdbnolifimnhab.L7
