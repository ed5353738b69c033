/- What the laws do with slices of Trap: copies, sizes, comparisons. -/
import Derived.Test.YtaamjnpknmimmaaTrpE
import Derived.Test.YtaamjnpknmimmaaRow
namespace Go.Proofs.Ytaamjnpknmimmaa.L5
open Go Go.RowKit Go.Proofs.Ytaamjnpknmimmaa.Mem Go.Proofs.Ytaamjnpknmimmaa.Own
theorem infoTrp : (Try.prog.info? 25).map (fun i => (i.zero, i.size, i.bytes)) = some (some (.agg #[.int .i64 0, .int .i64 0, .bool false, .int .i64 0, .int .i64 0]), 5, 40) := by kernel_rfl
/-- an element of a slice of them -/
theorem trp_at {w : World} {B n k : Nat} {A : Option Addr} {xs : List Trp} (h : Reads w B 5 A n (FL xs)) (hk : k < n) :
    ∃ b off x, A = some ⟨b, off, none⟩ ∧ b < B ∧ xs[k]? = some x ∧ w.cell? ⟨b, off + k * 5, none⟩ = some (.int .i64 x.cause) ∧ w.cell? ⟨b, off + k * 5 + 1, none⟩ = some (.int .i64 x.width) ∧ w.cell? ⟨b, off + k * 5 + 2, none⟩ = some (.bool x.store) ∧ w.cell? ⟨b, off + k * 5 + 3, none⟩ = some (.int .i64 x.reg) ∧ w.cell? ⟨b, off + k * 5 + 4, none⟩ = some (.int .i64 x.info) := by
  obtain ⟨b, off, x, rfl, hb, hx, hc⟩ := reads_elem (α := Trp) h hk
  exact ⟨b, off, x, rfl, hb, hx, hc 0 _ rfl, hc 1 _ rfl, hc 2 _ rfl, hc 3 _ rfl, hc 4 _ rfl⟩
theorem set_trp {xs : List Trp} {ys : List Value} {k : Nat} {x : Trp} (hl : ys.length = xs.length * 5) (hx : xs[k]? = some x) (h : ys.take (k * 5) = (FL xs).take (k * 5)) :
    (((((ys.set (k * 5) (.int .i64 x.cause)).set (k * 5 + 1) (.int .i64 x.width)).set (k * 5 + 2) (.bool x.store)).set (k * 5 + 3) (.int .i64 x.reg)).set (k * 5 + 4) (.int .i64 x.info)).take ((k + 1) * 5) = (FL xs).take ((k + 1) * 5) := by
  have hL : (FL xs).length = xs.length * 5 := FL_len xs
  have a0 : (FL xs)[k * 5]? = some (.int .i64 x.cause) := FL_at (i := 0) hx rfl
  have a1 : (FL xs)[k * 5 + 1]? = some (.int .i64 x.width) := FL_at (i := 1) hx rfl
  have a2 : (FL xs)[k * 5 + 2]? = some (.bool x.store) := FL_at (i := 2) hx rfl
  have a3 : (FL xs)[k * 5 + 3]? = some (.int .i64 x.reg) := FL_at (i := 3) hx rfl
  have a4 : (FL xs)[k * 5 + 4]? = some (.int .i64 x.info) := FL_at (i := 4) hx rfl
  have s0 := set_take (FL xs) ys (k * 5) _ (by rw [hl, hL]) a0 h
  have s1 := set_take (FL xs) _ (k * 5 + 1) _ (by rw [List.length_set, hl, hL]) a1 s0
  have s2 := set_take (FL xs) _ (k * 5 + 2) _ (by rw [List.length_set, List.length_set, hl, hL]) a2 s1
  have s3 := set_take (FL xs) _ (k * 5 + 3) _ (by rw [List.length_set, List.length_set, List.length_set, hl, hL]) a3 s2
  have s4 := set_take (FL xs) _ (k * 5 + 4) _ (by rw [List.length_set, List.length_set, List.length_set, List.length_set, hl, hL]) a4 s3
  rw [show (k + 1) * 5 = k * 5 + 4 + 1 by omega]
  exact s4
set_option maxRecDepth 100000 in
set_option maxHeartbeats 4000000 in
theorem toTrapS_any (A : Option Addr) (n c B : Nat) (xs : List Trp) (w : World) (hr : Reads w B 5 A n (FL xs)) (hB : B ≤ w.heap.size) (hn : n ≤ 1048576) :
    Calls Try.prog 35 #[.slice A n c] w fun e w' => ∃ g, e = .returned (.slice (some ⟨g, 0, none⟩) n n) ∧ w'.ownsRow w.heap.size 25 5 (.slice (some ⟨g, 0, none⟩) n n) n (FL xs) ∧ Below w.heap.size w w' := by
  obtain ⟨i0, hi, hz0, hz1, hz2⟩ := info_parts infoTrp
  have HL : Hid (xs.length = n) := Lib.hid (reads_len hr)
  go_enter Try.func35, Try.ntmps35
  go_wp2_with (at_make; refine wpList_make_full _ rfl _ _ 50 rfl w.heap.size 25 i0 (.agg #[.int .i64 0, .int .i64 0, .bool false, .int .i64 0, .int .i64 0]) 5 Try.underlying50 hi hz0 hz1 .i64 .i64 _ _ n rfl rfl rfl rfl (by rw [hz2]; omega) (by unfold maxLen; omega) (Nat.le_refl _) ?_; intro w1 hown1 hg1)
  have hb1 : Below w.heap.size w w1 := (Below.refl _ _).grown hg1 (Nat.le_refl _) (by simp)
  have hr1 := Lib.hid (hr.keep (w' := w1) fun p hp => hb1.cell (by omega))
  obtain ⟨z0, hzz⟩ : ∃ z0, (madeCells (Value.agg #[.int .i64 0, .int .i64 0, .bool false, .int .i64 0, .int .i64 0]).cells (n * 5)).toList = z0 := ⟨_, rfl⟩
  have HML : Hid (z0.length = n * 5) := Lib.hid (by rw [← hzz]; simp [madeCells])
  rw [hzz] at hown1
  clear hr hzz
  go_loopw [4] (fun i wr => ∃ (k : Nat) (ys : List Value), i = .int .i64 k ∧ k ≤ n ∧ Hid (ys.length = n * 5) ∧ Hid (ys.take (k * 5) = (FL xs).take (k * 5)) ∧ wr.ownsRow w.heap.size 25 5 (.slice (some ⟨w.heap.size, 0, none⟩) n n) n ys ∧ Below w.heap.size w wr) (fun i _ => n - (intOf i).toNat)
  case atStart => exact ⟨0, _, rfl, Nat.zero_le _, HML, Lib.hid (by simp), hown1, hb1⟩
  case round =>
    clear hown1 hg1 HML
    obtain ⟨k, ys, rfl, hk, HY, HT, hown, hbel⟩ := hrel
    by_cases hlt : k < n
    · have hrr : Reads wr B 5 A n (FL xs) := hr1.out.keep fun p hp => by rw [hbel.cell (by omega), hb1.cell (by omega)]
      obtain ⟨b, off, x, rfl, hbB, hu, c0, c1, c2, c3, c4⟩ := trp_at hrr hlt
      have HT2 := Lib.hid (set_trp (by rw [HY.out, HL.out]) hu HT.out)
      have hy2 : ((((((ys.set (k * 5) (.int .i64 x.cause)).set (k * 5 + 1) (.int .i64 x.width)).set (k * 5 + 2) (.bool x.store)).set (k * 5 + 3) (.int .i64 x.reg)).set (k * 5 + 4) (.int .i64 x.info))).length = n * 5 := by simp only [List.length_set]; exact HY.out
      have HY2 := Lib.hid hy2
      have HO := Lib.hid hown
      have HB := Lib.hid hbel
      clear hrr hown hbel hu HT hy2
      obtain ⟨x0, x1, x2, x3, x4⟩ := x
      go_wp2_with fail
      refine (toTrap_c x0 x1 x2 x3 x4 _).mono ?_
      rintro e w2 ⟨rfl, hb⟩
      have HO2 := Lib.hid (own_below HO.out hb)
      have HB2 := Lib.hid (below_then HB.out hb)
      clear hb HO HB c0 c1 c2 c3 c4
      have f0 := HO2.out.frozenAt (k * 5)
      have f1 := HO2.out.frozenAt (k * 5 + 1)
      have f2 := HO2.out.frozenAt (k * 5 + 2)
      have f3 := HO2.out.frozenAt (k * 5 + 3)
      have f4 := HO2.out.frozenAt (k * 5 + 4)
      obtain ⟨y0, d0⟩ : ∃ z, w2.cell? ⟨w.heap.size, k * 5, none⟩ = some z := ⟨_, (HO2.out.cellAt (k * 5) (by omega)).trans (List.getElem?_eq_getElem (by rw [HY.out]; omega))⟩
      obtain ⟨y1, d1⟩ : ∃ z, w2.cell? ⟨w.heap.size, k * 5 + 1, none⟩ = some z := ⟨_, (HO2.out.cellAt (k * 5 + 1) (by omega)).trans (List.getElem?_eq_getElem (by rw [HY.out]; omega))⟩
      obtain ⟨y2, d2⟩ : ∃ z, w2.cell? ⟨w.heap.size, k * 5 + 2, none⟩ = some z := ⟨_, (HO2.out.cellAt (k * 5 + 2) (by omega)).trans (List.getElem?_eq_getElem (by rw [HY.out]; omega))⟩
      obtain ⟨y3, d3⟩ : ∃ z, w2.cell? ⟨w.heap.size, k * 5 + 3, none⟩ = some z := ⟨_, (HO2.out.cellAt (k * 5 + 3) (by omega)).trans (List.getElem?_eq_getElem (by rw [HY.out]; omega))⟩
      obtain ⟨y4, d4⟩ : ∃ z, w2.cell? ⟨w.heap.size, k * 5 + 4, none⟩ = some z := ⟨_, (HO2.out.cellAt (k * 5 + 4) (by omega)).trans (List.getElem?_eq_getElem (by rw [HY.out]; omega))⟩
      have HS := Lib.hid (((((HO2.out.stored (k * 5) (.int .i64 x0)).1.stored (k * 5 + 1) (.int .i64 x1)).1.stored (k * 5 + 2) (.bool x2)).1.stored (k * 5 + 3) (.int .i64 x3)).1.stored (k * 5 + 4) (.int .i64 x4)).1
      have HW := Lib.hid (below_set (below_set (below_set (below_set (below_set HB2.out (Nat.le_refl _) (j := k * 5) (.int .i64 x0)) (Nat.le_refl _) (j := k * 5 + 1) (.int .i64 x1)) (Nat.le_refl _) (j := k * 5 + 2) (.bool x2)) (Nat.le_refl _) (j := k * 5 + 3) (.int .i64 x3)) (Nat.le_refl _) (j := k * 5 + 4) (.int .i64 x4))
      clear HO2 HB2 HY
      go_wp2_with fail
      go_roundw
      case rel => exact ⟨k + 1, _, by go_num, by omega, HY2, HT2, HS.out, HW.out⟩
      case measure => simp [intOf]; omega
    · have hkn : k = n := by omega
      subst hkn
      have hy : ys = FL xs := by
        have h := HT.out
        rw [List.take_of_length_le (by rw [HY.out]; omega), List.take_of_length_le (by rw [FL_len, HL.out]; exact Nat.le_refl _)] at h
        exact h
      rw [hy] at hown
      clear hy HT HY
      go_wp2
      go_ret
      exact ⟨_, rfl, hown, hbel⟩
set_option maxRecDepth 100000 in
set_option maxHeartbeats 4000000 in
theorem eqTrapS_step (A A' : Option Addr) (n c c' : Nat) (xs : List Trp) (w : World) (hn : n ≤ 1048576) (hx : Reads w w.heap.size 5 A n (FL xs)) (hy : Reads w w.heap.size 5 A' n (FL xs)) :
    Calls Try.prog 37 #[.slice A n c, .slice A' n c'] w fun e w' => e = .returned (.bool true) ∧ Below w.heap.size w w' := by
  go_enter Try.func37, Try.ntmps37
  go_wp2
  go_loopw [5] (fun i wr => ∃ (k : Nat), i = .int .i64 k ∧ k ≤ n ∧ Below w.heap.size w wr) (fun i _ => n - (intOf i).toNat)
  case atStart => exact ⟨0, rfl, Nat.zero_le _, Below.refl _ _⟩
  case round =>
    obtain ⟨k, rfl, hk, hbel⟩ := hrel
    by_cases hlt : k < n
    · have hlt2 : w.heap.size ≤ wr.heap.size := hbel.size
      obtain ⟨b1, o1, x, rfl, _, hx1, c0, c1, c2, c3, c4⟩ := trp_at (hx.below hbel) hlt
      obtain ⟨b2, o2, y, rfl, _, hy1, d0, d1, d2, d3, d4⟩ := trp_at (hy.below hbel) hlt
      obtain rfl : y = x := by rw [hx1] at hy1; exact (Option.some.inj hy1).symm
      obtain ⟨x0, x1, x2, x3, x4⟩ := y
      have k0 := cell_regrown c0
      have k1 := cell_regrown c1
      have k2 := cell_regrown c2
      have k3 := cell_regrown c3
      have k4 := cell_regrown c4
      have l0 := cell_regrown d0
      have l1 := cell_regrown d1
      have l2 := cell_regrown d2
      have l3 := cell_regrown d3
      have l4 := cell_regrown d4
      have cQ : ∀ d os, Calls Try.prog 20 #[.agg #[.int .i64 x0, .int .i64 x1, .bool x2, .int .i64 x3, .int .i64 x4], .agg #[.int .i64 x0, .int .i64 x1, .bool x2, .int .i64 x3, .int .i64 x4]] (Sort.grow (redrawn wr d) os) fun e w'' => e = .returned (.bool true) ∧ ∃ p : Regrown, w'' = Sort.grow (redrawn wr p.d) p.os := fun d os => Calls.regrown_of (eqTrap_c x0 x1 x2 x3 x4 (Sort.grow (redrawn wr d) os))
      clear hx1 hy1 c0 c1 c2 c3 c4 d0 d1 d2 d3 d4
      go_wp2
      refine wp_region_quiet_below (by kernel_rfl) (by kernel_rfl) ?_
      repeat (quiet_step (exact cQ _ _))
      refine wpQuiet_nil ?_
      intro _ hw'
      obtain ⟨⟨dq, osq⟩, hw''⟩ := hw'
      subst hw''
      have hb2 : Below w.heap.size w (Sort.grow (redrawn wr dq) osq) := hbel.trans ((below_regrown wr dq osq).mono hlt2)
      clear k0 k1 k2 k3 k4 l0 l1 l2 l3 l4 cQ
      go_wp2
      go_roundw
      case rel => exact ⟨k + 1, by go_num, by omega, hb2⟩
      case measure => simp [intOf]; omega
    · have hqn : k = n := by omega
      subst hqn
      go_wp2
      go_ret
      exact ⟨rfl, hbel⟩
theorem szTrapS_yes (A : Option Addr) (n c : Nat) (L : Int) (h : n ≤ L) (w : World) (hL : L ≤ 1048576) :
    Calls Try.prog 33 #[.slice A n c, .int .i64 L] w fun e w' => e = .returned (.int .i64 (L - n)) ∧ w = w' := by
  go_enter Try.func33, Try.ntmps33
  go_wp2
  go_ret
  exact ⟨rfl, rfl⟩
theorem szTrapS_no (A : Option Addr) (n c : Nat) (L : Int) (h : L < n) (h0 : 0 ≤ L) (w : World) (hL : L ≤ 1048576) (hn : n ≤ 9223372036854775807) :
    Calls Try.prog 33 #[.slice A n c, .int .i64 L] w fun e w' => e = .returned (.int .i64 (-1)) ∧ w = w' := by
  go_enter Try.func33, Try.ntmps33
  go_wp2
  go_ret
  exact ⟨rfl, rfl⟩
end Go.Proofs.Ytaamjnpknmimmaa.L5
