/- What the laws do with entries and slices of them: copies, sizes, comparisons. -/
import Derived.Test.YtaamjnpknmimmabTab
namespace Go.Proofs.Ytaamjnpknmimmab.L4
open Go Go.RowKit Go.Proofs.Ytaamjnpknmimmab.Mem Go.Proofs.Ytaamjnpknmimmab.Own
set_option maxHeartbeats 1000000 in
theorem toEntry_c (f : Int) (wr : Bool) (w : World) :
    Calls Try.prog 110 #[.agg #[.int .i64 f, .bool wr]] w fun e w' => e = .returned (.agg #[.int .i64 f, .bool wr]) ∧ Below w.heap.size w w' := by
  go_enter Try.func110, Try.ntmps110
  go_wp2
  refine bodyPost_ret (v := .agg #[.int .i64 f, .bool wr]) (by simp [results, Try.results110, go_sem]) rfl ⟨rfl, ?_⟩
  exact below_more (below_more (below_more (Below.refl _ _) _) _) _
set_option maxHeartbeats 1000000 in
theorem eqEntry_c (f : Int) (wr : Bool) (w : World) :
    Calls Try.prog 112 #[.agg #[.int .i64 f, .bool wr], .agg #[.int .i64 f, .bool wr]] w fun e w' => e = .returned (.bool true) ∧ Below w.heap.size w w' := by
  go_enter Try.func112, Try.ntmps112
  go_wp2
  go_ret
  exact ⟨rfl, below_more (below_more (Below.refl _ _) _) _⟩
theorem entInfo : (Try.prog.info? 70).map (fun i => (i.zero, i.size, i.bytes)) = some (some (.agg #[.int .i64 0, .bool false]), 2, 16) := by kernel_rfl
theorem set2_take {xs : List Ent} {ys : List Value} {k : Nat} {x : Ent} (hl : ys.length = xs.length * 2) (hx : xs[k]? = some x) (h : ys.take (k * 2) = (FL xs).take (k * 2)) :
    ((ys.set (k * 2) (.int .i64 x.f)).set (k * 2 + 1) (.bool x.wr)).take ((k + 1) * 2) = (FL xs).take ((k + 1) * 2) := by
  have hL : (FL xs).length = xs.length * 2 := FL_len xs
  have a0 : (FL xs)[k * 2]? = some (.int .i64 x.f) := FL_at (i := 0) hx rfl
  have a1 : (FL xs)[k * 2 + 1]? = some (.bool x.wr) := FL_at (i := 1) hx rfl
  have s0 := set_take (FL xs) ys (k * 2) _ (by rw [hl, hL]) a0 h
  have s1 := set_take (FL xs) _ (k * 2 + 1) _ (by rw [List.length_set, hl, hL]) a1 s0
  rw [show (k + 1) * 2 = k * 2 + 1 + 1 by omega]
  exact s1
set_option maxRecDepth 100000 in
set_option maxHeartbeats 2000000 in
theorem toEntryS_any (A : Option Addr) (n c B : Nat) (xs : List Ent) (w : World) (hr : Reads w B 2 A n (FL xs)) (hB : B ≤ w.heap.size) (hn : n ≤ 1048576) :
    Calls Try.prog 98 #[.slice A n c] w fun e w' => ∃ g, e = .returned (.slice (some ⟨g, 0, none⟩) n n) ∧ w'.ownsRow w.heap.size 70 2 (.slice (some ⟨g, 0, none⟩) n n) n (FL xs) ∧ Below w.heap.size w w' := by
  obtain ⟨i0, hi, hz0, hz1, hz2⟩ := info_parts entInfo
  have HL : Hid (xs.length = n) := Lib.hid (reads_len hr)
  go_enter Try.func98, Try.ntmps98
  go_wp2_with (at_make; refine wpList_make_full _ rfl _ _ 74 rfl w.heap.size 70 i0 (.agg #[.int .i64 0, .bool false]) 2 Try.underlying74 hi hz0 hz1 .i64 .i64 _ _ n rfl rfl rfl rfl (by rw [hz2]; omega) (by unfold maxLen; omega) (Nat.le_refl _) ?_; intro w1 hown1 hg1)
  have hb1 : Below w.heap.size w w1 := (Below.refl _ _).grown hg1 (Nat.le_refl _) (by simp)
  have hr1 := Lib.hid (hr.keep (w' := w1) fun p hp => hb1.cell (by omega))
  obtain ⟨z0, hzz⟩ : ∃ z0, (madeCells (Value.agg #[.int .i64 0, .bool false]).cells (n * 2)).toList = z0 := ⟨_, rfl⟩
  have HML : Hid (z0.length = n * 2) := Lib.hid (by rw [← hzz]; simp [madeCells])
  rw [hzz] at hown1
  clear hr hzz
  go_loopw [4] (fun i wr => ∃ (k : Nat) (ys : List Value), i = .int .i64 k ∧ k ≤ n ∧ Hid (ys.length = n * 2) ∧ Hid (ys.take (k * 2) = (FL xs).take (k * 2)) ∧ wr.ownsRow w.heap.size 70 2 (.slice (some ⟨w.heap.size, 0, none⟩) n n) n ys ∧ Below w.heap.size w wr) (fun i _ => n - (intOf i).toNat)
  case atStart => exact ⟨0, _, rfl, Nat.zero_le _, HML, Lib.hid (by simp), hown1, hb1⟩
  case round =>
    clear hown1 hg1 HML
    obtain ⟨k, ys, rfl, hk, HY, HT, hown, hbel⟩ := hrel
    by_cases hlt : k < n
    · have hrr : Reads wr B 2 A n (FL xs) := hr1.out.keep fun p hp => by rw [hbel.cell (by omega), hb1.cell (by omega)]
      obtain ⟨b, off, x, rfl, hbB, hu, c0, c1⟩ := ent_at hrr hlt
      have HT2 := Lib.hid (set2_take (by rw [HY.out, HL.out]) hu HT.out)
      have hy2 : ((ys.set (k * 2) (.int .i64 x.f)).set (k * 2 + 1) (.bool x.wr)).length = n * 2 := by simp only [List.length_set]; exact HY.out
      have HY2 := Lib.hid hy2
      have HO := Lib.hid hown
      have HB := Lib.hid hbel
      clear hrr hown hbel hu HT hy2
      obtain ⟨f, wr_⟩ := x
      go_wp2_with fail
      refine (toEntry_c f wr_ _).mono ?_
      rintro e w2 ⟨rfl, hb⟩
      have HO2 := Lib.hid (own_below HO.out hb)
      have HB2 := Lib.hid (below_then HB.out hb)
      clear hb HO HB c0 c1
      have f0 := HO2.out.frozenAt (k * 2)
      have f1 := HO2.out.frozenAt (k * 2 + 1)
      obtain ⟨y0, d0⟩ : ∃ z, w2.cell? ⟨w.heap.size, k * 2, none⟩ = some z := ⟨_, (HO2.out.cellAt (k * 2) (by omega)).trans (List.getElem?_eq_getElem (by rw [HY.out]; omega))⟩
      obtain ⟨y1, d1⟩ : ∃ z, w2.cell? ⟨w.heap.size, k * 2 + 1, none⟩ = some z := ⟨_, (HO2.out.cellAt (k * 2 + 1) (by omega)).trans (List.getElem?_eq_getElem (by rw [HY.out]; omega))⟩
      have HS := Lib.hid ((HO2.out.stored (k * 2) (.int .i64 f)).1.stored (k * 2 + 1) (.bool wr_)).1
      have HW := Lib.hid (below_set (below_set HB2.out (Nat.le_refl _) (j := k * 2) (.int .i64 f)) (Nat.le_refl _) (j := k * 2 + 1) (.bool wr_))
      clear HO2 HB2 HY
      go_wp2_with fail
      go_roundw
      case rel => exact ⟨k + 1, _, by go_num, by omega, HY2, HT2, HS.out, HW.out⟩
      case measure => simp [intOf]; omega
    · have hkn : k = n := by omega
      subst hkn
      have hy : ys = FL xs := by
        have h := HT.out
        rw [List.take_of_length_le (by rw [HY.out]; omega), List.take_of_length_le (by rw [FL_len, HL.out]; exact Nat.le_refl _)] at h
        exact h
      rw [hy] at hown
      clear hy HT HY
      go_wp2
      go_ret
      exact ⟨_, rfl, hown, hbel⟩
set_option maxRecDepth 100000 in
set_option maxHeartbeats 2000000 in
theorem eqEntryS_step (A A' : Option Addr) (n c c' : Nat) (xs : List Ent) (w : World) (hn : n ≤ 1048576) (hx : Reads w w.heap.size 2 A n (FL xs)) (hy : Reads w w.heap.size 2 A' n (FL xs)) :
    Calls Try.prog 103 #[.slice A n c, .slice A' n c'] w fun e w' => e = .returned (.bool true) ∧ Below w.heap.size w w' := by
  go_enter Try.func103, Try.ntmps103
  go_wp2
  go_loopw [5] (fun i wr => ∃ (k : Nat), i = .int .i64 k ∧ k ≤ n ∧ Below w.heap.size w wr) (fun i _ => n - (intOf i).toNat)
  case atStart => exact ⟨0, rfl, Nat.zero_le _, Below.refl _ _⟩
  case round =>
    obtain ⟨k, rfl, hk, hbel⟩ := hrel
    by_cases hlt : k < n
    · have hlt2 : w.heap.size ≤ wr.heap.size := hbel.size
      obtain ⟨b1, o1, x, rfl, _, hx1, c0, c1⟩ := ent_at (hx.below hbel) hlt
      obtain ⟨b2, o2, y, rfl, _, hy1, d0, d1⟩ := ent_at (hy.below hbel) hlt
      obtain rfl : y = x := by rw [hx1] at hy1; exact (Option.some.inj hy1).symm
      obtain ⟨f, wr_⟩ := y
      have k0 := cell_regrown c0
      have k1 := cell_regrown c1
      have l0 := cell_regrown d0
      have l1 := cell_regrown d1
      have cQ : ∀ d os, Calls Try.prog 112 #[.agg #[.int .i64 f, .bool wr_], .agg #[.int .i64 f, .bool wr_]] (Sort.grow (redrawn wr d) os) fun e w'' => e = .returned (.bool true) ∧ ∃ p : Regrown, w'' = Sort.grow (redrawn wr p.d) p.os := fun d os => Calls.regrown_of (eqEntry_c f wr_ (Sort.grow (redrawn wr d) os))
      clear hx1 hy1 c0 c1 d0 d1
      go_wp2
      refine wp_region_quiet_below (by kernel_rfl) (by kernel_rfl) ?_
      repeat (quiet_step (exact cQ _ _))
      refine wpQuiet_nil ?_
      intro _ hw'
      obtain ⟨⟨dq, osq⟩, hw''⟩ := hw'
      subst hw''
      have hb2 : Below w.heap.size w (Sort.grow (redrawn wr dq) osq) := hbel.trans ((below_regrown wr dq osq).mono hlt2)
      clear k0 k1 l0 l1 cQ
      go_wp2
      go_roundw
      case rel => exact ⟨k + 1, by go_num, by omega, hb2⟩
      case measure => simp [intOf]; omega
    · have hqn : k = n := by omega
      subst hqn
      go_wp2
      go_ret
      exact ⟨rfl, hbel⟩
theorem szEntryS_yes (A : Option Addr) (n c : Nat) (L : Int) (h : n ≤ L) (w : World) (hL : L ≤ 1048576) :
    Calls Try.prog 96 #[.slice A n c, .int .i64 L] w fun e w' => e = .returned (.int .i64 (L - n)) ∧ w = w' := by
  go_enter Try.func96, Try.ntmps96
  go_wp2
  go_ret
  exact ⟨rfl, rfl⟩
theorem szEntryS_no (A : Option Addr) (n c : Nat) (L : Int) (h : L < n) (h0 : 0 ≤ L) (w : World) (hL : L ≤ 1048576) (hn : n ≤ 9223372036854775807) :
    Calls Try.prog 96 #[.slice A n c, .int .i64 L] w fun e w' => e = .returned (.int .i64 (-1)) ∧ w = w' := by
  go_enter Try.func96, Try.ntmps96
  go_wp2
  go_ret
  exact ⟨rfl, rfl⟩
end Go.Proofs.Ytaamjnpknmimmab.L4
