/- What the laws do with tables: copies, sizes, comparisons. -/
import Derived.Test.YtaamjnpknmimmabEnt
import Derived.Test.YtaamjnpknmimmabOwnT
import Derived.Test.YtaamjnpknmimmabSzI
namespace Go.Proofs.Ytaamjnpknmimmab.L4
open Go Go.RowKit Go.Proofs.Ytaamjnpknmimmab.Mem Go.Proofs.Ytaamjnpknmimmab.Own
theorem leafInfo : (Try.prog.info? 74).map (fun i => (i.zero, i.size, i.bytes)) = some (some (.slice none 0 0), 1, 24) := by kernel_rfl
set_option maxRecDepth 100000 in
set_option maxHeartbeats 2000000 in
theorem toEntrySS_any (D : Option Addr) (m d B : Nat) (xss : List (List Ent)) (w : World) (hr : ReadsL w B D m xss) (hB : B ≤ w.heap.size) (hm : m ≤ 1048576) (hl : ∀ xs ∈ xss, xs.length ≤ 1048576) :
    Calls Try.prog 54 #[.slice D m d] w fun e w' => ∃ g, e = .returned (.slice (some ⟨g, 0, none⟩) m m) ∧ OwnL w' w.heap.size w'.heap.size (.slice (some ⟨g, 0, none⟩) m m) m xss ∧ Below w.heap.size w w' := by
  obtain ⟨i0, hi, hz0, hz1, hz2⟩ := info_parts leafInfo
  have HL : Hid (xss.length = m) := Lib.hid hr.len
  go_enter Try.func54, Try.ntmps54
  go_wp2_with (at_make; refine wpList_make_full _ rfl _ _ 27 rfl w.heap.size 74 i0 (.slice none 0 0) 1 Try.underlying27 hi hz0 hz1 .i64 .i64 _ _ m rfl rfl rfl rfl (by rw [hz2]; omega) (by unfold maxLen; omega) (Nat.le_refl _) ?_; intro w1 hown1 hg1)
  have hb1 : Below w.heap.size w w1 := (Below.refl _ _).grown hg1 (Nat.le_refl _) (by simp)
  have hr1 := Lib.hid (hr.keep (w' := w1) fun p hp => hb1.cell (by omega))
  obtain ⟨z0, hzz⟩ : ∃ z0, (madeCells (Value.slice none 0 0).cells (m * 1)).toList = z0 := ⟨_, rfl⟩
  have HML : Hid (z0.length = m) := Lib.hid (by rw [← hzz]; simp [madeCells])
  rw [hzz] at hown1
  clear hr hzz
  go_loopw [4] (fun i wr => ∃ (k : Nat) (ys : List Value), i = .int .i64 k ∧ k ≤ m ∧ Hid (ys.length = m) ∧ Hid (Inn wr w.heap.size wr.heap.size (ys.take k) (xss.take k)) ∧ wr.ownsRow w.heap.size 74 1 (.slice (some ⟨w.heap.size, 0, none⟩) m m) m ys ∧ Below w.heap.size w wr) (fun i _ => m - (intOf i).toNat)
  case atStart => exact ⟨0, _, rfl, Nat.zero_le _, HML, Lib.hid (by simpa using Inn.nil), hown1, hb1⟩
  case round =>
    clear hown1 hg1 HML
    obtain ⟨k, ys, rfl, hk, HY, HT, hown, hbel⟩ := hrel
    by_cases hlt : k < m
    · have hrr : ReadsL wr B D m xss := hr1.out.keep fun p hp => by rw [hbel.cell (by omega), hb1.cell (by omega)]
      obtain ⟨b, off, A, n, c, xs, rfl, hbB, hu, hc, hx, hn, hnc, hcm⟩ := hrr.at_ hlt
      have hln : xs.length ≤ 1048576 := hl xs (List.mem_of_getElem? hu)
      have HX := Lib.hid hx
      have HU := Lib.hid hu
      have HO := Lib.hid hown
      have HB := Lib.hid hbel
      clear hrr hown hbel hu hx
      subst hn
      go_wp2_with fail
      refine (toEntryS_any A xs.length c B xs _ HX.out (by have := HB.out.size; omega) hln).mono ?_
      rintro e w2 ⟨g, rfl, hv, hb⟩
      have hI := HT.out.snoc (Nat.le_refl _) hb hv HB.out.size
      have HO2 := Lib.hid (own_below HO.out hb)
      have HB2 := Lib.hid (below_then HB.out hb)
      clear hb HO HB hc HX HT hv
      have f0 := HO2.out.frozenAt k
      obtain ⟨y0, d0⟩ : ∃ z, w2.cell? ⟨w.heap.size, k, none⟩ = some z := ⟨_, (HO2.out.cellAt k (by omega)).trans (List.getElem?_eq_getElem (by rw [HY.out]; omega))⟩
      have hst := HO2.out.stored k (.slice (some ⟨g, 0, none⟩) xs.length xs.length)
      have hI2 := hI.away HO2.out (by decide) hst.2
      have HI2 : Hid (Inn (w2.setCell ⟨w.heap.size, k, none⟩ (.slice (some ⟨g, 0, none⟩) xs.length xs.length)) w.heap.size (w2.setCell ⟨w.heap.size, k, none⟩ (.slice (some ⟨g, 0, none⟩) xs.length xs.length)).heap.size ((ys.set k (.slice (some ⟨g, 0, none⟩) xs.length xs.length)).take (k + 1)) (xss.take (k + 1))) := Lib.hid (by
        have e1 : (ys.set k (.slice (some ⟨g, 0, none⟩) xs.length xs.length)).take (k + 1) = ys.take k ++ [.slice (some ⟨g, 0, none⟩) xs.length xs.length] := by
          rw [List.take_add_one, List.take_set_of_le (Nat.le_refl _)]
          simp [HY.out, hlt]
        have e2 : xss.take (k + 1) = xss.take k ++ [xs] := by rw [List.take_add_one, HU.out]; rfl
        rw [e1, e2]
        exact hI2.mono (Nat.le_refl _) (by simp))
      have HS := Lib.hid hst.1
      have HW := Lib.hid (below_set HB2.out (Nat.le_refl _) (j := k) (.slice (some ⟨g, 0, none⟩) xs.length xs.length))
      have HY2 : Hid ((ys.set k (.slice (some ⟨g, 0, none⟩) xs.length xs.length)).length = m) := Lib.hid (by rw [List.length_set]; exact HY.out)
      clear HO2 HB2 HY hI hI2 hst HU
      go_wp2_with fail
      go_roundw
      case rel => exact ⟨k + 1, _, by go_num, by omega, HY2, HI2, HS.out, HW.out⟩
      case measure => simp [intOf]; omega
    · have hkn : k = m := by omega
      subst hkn
      have hI : Inn wr w.heap.size wr.heap.size ys xss := by
        have h := HT.out
        rwa [List.take_of_length_le (by rw [HY.out]; omega), List.take_of_length_le (by rw [HL.out]; omega)] at h
      have HO : Hid (OwnL wr w.heap.size wr.heap.size (.slice (some ⟨w.heap.size, 0, none⟩) k k) k xss) := Lib.hid ⟨ys, Row.of hown, hI⟩
      clear hI HT HY hown
      go_wp2
      go_ret
      exact ⟨_, rfl, HO.out, hbel⟩
set_option maxRecDepth 100000 in
set_option maxHeartbeats 2000000 in
theorem eqEntrySS_step (D D' : Option Addr) (m d d' : Nat) (xss : List (List Ent)) (w : World) (hm : m ≤ 1048576) (hl : ∀ xs ∈ xss, xs.length ≤ 1048576) (hx : ReadsL w w.heap.size D m xss) (hy : ReadsL w w.heap.size D' m xss) :
    Calls Try.prog 61 #[.slice D m d, .slice D' m d'] w fun e w' => e = .returned (.bool true) ∧ Below w.heap.size w w' := by
  go_enter Try.func61, Try.ntmps61
  go_wp2
  go_loopw [5] (fun i wr => ∃ (k : Nat), i = .int .i64 k ∧ k ≤ m ∧ Below w.heap.size w wr) (fun i _ => m - (intOf i).toNat)
  case atStart => exact ⟨0, rfl, Nat.zero_le _, Below.refl _ _⟩
  case round =>
    obtain ⟨k, rfl, hk, hbel⟩ := hrel
    by_cases hlt : k < m
    · have hlt2 : w.heap.size ≤ wr.heap.size := hbel.size
      obtain ⟨b1, o1, A1, n1, c1, xs, rfl, _, hu1, h1, hx1, rfl, _⟩ := (hx.below hbel).at_ hlt
      obtain ⟨b2, o2, A2, n2, c2, ys, rfl, _, hu2, h2, hx2, rfl, _⟩ := (hy.below hbel).at_ hlt
      obtain rfl : ys = xs := by rw [hu1] at hu2; exact (Option.some.inj hu2).symm
      have hln : ys.length ≤ 1048576 := hl ys (List.mem_of_getElem? hu1)
      have k0 := cell_regrown h1
      have l0 := cell_regrown h2
      have cQ : ∀ d os, Calls Try.prog 103 #[.slice A1 ys.length c1, .slice A2 ys.length c2] (Sort.grow (redrawn wr d) os) fun e w'' => e = .returned (.bool true) ∧ ∃ p : Regrown, w'' = Sort.grow (redrawn wr p.d) p.os := fun d os => Calls.regrown_of (eqEntryS_step A1 A2 ys.length c1 c2 ys (Sort.grow (redrawn wr d) os) hln (((hx1.more hlt2).below (below_regrown wr d os)).more (below_regrown wr d os).size) (((hx2.more hlt2).below (below_regrown wr d os)).more (below_regrown wr d os).size))
      clear hu1 hu2 h1 h2 hx1 hx2
      go_wp2
      refine wp_region_quiet_below (by kernel_rfl) (by kernel_rfl) ?_
      repeat (quiet_step (exact cQ _ _))
      refine wpQuiet_nil ?_
      intro _ hw'
      obtain ⟨⟨dq, osq⟩, hw''⟩ := hw'
      subst hw''
      have hb2 : Below w.heap.size w (Sort.grow (redrawn wr dq) osq) := hbel.trans ((below_regrown wr dq osq).mono hlt2)
      clear k0 l0 cQ
      go_wp2
      go_roundw
      case rel => exact ⟨k + 1, by go_num, by omega, hb2⟩
      case measure => simp [intOf]; omega
    · have hqn : k = m := by omega
      subst hqn
      go_wp2
      go_ret
      exact ⟨rfl, hbel⟩
/-- how many entries the leaves hold -/
def tot (xss : List (List Ent)) : Nat := (xss.map List.length).sum
theorem tot_take {xss : List (List Ent)} {k : Nat} {xs : List Ent} (h : xss[k]? = some xs) : tot (xss.take (k + 1)) = tot (xss.take k) + xs.length := by
  rw [List.take_add_one, h]
  simp [tot]
theorem tot_le (xss : List (List Ent)) (k : Nat) : tot (xss.take k) ≤ tot xss := by
  have h : tot xss = tot (xss.take k) + tot (xss.drop k) := by
    unfold tot
    rw [← List.sum_append, ← List.map_append, List.take_append_drop]
  omega
theorem len_le_tot {xss : List (List Ent)} {xs : List Ent} (h : xs ∈ xss) : xs.length ≤ tot xss := by
  obtain ⟨k, hk, rfl⟩ := List.getElem_of_mem h
  have := tot_take (List.getElem?_eq_getElem hk)
  have := tot_le xss (k + 1)
  omega
set_option maxHeartbeats 1000000 in
theorem szEntrySS_yes (D : Option Addr) (m d B : Nat) (xss : List (List Ent)) (L : Int) (w : World) (hr : ReadsL w B D m xss) (h : ((m + tot xss : Nat) : Int) ≤ L) (hL : L ≤ 1048576) :
    Calls Try.prog 49 #[.slice D m d, .int .i64 L] w fun e w' => e = .returned (.int .i64 (L - (m + tot xss : Nat))) ∧ w = w' := by
  have HL : Hid (xss.length = m) := Lib.hid hr.len
  push_cast at h
  go_enter Try.func49, Try.ntmps49
  go_wp2
  go_loopw [1, 5] (fun l i wr => ∃ (k : Nat), i = .int .i64 k ∧ l = .int .i64 (L - m - tot (xss.take k)) ∧ k ≤ m ∧ wr = w) (fun _ i _ => m - (intOf i).toNat)
  case atStart => exact ⟨0, rfl, by simp [tot], Nat.zero_le _, rfl⟩
  case round =>
    obtain ⟨k, rfl, rfl, hk, rfl⟩ := hrel
    have hle := tot_le xss k
    by_cases hlt : k < m
    · obtain ⟨b, off, A, n, c, xs, rfl, hbB, hu, hc, hx, rfl, hnc, hcm⟩ := hr.at_ hlt
      have ht := tot_take hu
      have hle2 := tot_le xss (k + 1)
      have HT := Lib.hid ht
      have h5 : (xs.length : Int) ≤ L - m - tot (xss.take k) := by omega
      have h6 : L - m - tot (xss.take k) ≤ 1048576 := by omega
      clear hx hu ht
      go_wp2_with fail
      refine (szEntryS_yes A xs.length c _ h5 _ h6).mono ?_
      rintro e w1 ⟨rfl, hw⟩
      subst hw
      have h7 : 0 ≤ L - m - tot (xss.take k) - (xs.length : Int) := by omega
      go_wp2_with fail
      go_roundw
      case rel => exact ⟨k + 1, by go_num, by rw [HT.out]; push_cast; rw [Int.sub_sub], by omega, trivial⟩
      case measure => simp [intOf]; omega
    · have hkm : k = m := by omega
      subst hkm
      have HE : Hid (xss.take k = xss) := Lib.hid (List.take_of_length_le (by rw [HL.out]; exact Nat.le_refl _))
      go_wp2
      go_ret
      refine ⟨?_, rfl⟩
      rw [HE.out]
      push_cast
      rw [Int.sub_sub]
      rfl
set_option maxHeartbeats 1000000 in
theorem szEntrySS_no (D : Option Addr) (m d B : Nat) (xss : List (List Ent)) (L : Int) (w : World) (hr : ReadsL w B D m xss) (h : L < ((m + tot xss : Nat) : Int)) (h0 : 0 ≤ L) (hL : L ≤ 1048576) (hm : m ≤ maxLen) :
    Calls Try.prog 49 #[.slice D m d, .int .i64 L] w fun e w' => e = .returned (.int .i64 (-1)) ∧ w = w' := by
  have HL : Hid (xss.length = m) := Lib.hid hr.len
  unfold maxLen at hm
  push_cast at h
  by_cases hmL : (m : Int) ≤ L
  · go_enter Try.func49, Try.ntmps49
    go_wp2
    go_loopw [1, 5] (fun l i wr => ∃ (k : Nat), i = .int .i64 k ∧ l = .int .i64 (L - m - tot (xss.take k)) ∧ 0 ≤ L - m - tot (xss.take k) ∧ k ≤ m ∧ wr = w) (fun _ i _ => m - (intOf i).toNat)
    case atStart => exact ⟨0, rfl, by simp [tot], by simp [tot]; omega, Nat.zero_le _, rfl⟩
    case round =>
      obtain ⟨k, rfl, rfl, hp, hk, rfl⟩ := hrel
      have hlt : k < m := by
        rcases Nat.lt_or_ge k m with h1 | h1
        · exact h1
        · rw [List.take_of_length_le (by rw [HL.out]; exact h1)] at hp
          omega
      obtain ⟨b, off, A, n, c, xs, rfl, hbB, hu, hc, hx, rfl, hnc, hcm⟩ := hr.at_ hlt
      unfold maxLen at hcm
      have HT := Lib.hid (tot_take hu)
      have h6 : L - m - tot (xss.take k) ≤ 1048576 := by omega
      clear hx hu
      by_cases h5 : (xs.length : Int) ≤ L - m - tot (xss.take k)
      · go_wp2_with fail
        refine (szEntryS_yes A xs.length c _ h5 _ h6).mono ?_
        rintro e w1 ⟨rfl, hw⟩
        subst hw
        have h7 : 0 ≤ L - m - tot (xss.take k) - (xs.length : Int) := by omega
        go_wp2_with fail
        go_roundw
        case rel => exact ⟨k + 1, by go_num, by rw [HT.out]; push_cast; rw [Int.sub_sub], by rw [HT.out]; push_cast; omega, by omega, trivial⟩
        case measure => simp [intOf]; omega
      · go_wp2_with fail
        refine (szEntryS_no A xs.length c _ (by omega) hp _ h6 (by omega)).mono ?_
        rintro e w1 ⟨rfl, hw⟩
        subst hw
        go_wp2_with fail
        go_ret
        exact ⟨rfl, rfl⟩
  · go_enter Try.func49, Try.ntmps49
    go_wp2
    go_ret
    exact ⟨rfl, rfl⟩
set_option maxHeartbeats 1000000 in
theorem szTable_yes (A : Option Addr) (n c : Nat) (D : Option Addr) (m d : Nat) (t : Tab) (L : Int) (w : World) (hr : ReadsT w w.heap.size A n D m t) (h : ((n + (m + tot t.leaves) : Nat) : Int) ≤ L) (hL : L ≤ 1048576) :
    Calls Try.prog 8 #[.agg #[.slice A n c, .slice D m d], .int .i64 L] w fun e w' => e = .returned (.int .i64 (L - (n + (m + tot t.leaves) : Nat))) ∧ Below w.heap.size w w' := by
  have hb0 := below_more (Below.refl w.heap.size w) (.cells #[.slice A n c, .slice D m d] 25)
  have HR := Lib.hid (hr.leaves.grow hb0)
  have HB := Lib.hid hb0
  push_cast at h
  have h0 : 0 ≤ L - n := by omega
  have h1 : 0 ≤ L - n - ((m + tot t.leaves : Nat) : Int) := by push_cast; omega
  clear hr hb0
  go_enter Try.func8, Try.ntmps8
  go_wp2_with fail
  refine (szIntS_yes A n c L (by omega) _ hL).mono ?_
  rintro e w1 ⟨rfl, hw⟩
  subst hw
  go_wp2_with fail
  refine (szEntrySS_yes D m d _ t.leaves (L - n) _ HR.out (by push_cast; omega) (by omega)).mono ?_
  rintro e w1 ⟨rfl, hw⟩
  subst hw
  go_wp2_with fail
  go_ret
  exact ⟨by push_cast; rw [Int.sub_sub]; rfl, HB.out⟩
set_option maxHeartbeats 1000000 in
theorem szTable_no (A : Option Addr) (n c : Nat) (D : Option Addr) (m d : Nat) (t : Tab) (L : Int) (w : World) (hr : ReadsT w w.heap.size A n D m t) (h : L < ((n + (m + tot t.leaves) : Nat) : Int)) (h0 : 0 ≤ L) (hL : L ≤ 1048576) (hn : n ≤ maxLen) (hm : m ≤ maxLen) :
    Calls Try.prog 8 #[.agg #[.slice A n c, .slice D m d], .int .i64 L] w fun e w' => e = .returned (.int .i64 (-1)) ∧ Below w.heap.size w w' := by
  have hb0 := below_more (Below.refl w.heap.size w) (.cells #[.slice A n c, .slice D m d] 25)
  have HR := Lib.hid (hr.leaves.grow hb0)
  have HB := Lib.hid hb0
  unfold maxLen at hn
  push_cast at h
  clear hr hb0
  by_cases h1 : (n : Int) ≤ L
  · have h2 : 0 ≤ L - n := by omega
    go_enter Try.func8, Try.ntmps8
    go_wp2_with fail
    refine (szIntS_yes A n c L (by omega) _ hL).mono ?_
    rintro e w1 ⟨rfl, hw⟩
    subst hw
    go_wp2_with fail
    refine (szEntrySS_no D m d _ t.leaves (L - n) _ HR.out (by push_cast; omega) (by omega) (by omega) hm).mono ?_
    rintro e w1 ⟨rfl, hw⟩
    subst hw
    go_wp2_with fail
    go_ret
    exact ⟨rfl, HB.out⟩
  · go_enter Try.func8, Try.ntmps8
    go_wp2_with fail
    refine (szIntS_no A n c L (by omega) h0 _ hL (by omega)).mono ?_
    rintro e w1 ⟨rfl, hw⟩
    subst hw
    go_wp2_with fail
    go_ret
    exact ⟨rfl, HB.out⟩
set_option maxRecDepth 100000 in
set_option maxHeartbeats 2000000 in
theorem eqTable_step (A A' : Option Addr) (n c c' : Nat) (D D' : Option Addr) (m d d' : Nat) (t : Tab) (w : World) (hn : n ≤ 1048576) (hm : m ≤ 1048576) (hl : ∀ xs ∈ t.leaves, xs.length ≤ 1048576) (hx : ReadsT w w.heap.size A n D m t) (hy : ReadsT w w.heap.size A' n D' m t) :
    Calls Try.prog 12 #[.agg #[.slice A n c, .slice D m d], .agg #[.slice A' n c', .slice D' m d']] w fun e w' => e = .returned (.bool true) ∧ Below w.heap.size w w' := by
  obtain ⟨wb, hwb⟩ : ∃ wb, (w.alloc (.cells #[.slice A n c, .slice D m d] 29)).alloc (.cells #[.slice A' n c', .slice D' m d'] 29) = wb := ⟨_, rfl⟩
  have hb0 : Below w.heap.size w wb := by rw [← hwb]; exact below_more (below_more (Below.refl _ _) _) _
  have hx1 := Lib.hid (hx.grow hb0)
  have hy1 := Lib.hid (hy.grow hb0)
  have hB0 : Hid (Blk wb w.heap.size 29 #[.slice A n c, .slice D m d]) := Lib.hid (by rw [← hwb]; exact Blk.alloc (Blk.new _ _ _) _)
  have hB1 : Hid (Blk wb (w.heap.size + 1) 29 #[.slice A' n c', .slice D' m d']) := Lib.hid (by
    rw [← hwb]
    have h := Blk.new (w.alloc (.cells #[.slice A n c, .slice D m d] 29)) #[.slice A' n c', .slice D' m d'] 29
    rwa [size1] at h)
  have HB0 := Lib.hid hb0
  have HWB := Lib.hid hwb
  clear hx hy hb0 hwb
  go_enter Try.func12, Try.ntmps12
  go_wp2_with fail
  rw [HWB.out]
  clear HWB
  refine (eq_step A A' n c c' t.dirs _ hn hx1.out.dirs hy1.out.dirs).mono ?_
  rintro e w1 ⟨rfl, hb⟩
  have HB1 := Lib.hid (below_then HB0.out hb)
  have h0 := Blk.kept hb hB0.out
  have h1 := Blk.kept hb hB1.out
  have hx2 := Lib.hid (hx1.out.grow hb)
  have hy2 := Lib.hid (hy1.out.grow hb)
  clear hb hB0 hB1 HB0 hx1 hy1
  have k1 := h0.cell 1 _ rfl
  have l1 := h1.cell 1 _ rfl
  clear h0 h1
  go_wp2_with fail
  refine (eqEntrySS_step D D' m d d' t.leaves _ hm hl hx2.out.leaves hy2.out.leaves).mono ?_
  rintro e w2 ⟨rfl, hb⟩
  have HB2 := Lib.hid (below_then HB1.out hb)
  clear hb HB1
  go_wp2_with fail
  go_ret
  exact ⟨rfl, HB2.out⟩
set_option maxRecDepth 100000 in
set_option maxHeartbeats 2000000 in
theorem toTable_any (A : Option Addr) (n c : Nat) (D : Option Addr) (m d B : Nat) (t : Tab) (w : World) (hr : ReadsT w B A n D m t) (hB : B ≤ w.heap.size) (hn : n ≤ 1048576) (hm : m ≤ 1048576) (hl : ∀ xs ∈ t.leaves, xs.length ≤ 1048576) :
    Calls Try.prog 10 #[.agg #[.slice A n c, .slice D m d]] w fun e w' => ∃ g g', e = .returned (.agg #[.slice (some ⟨g, 0, none⟩) n n, .slice (some ⟨g', 0, none⟩) m m]) ∧
      OwnT w' w.heap.size w'.heap.size (some ⟨g, 0, none⟩) n n (some ⟨g', 0, none⟩) m m t ∧ Below w.heap.size w w' := by
  obtain ⟨wa, hwa⟩ : ∃ wa, ((w.alloc (.cells #[.slice A n c, .slice D m d] 25)).alloc (.cells #[.slice none 0 0, .slice none 0 0] 29)).alloc (.cells #[.slice none 0 0, .slice none 0 0] 29) = wa := ⟨_, rfl⟩
  have hb0 : Below w.heap.size w wa := by rw [← hwa]; exact below_more (below_more (below_more (Below.refl _ _) _) _) _
  have hs0 : wa.heap.size = w.heap.size + 1 + 1 + 1 := by rw [← hwa, size1, size1, size1]
  have HR := Lib.hid ((hr.more hB).grow hb0)
  have HR0 := Lib.hid (hr.more hB)
  have h0 : Blk wa w.heap.size 25 #[.slice A n c, .slice D m d] := by rw [← hwa]; exact Blk.alloc (Blk.alloc (Blk.new _ _ _) _) _
  have h1 : Blk wa (w.heap.size + 1) 29 #[.slice none 0 0, .slice none 0 0] := by
    rw [← hwa]
    have h := Blk.alloc (Blk.new (w.alloc (.cells #[.slice A n c, .slice D m d] 25)) #[.slice none 0 0, .slice none 0 0] 29) (.cells #[.slice none 0 0, .slice none 0 0] 29)
    rwa [size1] at h
  have h2 : Blk wa (w.heap.size + 1 + 1) 29 #[.slice none 0 0, .slice none 0 0] := by
    rw [← hwa]
    have h := Blk.new ((w.alloc (.cells #[.slice A n c, .slice D m d] 25)).alloc (.cells #[.slice none 0 0, .slice none 0 0] 29)) #[.slice none 0 0, .slice none 0 0] 29
    rwa [size1, size1] at h
  have H0 := Lib.hid h0
  have H1 := Lib.hid h1
  have H2 := Lib.hid h2
  have HWA := Lib.hid hwa
  have HB0 := Lib.hid hb0
  have HS0 := Lib.hid hs0
  clear h0 h1 h2 hwa hb0 hr hs0
  go_enter Try.func10, Try.ntmps10
  go_wp2_with fail
  rw [HWA.out]
  clear HWA
  refine (toIntS_any A n c _ t.dirs _ HR.out.dirs (Nat.le_refl _) hn).mono ?_
  rintro e w1 ⟨g, rfl, hown, hb⟩
  have hg := (hown.lt g rfl).1
  have hs1 := HS0.out
  have hd := (Row.of hown).low (g := w.heap.size + 1 + 1) (j := 0) (.slice (some ⟨g, 0, none⟩) n n) (by omega)
  have j0 := Blk.other (Blk.kept hb H0.out) (.slice (some ⟨g, 0, none⟩) n n) (g' := w.heap.size + 1 + 1) (j := 0) (by omega)
  have j1 := Blk.other (Blk.kept hb H1.out) (.slice (some ⟨g, 0, none⟩) n n) (g' := w.heap.size + 1 + 1) (j := 0) (by omega)
  have j2 := Blk.set (Blk.kept hb H2.out) 0 (.slice (some ⟨g, 0, none⟩) n n)
  have i0 := (Blk.kept hb H2.out).cell 0 _ rfl
  have i1 := (Blk.kept hb H2.out).free 0
  have i2 := (Blk.kept hb H0.out).cell 1 _ rfl
  have hb1 := below_set (below_then HB0.out hb) (g := w.heap.size + 1 + 1) (j := 0) (by omega) (.slice (some ⟨g, 0, none⟩) n n)
  have hz := hb.size
  have hsz : (w1.setCell ⟨w.heap.size + 1 + 1, 0, none⟩ (.slice (some ⟨g, 0, none⟩) n n)).heap.size = w1.heap.size := by simp
  obtain ⟨wb, hwb⟩ : ∃ wb, w1.setCell ⟨w.heap.size + 1 + 1, 0, none⟩ (.slice (some ⟨g, 0, none⟩) n n) = wb := ⟨_, rfl⟩
  rw [hwb] at hd j0 j1 j2 hb1 hsz
  have i3 := j0.cell 1 _ rfl
  have HD := Lib.hid hd
  have J1 := Lib.hid j1
  have J2 := Lib.hid j2
  have HB1 := Lib.hid hb1
  have HWB := Lib.hid hwb
  have HRL := Lib.hid (HR0.out.grow hb1).leaves
  have HSZ := Lib.hid hsz
  clear hd j0 j1 j2 hb1 hwb hb hown HR H0 H1 H2 HB0 hsz
  go_wp2_with fail
  try rw [HWB.out]
  clear HWB i0 i1 i2 i3
  refine (toEntrySS_any D m d _ t.leaves _ HRL.out (Nat.le_refl _) hm hl).mono ?_
  rintro e w2 ⟨g', rfl, hL, hb⟩
  have hs2 := HSZ.out
  have p1 := Blk.kept hb J1.out
  have p2 := Blk.kept hb J2.out
  have hsb := hb.size
  have hD := ((((HD.out.below hb).low (g := w.heap.size + 1 + 1) (j := 1) (.slice (some ⟨g', 0, none⟩) m m) (by omega)).low (g := w.heap.size + 1) (j := 0) (.slice (some ⟨g, 0, none⟩) n n) (by omega)).low (g := w.heap.size + 1) (j := 1) (.slice (some ⟨g', 0, none⟩) m m) (by omega))
  have hLL := (((hL.low (g := w.heap.size + 1 + 1) (j := 1) (.slice (some ⟨g', 0, none⟩) m m) (by omega)).low (g := w.heap.size + 1) (j := 0) (.slice (some ⟨g, 0, none⟩) n n) (by omega)).low (g := w.heap.size + 1) (j := 1) (.slice (some ⟨g', 0, none⟩) m m) (by omega))
  have hZ := Blk.set (Blk.set (Blk.other p1 (.slice (some ⟨g', 0, none⟩) m m) (g' := w.heap.size + 1 + 1) (j := 1) (by omega)) 0 (.slice (some ⟨g, 0, none⟩) n n)) 1 (.slice (some ⟨g', 0, none⟩) m m)
  have hX := below_set (below_set (below_set (below_then HB1.out hb) (g := w.heap.size + 1 + 1) (j := 1) (by omega) (.slice (some ⟨g', 0, none⟩) m m)) (g := w.heap.size + 1) (j := 0) (by omega) (.slice (some ⟨g, 0, none⟩) n n)) (g := w.heap.size + 1) (j := 1) (by omega) (.slice (some ⟨g', 0, none⟩) m m)
  have k0 := p2.cell 0 _ rfl
  have k1 := p2.cell 1 _ rfl
  have k2 := p2.free 0
  have k3 := p2.free 1
  have l0 := p1.cell 0 _ rfl
  have l1 := p1.cell 1 _ rfl
  have l2 := p1.free 0
  have l3 := p1.free 1
  have hq : (((w2.setCell ⟨w.heap.size + 1 + 1, 1, none⟩ (.slice (some ⟨g', 0, none⟩) m m)).setCell ⟨w.heap.size + 1, 0, none⟩ (.slice (some ⟨g, 0, none⟩) n n)).setCell ⟨w.heap.size + 1, 1, none⟩ (.slice (some ⟨g', 0, none⟩) m m)).heap.size = w2.heap.size := by simp
  have HQ := Lib.hid hq
  have HDD := Lib.hid hD
  have HLL := Lib.hid hLL
  have HZ := Lib.hid hZ
  have HX := Lib.hid hX
  clear hD hLL hZ hX hq p1 p2 hb hL J1 J2 HD HB1 HRL
  go_wp2_with fail
  clear k0 k1 k2 k3 l0 l1 l2 l3
  revert HQ HDD HLL HZ HX
  generalize (((w2.setCell _ _).setCell _ _).setCell _ _) = wz
  intro HQ HDD HLL HZ HX
  have z0 := HZ.out.cell 0 _ rfl
  have z1 := HZ.out.cell 1 _ rfl
  have hq2 := HQ.out
  exact bodyPost_ret (by simp [results, Try.results10, go_sem, z0, z1]) rfl ⟨g, g', rfl, ⟨HDD.out.mono (by omega) (by omega), HLL.out.mono (by omega) (by omega)⟩, HX.out⟩
end Go.Proofs.Ytaamjnpknmimmab.L4
