/- What spec.DriveLines answers. -/
import Derived.Test.YtfdbnolifimnhaaLnP
import Derived.Test.YtfdbnolifimnhaaLnS
import Derived.Test.YtfdbnolifimnhaaLnQ
import Derived.Test.YtfdbnolifimnhaaLnN
import Derived.Test.YtfdbnolifimnhaaLinT
import Derived.Test.YtfdbnolifimnhaaStepA
import Derived.Deep.Cut
import Derived.Laws.AppendOwnNone
import Derived.Test.YtfdbnolifimnhaaBooD
namespace Go.Proofs.Ytfdbnolifimnhaa.L7
open Go Go.RowKit Go.Proofs.Ytfdbnolifimnhaa.Mem Go.Proofs.Ytfdbnolifimnhaa.Own Go.Proofs.Ytfdbnolifimnhaa.L6
set_option maxRecDepth 100000 in
set_option maxHeartbeats 4000000 in
theorem specDriveLines_any (A : Option Addr) (n c : Nat) (xs : List Lin) (A2 : Option Addr) (m c2 : Nat) (hs : List Bool) (w : World) (hr : Reads w w.heap.size 4 A n (FL xs)) (hc0 : A = none → n = 0 ∧ c = 0) (hn : n ≤ 1048576) (hr2 : Reads w w.heap.size 1 A2 m (FL hs)) (hm : m ≤ 1048576) (l : List Lin) (b : Bool) (h : dlAns xs hs = (l, b)) :
    Calls Try.prog 57 #[.slice A n c, .slice A2 m c2] w (ListPost w l b) := by
  have HR := Lib.hid hr
  have HC0 := Lib.hid hc0
  have HL : Hid (xs.length = n) := Lib.hid (reads_len hr)
  have HH := Lib.hid h
  obtain ⟨i0, hi, hz0, hz1, hz2⟩ := info_parts infoLin
  clear hr hc0 h
  have HR2 := Lib.hid hr2
  have HL2 : Hid (hs.length = m) := Lib.hid (reads_len hr2)
  clear hr2
  obtain ⟨wb, hwb⟩ : ∃ wb, w.alloc (.cells #[] 58) = wb := ⟨_, rfl⟩
  have hb0 : Below w.heap.size w wb := by rw [← hwb]; exact below_more (Below.refl _ _) _
  have ho0 : wb.ownsRow w.heap.size 58 4 (.slice (some ⟨w.heap.size, 0, none⟩) 0 0) 0 [] := by rw [← hwb]; exact World.ownsRow_made w #[] 0 (Nat.le_refl _) (Nat.zero_le _) rfl
  have HB0 := Lib.hid hb0
  have HO0 := Lib.hid ho0
  have HWB := Lib.hid hwb
  clear hb0 ho0 hwb
  by_cases hok : OkL xs
  · have HA := Lib.hid (decide_eq_true hok)
    have HOK := Lib.hid hok
    by_cases hmn : m = n
    · subst hmn
      have hlen : hs.length = xs.length := by rw [HL.out, HL2.out]
      obtain ⟨rfl, rfl⟩ := dlAns_yes HH.out hok hlen
      have HLEN := Lib.hid hlen
      have hnn : ((m : Int) != m) = false := by simp
      have hm6 : m ≤ 6 := by rw [← HL.out]; exact hok.1
      clear hlen hok HH
      go_enter Try.func57, Try.ntmps57
      go_upto_region 2 with fail
      rw [HWB.out]
      clear HWB
      go_wp2_with fail
      refine (l7Good_any A m c _ xs _ ((HR.out.below HB0.out).more HB0.out.size) (Nat.le_refl _) hn _ HA.out).mono ?_
      rintro e w1 ⟨rfl, hb1⟩
      have HB1 := Lib.hid (below_then HB0.out hb1)
      have HO1 := Lib.hid (own_below HO0.out hb1)
      clear hb1 HB0 HO0
      go_wp2_with fail
      clear hnn
      go_loopw [6, 7] (fun u6 u wr => ∃ (k go c' : Nat), u = .int .i64 k ∧ k ≤ m ∧ u6 = .slice (some ⟨go, 0, none⟩) k c' ∧ Hid (wr.ownsRow w.heap.size 58 4 (.slice (some ⟨go, 0, none⟩) k c') k (FL (List.zipWith drv (xs.take k) (hs.take k)))) ∧ Hid (Below w.heap.size w wr)) (fun _ u _ => m - (intOf u).toNat)
      case atStart => exact ⟨0, _, 0, rfl, Nat.zero_le _, rfl, Lib.hid (by exact HO1.out), HB1⟩
      case round =>
        clear HO1 HB1
        obtain ⟨k, go, c', rfl, hk, rfl, HO, HB⟩ := hrel
        by_cases hlt : k < m
        · obtain ⟨b1, o1, x, rfl, _, hu, c0, c1, c2', c3⟩ := lin_at (HR.out.below HB.out) hlt
          obtain ⟨b2, o2, g2, rfl, _, hv, c9⟩ := bool_at (HR2.out.below HB.out) hlt
          have HK := Lib.hid (HOK.out.2 x (List.mem_of_getElem? hu)).1
          have HZ := Lib.hid (zip_snoc hu hv)
          clear hu hv
          obtain ⟨x0, x1, x2, x3⟩ := x
          simp only at c0 c1 c2' c3 HK
          obtain ⟨q, hq⟩ : ∃ q, (if x0 = 1 then g2 else (x3 || (g2 && !x2))) = q := ⟨_, rfl⟩
          have HC := Lib.hid (l7Drive_c x0 x1 x2 x3 g2 q HK.out hq wr.drew)
          have HZQ : Hid (List.zipWith drv (xs.take (k + 1)) (hs.take (k + 1)) = List.zipWith drv (xs.take k) (hs.take k) ++ [⟨x0, x1, g2, q⟩]) := Lib.hid (by rw [HZ.out, ← hq]; rfl)
          clear hq HZ
          have hkz : (k : Int) < m := by omega
          obtain ⟨LL, hLL⟩ : ∃ LL, FL (List.zipWith drv (xs.take k) (hs.take k)) = LL := ⟨_, rfl⟩
          rw [hLL] at HO
          have HLL := Lib.hid hLL
          clear hLL
          go_upto_region 7 with fail
          (first | go_region_law (first
            | (refine step_own rfl (.tmp 26) (.tmp 36) 66 rfl w.heap.size 58 i0 (.agg #[.int .i64 0, .int .i64 0, .bool false, .bool false]) 4 24 Try.underlying66 hi hz0 hz1 hz2 rfl (by decide) (.slice (some ⟨go, 0, none⟩) k c') k LL (by first | (simp [Act.eval]; done) | simp [Act.eval, Act.put]) (HO2.out.alloc (.cells #[.int .i64 x0, .int .i64 x1, .bool g2, .bool q] 58)) (by simp) ⟨w2.heap.size, 0, none⟩ 1 1 [.int .i64 x0, .int .i64 x1, .bool g2, .bool q] (by simp [Act.eval]) rfl (cells_new _ _ _) (one_lin ⟨x0, x1, g2, q⟩) (by unfold maxLen; omega) (by omega) (Nat.le_trans HB2.out.size (alloc_le _ _)) ?_; intro g4 c4 w4 hown4 hgrow4)
            | (go_simp; go_at_call 134; (with_reducible refine HC.out.mono ?_); rintro e w2 ⟨rfl, hb2⟩; replace hb2 := below_then (below_drew1 wr) hb2; have HB2 := Lib.hid (below_then HB.out hb2); have HO2 := Lib.hid (own_below HO.out hb2); clear hb2)
            | fail) | fail)
          all_goals
            have HB4 := Lib.hid ((below_more HB2.out (.cells #[.int .i64 x0, .int .i64 x1, .bool g2, .bool q] 58)).grown hgrow4 (Nat.le_trans HB2.out.size (alloc_le _ _)) (fun q hq => (HO2.out.lt q hq).1))
            have HO4 : Hid (w4.ownsRow w.heap.size 58 4 (.slice (some ⟨g4, 0, none⟩) (k + 1) c4) (k + 1) (FL (List.zipWith drv (xs.take (k + 1)) (hs.take (k + 1))))) := Lib.hid (by rw [HZQ.out, ← snoc_lin, HLL.out]; exact hown4)
            clear hown4 hgrow4 c0 c1 c2' c3 c9 HC HZQ HLL HO2 HB2 HO HB
            go_wp2_with fail
            go_roundw
            case rel => exact ⟨k + 1, g4, c4, by go_num, by omega, rfl, HO4, HB4⟩
            case measure => simp [intOf]; omega
        · have hkn : k = m := by omega
          subst hkn
          have hown := HO.out
          rw [List.take_of_length_le (by rw [HL.out]; exact Nat.le_refl _), List.take_of_length_le (by rw [HL2.out]; exact Nat.le_refl _)] at hown
          have HO' := Lib.hid hown
          have HZ := Lib.hid (zip_len HLEN.out)
          clear hown HO
          go_wp2_with fail
          go_ret2
          exact listPost_of (by rw [HZ.out, HL.out]) HO'.out HB.out
    · obtain ⟨rfl, rfl⟩ := dlAns_no HH.out (fun hh => hmn (by rw [← HL.out, ← HL2.out]; exact hh.2))
      have hnn : ((m : Int) != n) = true := by simp; omega
      clear hok hmn HH
      go_enter Try.func57, Try.ntmps57
      go_upto_region 2 with fail
      rw [HWB.out]
      clear HWB
      go_wp2_with fail
      refine (l7Good_any A n c _ xs _ ((HR.out.below HB0.out).more HB0.out.size) (Nat.le_refl _) hn _ HA.out).mono ?_
      rintro e w1 ⟨rfl, hb1⟩
      have HB1 := Lib.hid (below_then HB0.out hb1)
      have HO1 := Lib.hid (own_below HO0.out hb1)
      clear hb1 HB0 HO0
      go_wp2_with fail
      go_ret2
      exact ⟨_, 0, rfl, HO1.out, HB1.out⟩
  · have HA := Lib.hid (decide_eq_false hok)
    obtain ⟨rfl, rfl⟩ := dlAns_no HH.out (fun hh => hok hh.1)
    clear hok HH
    go_enter Try.func57, Try.ntmps57
    go_upto_region 2 with fail
    rw [HWB.out]
    clear HWB
    go_wp2_with fail
    refine (l7Good_any A n c _ xs _ ((HR.out.below HB0.out).more HB0.out.size) (Nat.le_refl _) hn _ HA.out).mono ?_
    rintro e w1 ⟨rfl, hb1⟩
    have HB1 := Lib.hid (below_then HB0.out hb1)
    have HO1 := Lib.hid (own_below HO0.out hb1)
    clear hb1 HB0 HO0
    go_wp2_with fail
    go_ret2
    exact ⟨_, 0, rfl, HO1.out, HB1.out⟩
end Go.Proofs.Ytfdbnolifimnhaa.L7
