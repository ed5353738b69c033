/- What impl.TakeLines answers. -/
import Derived.Test.YtfdbnolifimnhaaLnP
import Derived.Test.YtfdbnolifimnhaaLnI
import Derived.Test.YtfdbnolifimnhaaLnQ
import Derived.Test.YtfdbnolifimnhaaLinJ
import Derived.Test.YtfdbnolifimnhaaIsIq
import Derived.Deep.Cut
namespace Go.Proofs.Ytfdbnolifimnhaa.L7
open Go Go.RowKit Go.Proofs.Ytfdbnolifimnhaa.Mem Go.Proofs.Ytfdbnolifimnhaa.Own Go.Proofs.Ytfdbnolifimnhaa.L6
set_option maxRecDepth 100000 in
set_option maxHeartbeats 4000000 in
theorem implTakeLines_any (A : Option Addr) (n c : Nat) (xs : List Lin) (i : Int) (w : World) (hr : Reads w w.heap.size 4 A n (FL xs)) (hc0 : A = none → n = 0 ∧ c = 0) (hn : n ≤ 1048576) (l : List Lin) (z : Int) (b : Bool) (h : tlAns xs i = (l, z, b)) :
    Calls Try.prog 63 #[.slice A n c, .int .i64 i] w (CntPost w l z b) := by
  have HR := Lib.hid hr
  have HC0 := Lib.hid hc0
  have HL : Hid (xs.length = n) := Lib.hid (reads_len hr)
  have HH := Lib.hid h
  clear hr hc0 h
  by_cases hok : OkL xs
  · have HA := Lib.hid (decide_eq_true hok)
    by_cases hi8 : 0 ≤ i ∧ i < 8
    · have HI := Lib.hid (decide_eq_true hi8)
      obtain ⟨rfl, rfl, rfl⟩ := tlAns_yes HH.out hok hi8
      have HOK := Lib.hid hok
      have hn6 : n ≤ 6 := by rw [← HL.out]; exact hok.1
      clear hok HH hi8
      go_enter Try.func63, Try.ntmps63
      go_wp2_with fail
      refine (implAre_any A n c _ xs _ HR.out (Nat.le_refl _) hn _ HA.out).mono ?_
      rintro e w1 ⟨rfl, hb1⟩
      have HB1 := Lib.hid hb1
      clear hb1
      go_wp2_with fail
      refine (isIrq_any _ _ HI.out _).mono ?_
      rintro e wi ⟨rfl, rfl⟩
      go_wp2_with fail
      refine (lin_clone_any A n c _ xs _ ((HR.out.below HB1.out).more HB1.out.size) HC0.out hn).mono ?_
      rintro e w2 ⟨A0, cc0, rfl, hown2, hb2⟩
      have HB2 := Lib.hid (below_then HB1.out hb2)
      have HO2 := Lib.hid (own_mono hown2 HB1.out.size)
      clear hown2 hb2
      go_wp2_with fail
      go_loopw [8, 26] (fun u8 u wr => ∃ (k m : Nat), u = .int .i64 k ∧ k ≤ n ∧ u8 = .int .i64 m ∧ Hid (tlN (xs.take k) i = m) ∧ Hid (wr.ownsRow w.heap.size 58 4 (.slice A0 n cc0) n (FL (tlK xs i k))) ∧ Hid (Below w.heap.size w wr)) (fun _ u _ => n - (intOf u).toNat)
      case atStart => exact ⟨0, 0, rfl, Nat.zero_le _, rfl, Lib.hid (by simp [tlN]), Lib.hid (by rw [tlK_zero]; exact HO2.out), HB2⟩
      case round =>
        clear HO2 HB2 HB1
        obtain ⟨k, m, rfl, hk, rfl, HM, HO, HB⟩ := hrel
        by_cases hlt : k < n
        · obtain ⟨g, rfl⟩ := own_head HO.out (by omega)
          obtain ⟨b1, o1, x, rfl, hbB, hu, c0, c1, c2', c3⟩ := lin_at (HR.out.below HB.out) hlt
          have HOX := Lib.hid (HOK.out.2 x (List.mem_of_getElem? hu))
          have HN := Lib.hid (tlK_succ (i := i) hu)
          have HMN := Lib.hid (tlN_succ i hu)
          have HSK := Lib.hid (tlK_skip (i := i) hu)
          have hm6 : m ≤ 6 := by have h1 := tlN_le (xs.take k) i; rw [HM.out, List.length_take, HL.out] at h1; omega
          clear hu
          obtain ⟨x0, x1, x2, x3⟩ := x
          simp only at c0 c1 c2' c3
          obtain ⟨wx, hwx⟩ : ∃ wx, wr.alloc (.cells #[.int .i64 x0, .int .i64 x1, .bool x2, .bool x3] 58) = wx := ⟨_, rfl⟩
          have hbx : Below wr.heap.size wr wx := by rw [← hwx]; exact below_more (Below.refl _ _) _
          have hx : Blk wx wr.heap.size 58 #[.int .i64 x0, .int .i64 x1, .bool x2, .bool x3] := by rw [← hwx]; exact Blk.new _ _ _
          have HX := Lib.hid hx
          have HOW := Lib.hid (own_below HO.out hbx)
          have HBW := Lib.hid (below_then HB.out hbx)
          have HWX := Lib.hid hwx
          clear hx hwx hbx HO HB
          go_upto_region 7 with fail
          rw [HWX.out]
          have d0 := HX.out.cell 0 _ rfl
          have d1 := HX.out.cell 1 _ rfl
          have d2 := HX.out.cell 2 _ rfl
          have d3 := HX.out.cell 3 _ rfl
          clear HWX c0 c1 c2' c3
          by_cases hj : x1 = i
          · have t1 : (x1 != i) = false := by simpa using hj
            obtain ⟨q, hq⟩ : ∃ q, (x3 && decide (x0 = 1)) = q := ⟨_, rfl⟩
            have HT : Hid (tkAns ⟨x0, x1, x2, x3⟩ = (⟨x0, x1, x2, q⟩, x3, true)) := Lib.hid (by unfold tkAns; rw [if_pos HOX.out, ← hq]; rfl)
            have HNQ : Hid (tlK xs i (k + 1) = (tlK xs i k).set k ⟨x0, x1, x2, q⟩) := Lib.hid (by rw [HN.out, if_pos hj, ← hq]; rfl)
            have HMQ : Hid (tlN (xs.take (k + 1)) i = m + (if x3 = true then 1 else 0)) := Lib.hid (by rw [HMN.out, HM.out]; simp [hj])
            clear hj HN HMN HM hq HSK
            go_wp2_with fail
            refine (implTake_any x0 x1 x2 x3 x0 x1 x2 q x3 true _ HT.out).mono ?_
            rintro e w3 ⟨rfl, hb3⟩
            have hb4 := below_then hb3 (below_more (Below.refl w3.heap.size w3) (.cells #[.int .i64 x0, .int .i64 x1, .bool x2, .bool q] 58))
            obtain ⟨wy, hwy⟩ : ∃ wy, w3.alloc (.cells #[.int .i64 x0, .int .i64 x1, .bool x2, .bool q] 58) = wy := ⟨_, rfl⟩
            have hy : Blk wy w3.heap.size 58 #[.int .i64 x0, .int .i64 x1, .bool x2, .bool q] := by rw [← hwy]; exact Blk.new _ _ _
            rw [hwy] at hb4
            have HY := Lib.hid hy
            have HO3 := Lib.hid (own_below HOW.out hb4)
            have HB3 := Lib.hid (below_then HBW.out hb4)
            have HWY := Lib.hid hwy
            have hgw := (HO3.out.lt g rfl).1
            clear hb3 hb4 hy hwy d0 d1 d2 d3 HOW HBW HX
            go_upto_region 9 with fail
            rw [HWY.out]
            clear HWY
            have d0 := HY.out.cell 0 _ rfl
            have d1 := HY.out.cell 1 _ rfl
            have d2 := HY.out.cell 2 _ rfl
            have d3 := HY.out.cell 3 _ rfl
            have hown := HO3.out
            have hfl := hown.1
            have f0 := hown.frozenAt (k * 4)
            have f1 := hown.frozenAt (k * 4 + 1)
            have f2 := hown.frozenAt (k * 4 + 2)
            have f3 := hown.frozenAt (k * 4 + 3)
            obtain ⟨y0, e0⟩ : ∃ z, wy.cell? ⟨g, k * 4, none⟩ = some z := ⟨_, (hown.cellAt (k * 4) (by omega)).trans (List.getElem?_eq_getElem (by omega))⟩
            obtain ⟨y1, e1⟩ : ∃ z, wy.cell? ⟨g, k * 4 + 1, none⟩ = some z := ⟨_, (hown.cellAt (k * 4 + 1) (by omega)).trans (List.getElem?_eq_getElem (by omega))⟩
            obtain ⟨y2, e2⟩ : ∃ z, wy.cell? ⟨g, k * 4 + 2, none⟩ = some z := ⟨_, (hown.cellAt (k * 4 + 2) (by omega)).trans (List.getElem?_eq_getElem (by omega))⟩
            obtain ⟨y3, e3⟩ : ∃ z, wy.cell? ⟨g, k * 4 + 3, none⟩ = some z := ⟨_, (hown.cellAt (k * 4 + 3) (by omega)).trans (List.getElem?_eq_getElem (by omega))⟩
            have HP := Lib.hid (lin_put hown (k := k) (by rw [tlK_len, HL.out]; exact hlt) ⟨x0, x1, x2, q⟩).1
            have HW := Lib.hid (below_set (below_set (below_set (below_set HB3.out hgw (j := k * 4) (.int .i64 x0)) hgw (j := k * 4 + 1) (.int .i64 x1)) hgw (j := k * 4 + 2) (.bool x2)) hgw (j := k * 4 + 3) (.bool q))
            rw [← HNQ.out] at HP
            clear hown hfl HO3 HB3 HNQ
            cases x3 with
            | true =>
              go_wp2_with fail
              go_roundw
              case rel => exact ⟨k + 1, m + 1, by go_num, by omega, by go_num, Lib.hid HMQ.out, HP, HW⟩
              case measure => simp [intOf]; omega
            | false =>
              go_wp2_with fail
              go_roundw
              case rel => exact ⟨k + 1, m, by go_num, by omega, rfl, Lib.hid HMQ.out, HP, HW⟩
              case measure => simp [intOf]; omega
          · have t1 : (x1 != i) = true := by simpa using hj
            have HP : Hid (wx.ownsRow w.heap.size 58 4 (.slice (some ⟨g, 0, none⟩) n cc0) n (FL (tlK xs i (k + 1)))) := Lib.hid (by rw [HSK.out hj]; exact HOW.out)
            have HMQ : Hid (tlN (xs.take (k + 1)) i = m) := Lib.hid (by rw [HMN.out, HM.out, if_neg (fun hh => hj hh.1)]; rfl)
            clear hj HN HMN HM d0 d2 d3 HSK
            go_wp2_with fail
            go_roundw
            case rel => exact ⟨k + 1, m, by go_num, by omega, rfl, HMQ, HP, HBW⟩
            case measure => simp [intOf]; omega
        · have hkn : k = n := by omega
          subst hkn
          have hown := HO.out
          have hm := HM.out
          rw [tlK_all xs i k HL.out] at hown
          rw [List.take_of_length_le (by rw [HL.out]; exact Nat.le_refl _)] at hm
          have HO' := Lib.hid hown
          have HM' := Lib.hid hm
          clear hown hm HO HM
          go_wp2_with fail
          go_ret3
          rw [HM'.out]
          exact cntPost_of (by unfold tlL; rw [List.length_map]; exact HL.out) HO'.out HB.out
    · have HI := Lib.hid (decide_eq_false hi8)
      obtain ⟨rfl, rfl, rfl⟩ := tlAns_no HH.out (fun hh => hi8 hh.2)
      clear hok HH hi8
      go_enter Try.func63, Try.ntmps63
      go_wp2_with fail
      refine (implAre_any A n c _ xs _ HR.out (Nat.le_refl _) hn _ HA.out).mono ?_
      rintro e w1 ⟨rfl, hb1⟩
      have HB1 := Lib.hid hb1
      clear hb1
      go_wp2_with fail
      refine (isIrq_any _ _ HI.out _).mono ?_
      rintro e wi ⟨rfl, rfl⟩
      go_wp2_with fail
      go_ret3
      exact ⟨none, 0, rfl, World.ownsRow_nil _ _ _ _, HB1.out⟩
  · have HA := Lib.hid (decide_eq_false hok)
    obtain ⟨rfl, rfl, rfl⟩ := tlAns_no HH.out (fun hh => hok hh.1)
    clear hok HH
    go_enter Try.func63, Try.ntmps63
    go_wp2_with fail
    refine (implAre_any A n c _ xs _ HR.out (Nat.le_refl _) hn _ HA.out).mono ?_
    rintro e w1 ⟨rfl, hb1⟩
    have HB1 := Lib.hid hb1
    clear hb1
    go_wp2_with fail
    go_ret3
    exact ⟨none, 0, rfl, World.ownsRow_nil _ _ _ _, HB1.out⟩
end Go.Proofs.Ytfdbnolifimnhaa.L7
