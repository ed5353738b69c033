/- What impl.PulseLine answers. -/
import Derived.Test.YtfdbnolifimnhaaLnP
import Derived.Test.YtfdbnolifimnhaaLnI
import Derived.Test.YtfdbnolifimnhaaLnQ
import Derived.Test.YtfdbnolifimnhaaLinJ
import Derived.Test.YtfdbnolifimnhaaIsB
import Derived.Deep.Cut
namespace Go.Proofs.Ytfdbnolifimnhaa.L7
open Go Go.RowKit Go.Proofs.Ytfdbnolifimnhaa.Mem Go.Proofs.Ytfdbnolifimnhaa.Own Go.Proofs.Ytfdbnolifimnhaa.L6
set_option maxRecDepth 100000 in
set_option maxHeartbeats 4000000 in
theorem implPulse_any (A : Option Addr) (n c : Nat) (xs : List Lin) (i t : Int) (w : World) (hr : Reads w w.heap.size 4 A n (FL xs)) (hc0 : A = none → n = 0 ∧ c = 0) (hn : n ≤ 1048576) (l : List Lin) (z : Int) (b : Bool) (h : plAns xs i t = (l, z, b)) :
    Calls Try.prog 60 #[.slice A n c, .int .i64 i, .int .i64 t] w (CntPost w l z b) := by
  have HR := Lib.hid hr
  have HC0 := Lib.hid hc0
  have HL : Hid (xs.length = n) := Lib.hid (reads_len hr)
  have HH := Lib.hid h
  clear hr hc0 h
  by_cases hok : OkL xs
  · have HA := Lib.hid (decide_eq_true hok)
    by_cases hi8 : 0 ≤ i ∧ i < (n : Int)
    · have HI := Lib.hid (decide_eq_true hi8)
      by_cases ht8 : 0 ≤ t ∧ t < 101
      · have HT := Lib.hid (decide_eq_true ht8)
        obtain ⟨k, rfl⟩ : ∃ k : Nat, i = k := ⟨i.toNat, by omega⟩
        obtain ⟨t, rfl⟩ : ∃ k : Nat, t = k := ⟨t.toNat, by omega⟩
        have hlt : k < n := by omega
        have ht1 : t < 101 := by omega
        obtain ⟨x, hx⟩ : ∃ x, xs[k]? = some x := ⟨_, List.getElem?_eq_getElem (by rw [HL.out]; exact hlt)⟩
        obtain ⟨rfl, rfl, rfl⟩ := plAns_yes HH.out hok hx ht1
        have HX := Lib.hid hx
        clear hok HH hi8 ht8 hx
        go_enter Try.func60, Try.ntmps60
        go_wp2_with fail
        refine (implAre_any A n c _ xs _ HR.out (Nat.le_refl _) hn _ HA.out).mono ?_
        rintro e w1 ⟨rfl, hb1⟩
        have HB1 := Lib.hid hb1
        clear hb1
        go_wp2_with fail
        refine (isBelow_any _ n _ HI.out _).mono ?_
        rintro e wi ⟨rfl, rfl⟩
        go_wp2_with fail
        refine (isBelow_any _ 101 _ HT.out _).mono ?_
        rintro e wi ⟨rfl, rfl⟩
        go_wp2_with fail
        refine (lin_clone_any A n c _ xs _ ((HR.out.below HB1.out).more HB1.out.size) HC0.out hn).mono ?_
        rintro e w2 ⟨A0, cc0, rfl, hown2, hb2⟩
        have HB2 := Lib.hid (below_then HB1.out hb2)
        have HO2 := Lib.hid (own_mono hown2 HB1.out.size)
        clear hown2 hb2
        go_wp2_with fail
        obtain ⟨g, rfl⟩ := own_head HO2.out (by omega)
        go_loopw [10, 31] (fun u10 u wr => ∃ (s m : Nat), u = .int .i64 s ∧ s ≤ t ∧ u10 = .int .i64 m ∧ Hid ((pulN x s).2 = m) ∧ Hid (wr.ownsRow w.heap.size 58 4 (.slice (some ⟨g, 0, none⟩) n cc0) n (FL (xs.set k (pulN x s).1))) ∧ Hid (Below w.heap.size w wr)) (fun _ u _ => t - (intOf u).toNat)
        case atStart => exact ⟨0, 0, rfl, Nat.zero_le _, rfl, Lib.hid rfl, Lib.hid (by rw [show (pulN x 0).1 = x from rfl, set_same HX.out]; exact HO2.out), HB2⟩
        case round =>
          clear HO2 HB2 HB1
          obtain ⟨s, m, rfl, hs, rfl, HM, HO, HB⟩ := hrel
          by_cases hst : s < t
          · obtain ⟨b1, o1, y, e1, _, hu, c0, c1, c2', c3⟩ := lin_at (own_reads HO.out) hlt
            simp only [Option.some.injEq, Addr.mk.injEq, and_true] at e1
            obtain ⟨rfl, rfl⟩ := e1
            rw [List.getElem?_set_self (by rw [HL.out]; exact hlt)] at hu
            have hy := Option.some.inj hu
            have hm := pulN_le x s
            rw [HM.out] at hm
            clear hu
            simp only [Nat.zero_add] at c0 c1 c2' c3
            obtain ⟨x0, x1, x2, x3⟩ := y
            simp only at c0 c1 c2' c3
            obtain ⟨q, hq⟩ : ∃ q, (if x0 = 1 then true else (x3 || (true && !x2))) = q := ⟨_, rfl⟩
            obtain ⟨p, hp⟩ : ∃ p, (if x0 = 1 then false else (q || (false && !true))) = p := ⟨_, rfl⟩
            have HQ := Lib.hid hq
            have HPP := Lib.hid hp
            have hd1 : drv ⟨x0, x1, x2, x3⟩ true = ⟨x0, x1, true, q⟩ := by unfold drv; simp only; rw [hq]
            have hd2 : drv ⟨x0, x1, true, q⟩ false = ⟨x0, x1, false, p⟩ := by unfold drv; simp only; rw [hp]
            have HN : Hid ((pulN x (s + 1)).1 = ⟨x0, x1, false, p⟩) := Lib.hid (by show pulse (pulN x s).1 = _; rw [hy]; unfold pulse; rw [hd1, hd2])
            have HMN : Hid ((pulN x (s + 1)).2 = m + (if (q && !x3) = true then 1 else 0)) := Lib.hid (by show (pulN x s).2 + rose (pulN x s).1 = _; rw [HM.out, hy]; unfold rose; rw [hd1])
            clear hq hp hd1 hd2 hy HM
            obtain ⟨wx, hwx⟩ : ∃ wx, wr.alloc (.cells #[.int .i64 x0, .int .i64 x1, .bool x2, .bool x3] 58) = wx := ⟨_, rfl⟩
            have hbx : Below wr.heap.size wr wx := by rw [← hwx]; exact below_more (Below.refl _ _) _
            have hxb : Blk wx wr.heap.size 58 #[.int .i64 x0, .int .i64 x1, .bool x2, .bool x3] := by rw [← hwx]; exact Blk.new _ _ _
            have HXB := Lib.hid hxb
            have HOW := Lib.hid (own_below HO.out hbx)
            have HBW := Lib.hid (below_then HB.out hbx)
            have HWX := Lib.hid hwx
            clear hxb hwx hbx HO HB
            go_upto_region 7 with fail
            rw [HWX.out]
            have d0 := HXB.out.cell 0 _ rfl
            have d1 := HXB.out.cell 1 _ rfl
            have d2 := HXB.out.cell 2 _ rfl
            have d3 := HXB.out.cell 3 _ rfl
            clear HWX c0 c1 c2' c3
            go_wp2_with fail
            refine (driven_c x0 x1 x2 x3 true q HQ.out _).mono ?_
            rintro e w3 ⟨rfl, hb3⟩
            have hb4 := below_then hb3 (below_more (Below.refl w3.heap.size w3) (.cells #[.int .i64 x0, .int .i64 x1, .bool true, .bool q] 58))
            obtain ⟨wy, hwy⟩ : ∃ wy, w3.alloc (.cells #[.int .i64 x0, .int .i64 x1, .bool true, .bool q] 58) = wy := ⟨_, rfl⟩
            have hyb : Blk wy w3.heap.size 58 #[.int .i64 x0, .int .i64 x1, .bool true, .bool q] := by rw [← hwy]; exact Blk.new _ _ _
            rw [hwy] at hb4
            have HY := Lib.hid hyb
            have HXY := Lib.hid (Blk.kept hb4 HXB.out)
            have HO3 := Lib.hid (own_below HOW.out hb4)
            have HB3 := Lib.hid (below_then HBW.out hb4)
            have HWY := Lib.hid hwy
            clear hb3 hb4 hyb hwy d0 d1 d2 d3 HOW HBW HXB
            go_upto_region 8 with fail
            rw [HWY.out]
            clear HWY
            have r0 := HY.out.cell 0 _ rfl
            have r1 := HY.out.cell 1 _ rfl
            have r2 := HY.out.cell 2 _ rfl
            have r3 := HY.out.cell 3 _ rfl
            have d3 := HXY.out.cell 3 _ rfl
            obtain ⟨u, hu⟩ : ∃ u, (q && !x3) = u := ⟨_, rfl⟩
            rw [hu] at HMN
            have hwp : ∀ (m' : Nat), (pulN x (s + 1)).2 = m' → True := fun _ _ => trivial
            clear hwp
            have HU := Lib.hid hu
            clear hu
            cases q with
            | false =>
              obtain rfl : u = false := by rw [← HU.out]; rfl
              clear HU
              go_wp2_with fail
              refine (driven_c x0 x1 true false false p HPP.out _).mono ?_
              rintro e w5 ⟨rfl, hb5⟩
              replace HO3 := Lib.hid (own_below HO3.out hb5)
              replace HB3 := Lib.hid (below_then HB3.out hb5)
              have hgw := (HO3.out.lt g rfl).1
              clear hb5 r0 r1 r2 r3 d3
              have hown := HO3.out
              have hfl := hown.1
              have f0 := hown.frozenAt (k * 4)
              have f1 := hown.frozenAt (k * 4 + 1)
              have f2 := hown.frozenAt (k * 4 + 2)
              have f3 := hown.frozenAt (k * 4 + 3)
              obtain ⟨y0, e0⟩ : ∃ z, w5.cell? ⟨g, k * 4, none⟩ = some z := ⟨_, (hown.cellAt (k * 4) (by omega)).trans (List.getElem?_eq_getElem (by omega))⟩
              obtain ⟨y1, e1⟩ : ∃ z, w5.cell? ⟨g, k * 4 + 1, none⟩ = some z := ⟨_, (hown.cellAt (k * 4 + 1) (by omega)).trans (List.getElem?_eq_getElem (by omega))⟩
              obtain ⟨y2, e2⟩ : ∃ z, w5.cell? ⟨g, k * 4 + 2, none⟩ = some z := ⟨_, (hown.cellAt (k * 4 + 2) (by omega)).trans (List.getElem?_eq_getElem (by omega))⟩
              obtain ⟨y3, e3⟩ : ∃ z, w5.cell? ⟨g, k * 4 + 3, none⟩ = some z := ⟨_, (hown.cellAt (k * 4 + 3) (by omega)).trans (List.getElem?_eq_getElem (by omega))⟩
              have HP := Lib.hid (lin_put hown (k := k) (by rw [List.length_set, HL.out]; exact hlt) ⟨x0, x1, false, p⟩).1
              have HMQ : Hid ((pulN x (s + 1)).2 = m) := Lib.hid (by rw [HMN.out]; rfl)
              have HFL : Hid (FL ((xs.set k (pulN x s).1).set k ⟨x0, x1, false, p⟩) = FL (xs.set k (pulN x (s + 1)).1)) := Lib.hid (by rw [List.set_set, HN.out])
              have HW := Lib.hid (below_set (below_set (below_set (below_set HB3.out hgw (j := k * 4) (.int .i64 x0)) hgw (j := k * 4 + 1) (.int .i64 x1)) hgw (j := k * 4 + 2) (.bool false)) hgw (j := k * 4 + 3) (.bool p))
              rw [HFL.out] at HP
              clear hown hfl HO3 HB3 HN HMN HFL
              go_wp2_with fail
              go_roundw
              case rel => exact ⟨s + 1, m, by go_num, by omega, by first | rfl | go_num, HMQ, HP, HW⟩
              case measure => simp [intOf]; omega
            | true =>
              cases x3 with
              | true =>
                obtain rfl : u = false := by rw [← HU.out]; rfl
                clear HU
                go_wp2_with fail
                refine (driven_c x0 x1 true true false p HPP.out _).mono ?_
                rintro e w5 ⟨rfl, hb5⟩
                replace HO3 := Lib.hid (own_below HO3.out hb5)
                replace HB3 := Lib.hid (below_then HB3.out hb5)
                have hgw := (HO3.out.lt g rfl).1
                clear hb5 r0 r1 r2 r3 d3
                have hown := HO3.out
                have hfl := hown.1
                have f0 := hown.frozenAt (k * 4)
                have f1 := hown.frozenAt (k * 4 + 1)
                have f2 := hown.frozenAt (k * 4 + 2)
                have f3 := hown.frozenAt (k * 4 + 3)
                obtain ⟨y0, e0⟩ : ∃ z, w5.cell? ⟨g, k * 4, none⟩ = some z := ⟨_, (hown.cellAt (k * 4) (by omega)).trans (List.getElem?_eq_getElem (by omega))⟩
                obtain ⟨y1, e1⟩ : ∃ z, w5.cell? ⟨g, k * 4 + 1, none⟩ = some z := ⟨_, (hown.cellAt (k * 4 + 1) (by omega)).trans (List.getElem?_eq_getElem (by omega))⟩
                obtain ⟨y2, e2⟩ : ∃ z, w5.cell? ⟨g, k * 4 + 2, none⟩ = some z := ⟨_, (hown.cellAt (k * 4 + 2) (by omega)).trans (List.getElem?_eq_getElem (by omega))⟩
                obtain ⟨y3, e3⟩ : ∃ z, w5.cell? ⟨g, k * 4 + 3, none⟩ = some z := ⟨_, (hown.cellAt (k * 4 + 3) (by omega)).trans (List.getElem?_eq_getElem (by omega))⟩
                have HP := Lib.hid (lin_put hown (k := k) (by rw [List.length_set, HL.out]; exact hlt) ⟨x0, x1, false, p⟩).1
                have HMQ : Hid ((pulN x (s + 1)).2 = m) := Lib.hid (by rw [HMN.out]; rfl)
                have HFL : Hid (FL ((xs.set k (pulN x s).1).set k ⟨x0, x1, false, p⟩) = FL (xs.set k (pulN x (s + 1)).1)) := Lib.hid (by rw [List.set_set, HN.out])
                have HW := Lib.hid (below_set (below_set (below_set (below_set HB3.out hgw (j := k * 4) (.int .i64 x0)) hgw (j := k * 4 + 1) (.int .i64 x1)) hgw (j := k * 4 + 2) (.bool false)) hgw (j := k * 4 + 3) (.bool p))
                rw [HFL.out] at HP
                clear hown hfl HO3 HB3 HN HMN HFL
                go_wp2_with fail
                go_roundw
                case rel => exact ⟨s + 1, m, by go_num, by omega, by first | rfl | go_num, HMQ, HP, HW⟩
                case measure => simp [intOf]; omega
              | false =>
                obtain rfl : u = true := by rw [← HU.out]; rfl
                clear HU
                go_wp2_with fail
                refine (driven_c x0 x1 true true false p HPP.out _).mono ?_
                rintro e w5 ⟨rfl, hb5⟩
                replace HO3 := Lib.hid (own_below HO3.out hb5)
                replace HB3 := Lib.hid (below_then HB3.out hb5)
                have hgw := (HO3.out.lt g rfl).1
                clear hb5 r0 r1 r2 r3 d3
                have hown := HO3.out
                have hfl := hown.1
                have f0 := hown.frozenAt (k * 4)
                have f1 := hown.frozenAt (k * 4 + 1)
                have f2 := hown.frozenAt (k * 4 + 2)
                have f3 := hown.frozenAt (k * 4 + 3)
                obtain ⟨y0, e0⟩ : ∃ z, w5.cell? ⟨g, k * 4, none⟩ = some z := ⟨_, (hown.cellAt (k * 4) (by omega)).trans (List.getElem?_eq_getElem (by omega))⟩
                obtain ⟨y1, e1⟩ : ∃ z, w5.cell? ⟨g, k * 4 + 1, none⟩ = some z := ⟨_, (hown.cellAt (k * 4 + 1) (by omega)).trans (List.getElem?_eq_getElem (by omega))⟩
                obtain ⟨y2, e2⟩ : ∃ z, w5.cell? ⟨g, k * 4 + 2, none⟩ = some z := ⟨_, (hown.cellAt (k * 4 + 2) (by omega)).trans (List.getElem?_eq_getElem (by omega))⟩
                obtain ⟨y3, e3⟩ : ∃ z, w5.cell? ⟨g, k * 4 + 3, none⟩ = some z := ⟨_, (hown.cellAt (k * 4 + 3) (by omega)).trans (List.getElem?_eq_getElem (by omega))⟩
                have HP := Lib.hid (lin_put hown (k := k) (by rw [List.length_set, HL.out]; exact hlt) ⟨x0, x1, false, p⟩).1
                have HMQ : Hid ((pulN x (s + 1)).2 = m + 1) := Lib.hid (by rw [HMN.out]; rfl)
                have HFL : Hid (FL ((xs.set k (pulN x s).1).set k ⟨x0, x1, false, p⟩) = FL (xs.set k (pulN x (s + 1)).1)) := Lib.hid (by rw [List.set_set, HN.out])
                have HW := Lib.hid (below_set (below_set (below_set (below_set HB3.out hgw (j := k * 4) (.int .i64 x0)) hgw (j := k * 4 + 1) (.int .i64 x1)) hgw (j := k * 4 + 2) (.bool false)) hgw (j := k * 4 + 3) (.bool p))
                rw [HFL.out] at HP
                clear hown hfl HO3 HB3 HN HMN HFL
                go_wp2_with fail
                go_roundw
                case rel => exact ⟨s + 1, m + 1, by go_num, by omega, by first | rfl | go_num, HMQ, HP, HW⟩
                case measure => simp [intOf]; omega
          · have hkn : s = t := by omega
            subst hkn
            have HM2 := HM
            clear HM
            go_wp2_with fail
            go_ret3
            rw [HM2.out]
            exact cntPost_of (by rw [List.length_set]; exact HL.out) HO.out HB.out
      · have HT := Lib.hid (decide_eq_false ht8)
        obtain ⟨rfl, rfl, rfl⟩ := plAns_no HH.out (fun hh => ht8 hh.2.2)
        clear hok HH hi8 ht8
        go_enter Try.func60, Try.ntmps60
        go_wp2_with fail
        refine (implAre_any A n c _ xs _ HR.out (Nat.le_refl _) hn _ HA.out).mono ?_
        rintro e w1 ⟨rfl, hb1⟩
        have HB1 := Lib.hid hb1
        clear hb1
        go_wp2_with fail
        refine (isBelow_any _ n _ HI.out _).mono ?_
        rintro e wi ⟨rfl, rfl⟩
        go_wp2_with fail
        refine (isBelow_any _ 101 _ HT.out _).mono ?_
        rintro e wi ⟨rfl, rfl⟩
        go_wp2_with fail
        go_ret3
        exact ⟨none, 0, rfl, World.ownsRow_nil _ _ _ _, HB1.out⟩
    · have HI := Lib.hid (decide_eq_false hi8)
      obtain ⟨rfl, rfl, rfl⟩ := plAns_no HH.out (fun hh => hi8 (by rw [← HL.out]; exact hh.2.1))
      clear hok HH hi8
      go_enter Try.func60, Try.ntmps60
      go_wp2_with fail
      refine (implAre_any A n c _ xs _ HR.out (Nat.le_refl _) hn _ HA.out).mono ?_
      rintro e w1 ⟨rfl, hb1⟩
      have HB1 := Lib.hid hb1
      clear hb1
      go_wp2_with fail
      refine (isBelow_any _ n _ HI.out _).mono ?_
      rintro e wi ⟨rfl, rfl⟩
      go_wp2_with fail
      go_ret3
      exact ⟨none, 0, rfl, World.ownsRow_nil _ _ _ _, HB1.out⟩
  · have HA := Lib.hid (decide_eq_false hok)
    obtain ⟨rfl, rfl, rfl⟩ := plAns_no HH.out (fun hh => hok hh.1)
    clear hok HH
    go_enter Try.func60, Try.ntmps60
    go_wp2_with fail
    refine (implAre_any A n c _ xs _ HR.out (Nat.le_refl _) hn _ HA.out).mono ?_
    rintro e w1 ⟨rfl, hb1⟩
    have HB1 := Lib.hid hb1
    clear hb1
    go_wp2_with fail
    go_ret3
    exact ⟨none, 0, rfl, World.ownsRow_nil _ _ _ _, HB1.out⟩
end Go.Proofs.Ytfdbnolifimnhaa.L7
