/- What spec.PulseLine answers. -/
import Derived.Test.YtfdbnolifimnhaaLnP
import Derived.Test.YtfdbnolifimnhaaLnS
import Derived.Test.YtfdbnolifimnhaaLnQ
import Derived.Test.YtfdbnolifimnhaaLnN
import Derived.Test.YtfdbnolifimnhaaLinT
import Derived.Deep.Cut
import Derived.Laws.AppendOwnNone
namespace Go.Proofs.Ytfdbnolifimnhaa.L7
open Go Go.RowKit Go.Proofs.Ytfdbnolifimnhaa.Mem Go.Proofs.Ytfdbnolifimnhaa.Own Go.Proofs.Ytfdbnolifimnhaa.L6
set_option maxRecDepth 100000 in
set_option maxHeartbeats 4000000 in
theorem specPulse_any (A : Option Addr) (n c : Nat) (xs : List Lin) (i t : Int) (w : World) (hr : Reads w w.heap.size 4 A n (FL xs)) (hc0 : A = none → n = 0 ∧ c = 0) (hn : n ≤ 1048576) (l : List Lin) (z : Int) (b : Bool) (h : plAns xs i t = (l, z, b)) :
    Calls Try.prog 61 #[.slice A n c, .int .i64 i, .int .i64 t] w (CntPost w l z b) := by
  have HR := Lib.hid hr
  have HC0 := Lib.hid hc0
  have HL : Hid (xs.length = n) := Lib.hid (reads_len hr)
  have HH := Lib.hid h
  obtain ⟨i0, hi, hz0, hz1, hz2⟩ := info_parts infoLin
  clear hr hc0 h
  have hwn : IntKind.i64.wrap ((n : Int) - 1) = (n : Int) - 1 := IntWalk.i64_in _ (by omega)
  by_cases hok : OkL xs
  · have HA := Lib.hid (decide_eq_true hok)
    by_cases hi8 : 0 ≤ i ∧ i ≤ (n : Int) - 1
    · have HI := Lib.hid (decide_eq_true hi8)
      by_cases ht8 : 0 ≤ t ∧ t ≤ 100
      · have HT := Lib.hid (decide_eq_true ht8)
        obtain ⟨k, rfl⟩ : ∃ k : Nat, i = k := ⟨i.toNat, by omega⟩
        obtain ⟨t, rfl⟩ : ∃ k : Nat, t = k := ⟨t.toNat, by omega⟩
        have hlt : k < n := by omega
        have ht1 : t < 101 := by omega
        obtain ⟨x, hx⟩ : ∃ x, xs[k]? = some x := ⟨_, List.getElem?_eq_getElem (by rw [HL.out]; exact hlt)⟩
        obtain ⟨rfl, rfl, rfl⟩ := plAns_yes HH.out hok hx ht1
        have HX := Lib.hid hx
        have HOX := Lib.hid (hok.2 x (List.mem_of_getElem? hx))
        obtain ⟨a, rfl⟩ : ∃ a, A = some a := by obtain ⟨b', o', e, _⟩ := HR.out.2 (by omega); exact ⟨_, e⟩
        clear hok HH hi8 ht8 hx HC0
        go_enter Try.func61, Try.ntmps61
        go_wp2_with fail
        refine (l7Good_any (some a) n c _ xs _ HR.out (Nat.le_refl _) hn _ HA.out).mono ?_
        rintro e w1 ⟨rfl, hb1⟩
        have HB1 := Lib.hid hb1
        clear hb1
        go_wp2_with fail
        refine (l1In_any _ 0 _ _ HI.out _).mono ?_
        rintro e wi ⟨rfl, rfl⟩
        go_wp2_with fail
        refine (l1In_any _ 0 100 _ HT.out _).mono ?_
        rintro e wj ⟨rfl, rfl⟩
        have hownE : (w1.alloc (.cells #[] 58)).ownsRow w1.heap.size 58 4 (.slice (some ⟨w1.heap.size, 0, none⟩) 0 0) 0 [] := World.ownsRow_made w1 #[] 0 (Nat.le_refl _) (Nat.zero_le _) rfl
        have hbelE : Below w.heap.size w (w1.alloc (.cells #[] 58)) := below_more HB1.out _
        have hszE := HB1.out.size
        obtain ⟨L, hL⟩ : ∃ L, L = FL xs := ⟨_, rfl⟩
        have HLE := Lib.hid hL
        have hcellsE : ∀ j u, L[j]? = some u → (w1.alloc (.cells #[] 58)).cell? (a.add j) = some u := by
          intro j u hu
          subst hL
          have hj := (List.getElem?_eq_some_iff.1 hu).1
          rw [FL_len, HL.out] at hj
          have hn0 : 0 < n := by
            rcases Nat.eq_zero_or_pos n with h0 | h0
            · rw [h0, Nat.zero_mul] at hj; omega
            · exact h0
          obtain ⟨b', off', e, hb, hc⟩ := (HR.out.below HB1.out).2 hn0
          obtain rfl := Option.some.inj e
          rw [Go.WideShapes.add_plain, World.cell?_alloc_lt _ _ _ (World.block_lt_of_cell? w1 _ (hc j u hu))]
          exact hc j u hu
        have h1E : ∀ u ∈ L, u.oneCell' = true := by rw [hL]; exact lin_one xs
        have hl2E : L.length = n * 4 := by rw [hL]; exact HR.out.1
        clear hL
        go_wp2_with (at_builtin; refine wpList_append_own _ rfl _ _ 66 rfl w1.heap.size 58 i0 (.agg #[.int .i64 0, .int .i64 0, .bool false, .bool false]) 4 24 Try.underlying66 hi hz0 hz1 hz2 rfl (by decide) _ _ _ rfl hownE a n c L rfl hl2E hcellsE h1E (by unfold maxLen; omega) (by omega) (by simp) ?_; intro v' w2 hown1 hgrow1 _)
        have HB2 := Lib.hid (hbelE.grown hgrow1 (by simp; omega) (fun q hq => Nat.le_trans hszE (hownE.lt q hq).1))
        have hown2 : w2.ownsRow w1.heap.size 58 4 v' n (FL xs) := by rw [← HLE.out]; simpa using hown1
        obtain ⟨A0, cc0, rfl, _, _⟩ := own_form hown2
        have HO2 := Lib.hid (own_mono hown2 hszE)
        clear hownE hbelE hszE hcellsE h1E hl2E hown1 hgrow1 hown2 HLE
        obtain ⟨g, rfl⟩ := own_head HO2.out (by omega)
        have hkz : (k : Int) < n := by omega
        go_loopw [2, 10] (fun u2 u10 wr => ∃ (s r m : Nat), u2 = .int .i64 r ∧ s + r = t ∧ u10 = .int .i64 m ∧ Hid ((pulN x s).2 = m) ∧ Hid (wr.ownsRow w.heap.size 58 4 (.slice (some ⟨g, 0, none⟩) n cc0) n (FL (xs.set k (pulN x s).1))) ∧ Hid (Below w.heap.size w wr)) (fun u2 _ _ => (intOf u2).toNat)
        case atStart => exact ⟨0, t, 0, rfl, Nat.zero_add _, rfl, Lib.hid rfl, Lib.hid (by rw [show (pulN x 0).1 = x from rfl, set_same HX.out]; exact HO2.out), HB2⟩
        case round =>
          clear HO2 HB2 HB1
          obtain ⟨s, r, m, rfl, hs, rfl, HM, HO, HB⟩ := hrel
          by_cases hst : 0 < r
          · obtain ⟨b1, o1, y, e1, _, hu, c0, c1, c2', c3⟩ := lin_at (own_reads HO.out) hlt
            simp only [Option.some.injEq, Addr.mk.injEq, and_true] at e1
            obtain ⟨rfl, rfl⟩ := e1
            rw [List.getElem?_set_self (by rw [HL.out]; exact hlt)] at hu
            have hy := Option.some.inj hu
            have hm := pulN_le x s
            rw [HM.out] at hm
            have hyo := (pulN_ok HOX.out s).1
            rw [hy] at hyo
            clear hu
            simp only [Nat.zero_add] at c0 c1 c2' c3
            obtain ⟨x0, x1, x2, x3⟩ := y
            simp only at c0 c1 c2' c3 hyo
            have HYO := Lib.hid hyo
            obtain ⟨q, hq⟩ : ∃ q, (if x0 = 1 then true else (x3 || (true && !x2))) = q := ⟨_, rfl⟩
            obtain ⟨p, hp⟩ : ∃ p, (if x0 = 1 then false else (q || (false && !true))) = p := ⟨_, rfl⟩
            have HQ := Lib.hid hq
            have HPP := Lib.hid hp
            have hd1 : drv ⟨x0, x1, x2, x3⟩ true = ⟨x0, x1, true, q⟩ := by unfold drv; simp only; rw [hq]
            have hd2 : drv ⟨x0, x1, true, q⟩ false = ⟨x0, x1, false, p⟩ := by unfold drv; simp only; rw [hp]
            have HN : Hid ((pulN x (s + 1)).1 = ⟨x0, x1, false, p⟩) := Lib.hid (by show pulse (pulN x s).1 = _; rw [hy]; unfold pulse; rw [hd1, hd2])
            have HMN : Hid ((pulN x (s + 1)).2 = m + (if (q && !x3) = true then 1 else 0)) := Lib.hid (by show (pulN x s).2 + rose (pulN x s).1 = _; rw [HM.out, hy]; unfold rose; rw [hd1])
            have hr0 : decide ((0 : Nat) < r) = true := decide_eq_true hst
            clear hq hp hd1 hd2 hy HM hyo
            go_wp2_with fail
            refine (l7Drive_c x0 x1 x2 x3 true q HYO.out HQ.out _).mono ?_
            rintro e w3 ⟨rfl, hb3⟩
            have HO3 := Lib.hid (own_below HO.out hb3)
            have HB3 := Lib.hid (below_then HB.out hb3)
            have hgw := (HO3.out.lt g rfl).1
            clear hb3 c0 c1 c2' c3 HO HB
            have hown := HO3.out
            have hfl := hown.1
            have f0 := hown.frozenAt (k * 4)
            have f1 := hown.frozenAt (k * 4 + 1)
            have f2 := hown.frozenAt (k * 4 + 2)
            have f3 := hown.frozenAt (k * 4 + 3)
            obtain ⟨y0, e0⟩ : ∃ z, w3.cell? ⟨g, k * 4, none⟩ = some z := ⟨_, (hown.cellAt (k * 4) (by omega)).trans (List.getElem?_eq_getElem (by omega))⟩
            obtain ⟨y1, e1⟩ : ∃ z, w3.cell? ⟨g, k * 4 + 1, none⟩ = some z := ⟨_, (hown.cellAt (k * 4 + 1) (by omega)).trans (List.getElem?_eq_getElem (by omega))⟩
            obtain ⟨y2, e2⟩ : ∃ z, w3.cell? ⟨g, k * 4 + 2, none⟩ = some z := ⟨_, (hown.cellAt (k * 4 + 2) (by omega)).trans (List.getElem?_eq_getElem (by omega))⟩
            obtain ⟨y3, e3⟩ : ∃ z, w3.cell? ⟨g, k * 4 + 3, none⟩ = some z := ⟨_, (hown.cellAt (k * 4 + 3) (by omega)).trans (List.getElem?_eq_getElem (by omega))⟩
            have HP := Lib.hid (lin_put hown (k := k) (by rw [List.length_set, HL.out]; exact hlt) ⟨x0, x1, true, q⟩).1
            have HW := Lib.hid (below_set (below_set (below_set (below_set HB3.out hgw (j := k * 4) (.int .i64 x0)) hgw (j := k * 4 + 1) (.int .i64 x1)) hgw (j := k * 4 + 2) (.bool true)) hgw (j := k * 4 + 3) (.bool q))
            clear hown hfl HO3 HB3
            go_upto_region 8 with fail
            clear f0 f1 f2 f3 e0 e1 e2 e3
            revert HP HW
            generalize (World.setCell (World.setCell (World.setCell (World.setCell w3 _ _) _ _) _ _) _ _) = ws
            intro HP HW
            obtain ⟨b1, o1, y, e1, _, hu, c0, c1, c2', c3⟩ := lin_at (own_reads HP.out) hlt
            simp only [Option.some.injEq, Addr.mk.injEq, and_true] at e1
            obtain ⟨rfl, rfl⟩ := e1
            rw [List.getElem?_set_self (by rw [List.length_set, HL.out]; exact hlt)] at hu
            obtain rfl := Option.some.inj hu
            simp only [Nat.zero_add] at c0 c1 c2' c3
            clear hu
            have hgw2 := (HP.out.lt g rfl).1
            cases q with
            | false =>
              go_wp2_with fail
              refine (l7Drive_c x0 x1 true false false p HYO.out HPP.out _).mono ?_
              rintro e w5 ⟨rfl, hb5⟩
              have HO5 := Lib.hid (own_below HP.out hb5)
              have HB5 := Lib.hid (below_then HW.out hb5)
              clear hb5 c0 c1 c2' c3 HP HW
              have hown := HO5.out
              have hfl := hown.1
              have f0 := hown.frozenAt (k * 4)
              have f1 := hown.frozenAt (k * 4 + 1)
              have f2 := hown.frozenAt (k * 4 + 2)
              have f3 := hown.frozenAt (k * 4 + 3)
              obtain ⟨y0, e0⟩ : ∃ z, w5.cell? ⟨g, k * 4, none⟩ = some z := ⟨_, (hown.cellAt (k * 4) (by omega)).trans (List.getElem?_eq_getElem (by omega))⟩
              obtain ⟨y1, e1⟩ : ∃ z, w5.cell? ⟨g, k * 4 + 1, none⟩ = some z := ⟨_, (hown.cellAt (k * 4 + 1) (by omega)).trans (List.getElem?_eq_getElem (by omega))⟩
              obtain ⟨y2, e2⟩ : ∃ z, w5.cell? ⟨g, k * 4 + 2, none⟩ = some z := ⟨_, (hown.cellAt (k * 4 + 2) (by omega)).trans (List.getElem?_eq_getElem (by omega))⟩
              obtain ⟨y3, e3⟩ : ∃ z, w5.cell? ⟨g, k * 4 + 3, none⟩ = some z := ⟨_, (hown.cellAt (k * 4 + 3) (by omega)).trans (List.getElem?_eq_getElem (by omega))⟩
              have HP := Lib.hid (lin_put hown (k := k) (by rw [List.length_set, List.length_set, HL.out]; exact hlt) ⟨x0, x1, false, p⟩).1
              have HMQ : Hid ((pulN x (s + 1)).2 = m) := Lib.hid (by rw [HMN.out]; rfl)
              have HFL : Hid (FL (((xs.set k (pulN x s).1).set k ⟨x0, x1, true, false⟩).set k ⟨x0, x1, false, p⟩) = FL (xs.set k (pulN x (s + 1)).1)) := Lib.hid (by rw [List.set_set, List.set_set, HN.out])
              have HW := Lib.hid (below_set (below_set (below_set (below_set HB5.out hgw2 (j := k * 4) (.int .i64 x0)) hgw2 (j := k * 4 + 1) (.int .i64 x1)) hgw2 (j := k * 4 + 2) (.bool false)) hgw2 (j := k * 4 + 3) (.bool p))
              rw [HFL.out] at HP
              clear hown hfl HO5 HB5 HN HMN HFL
              go_wp2_with fail
              go_roundw
              case rel => exact ⟨s + 1, r - 1, m, by first | (go_num; done) | (congr 1; omega), by omega, by first | rfl | go_num, HMQ, HP, HW⟩
              case measure => simp [intOf]; omega
            | true =>
              cases x3 with
              | true =>
                go_wp2_with fail
                refine (l7Drive_c x0 x1 true true false p HYO.out HPP.out _).mono ?_
                rintro e w5 ⟨rfl, hb5⟩
                have HO5 := Lib.hid (own_below HP.out hb5)
                have HB5 := Lib.hid (below_then HW.out hb5)
                clear hb5 c0 c1 c2' c3 HP HW
                have hown := HO5.out
                have hfl := hown.1
                have f0 := hown.frozenAt (k * 4)
                have f1 := hown.frozenAt (k * 4 + 1)
                have f2 := hown.frozenAt (k * 4 + 2)
                have f3 := hown.frozenAt (k * 4 + 3)
                obtain ⟨y0, e0⟩ : ∃ z, w5.cell? ⟨g, k * 4, none⟩ = some z := ⟨_, (hown.cellAt (k * 4) (by omega)).trans (List.getElem?_eq_getElem (by omega))⟩
                obtain ⟨y1, e1⟩ : ∃ z, w5.cell? ⟨g, k * 4 + 1, none⟩ = some z := ⟨_, (hown.cellAt (k * 4 + 1) (by omega)).trans (List.getElem?_eq_getElem (by omega))⟩
                obtain ⟨y2, e2⟩ : ∃ z, w5.cell? ⟨g, k * 4 + 2, none⟩ = some z := ⟨_, (hown.cellAt (k * 4 + 2) (by omega)).trans (List.getElem?_eq_getElem (by omega))⟩
                obtain ⟨y3, e3⟩ : ∃ z, w5.cell? ⟨g, k * 4 + 3, none⟩ = some z := ⟨_, (hown.cellAt (k * 4 + 3) (by omega)).trans (List.getElem?_eq_getElem (by omega))⟩
                have HP := Lib.hid (lin_put hown (k := k) (by rw [List.length_set, List.length_set, HL.out]; exact hlt) ⟨x0, x1, false, p⟩).1
                have HMQ : Hid ((pulN x (s + 1)).2 = m) := Lib.hid (by rw [HMN.out]; rfl)
                have HFL : Hid (FL (((xs.set k (pulN x s).1).set k ⟨x0, x1, true, true⟩).set k ⟨x0, x1, false, p⟩) = FL (xs.set k (pulN x (s + 1)).1)) := Lib.hid (by rw [List.set_set, List.set_set, HN.out])
                have HW := Lib.hid (below_set (below_set (below_set (below_set HB5.out hgw2 (j := k * 4) (.int .i64 x0)) hgw2 (j := k * 4 + 1) (.int .i64 x1)) hgw2 (j := k * 4 + 2) (.bool false)) hgw2 (j := k * 4 + 3) (.bool p))
                rw [HFL.out] at HP
                clear hown hfl HO5 HB5 HN HMN HFL
                go_wp2_with fail
                go_roundw
                case rel => exact ⟨s + 1, r - 1, m, by first | (go_num; done) | (congr 1; omega), by omega, by first | rfl | go_num, HMQ, HP, HW⟩
                case measure => simp [intOf]; omega
              | false =>
                go_wp2_with fail
                refine (l7Drive_c x0 x1 true true false p HYO.out HPP.out _).mono ?_
                rintro e w5 ⟨rfl, hb5⟩
                have HO5 := Lib.hid (own_below HP.out hb5)
                have HB5 := Lib.hid (below_then HW.out hb5)
                clear hb5 c0 c1 c2' c3 HP HW
                have hown := HO5.out
                have hfl := hown.1
                have f0 := hown.frozenAt (k * 4)
                have f1 := hown.frozenAt (k * 4 + 1)
                have f2 := hown.frozenAt (k * 4 + 2)
                have f3 := hown.frozenAt (k * 4 + 3)
                obtain ⟨y0, e0⟩ : ∃ z, w5.cell? ⟨g, k * 4, none⟩ = some z := ⟨_, (hown.cellAt (k * 4) (by omega)).trans (List.getElem?_eq_getElem (by omega))⟩
                obtain ⟨y1, e1⟩ : ∃ z, w5.cell? ⟨g, k * 4 + 1, none⟩ = some z := ⟨_, (hown.cellAt (k * 4 + 1) (by omega)).trans (List.getElem?_eq_getElem (by omega))⟩
                obtain ⟨y2, e2⟩ : ∃ z, w5.cell? ⟨g, k * 4 + 2, none⟩ = some z := ⟨_, (hown.cellAt (k * 4 + 2) (by omega)).trans (List.getElem?_eq_getElem (by omega))⟩
                obtain ⟨y3, e3⟩ : ∃ z, w5.cell? ⟨g, k * 4 + 3, none⟩ = some z := ⟨_, (hown.cellAt (k * 4 + 3) (by omega)).trans (List.getElem?_eq_getElem (by omega))⟩
                have HP := Lib.hid (lin_put hown (k := k) (by rw [List.length_set, List.length_set, HL.out]; exact hlt) ⟨x0, x1, false, p⟩).1
                have HMQ : Hid ((pulN x (s + 1)).2 = m + 1) := Lib.hid (by rw [HMN.out]; rfl)
                have HFL : Hid (FL (((xs.set k (pulN x s).1).set k ⟨x0, x1, true, true⟩).set k ⟨x0, x1, false, p⟩) = FL (xs.set k (pulN x (s + 1)).1)) := Lib.hid (by rw [List.set_set, List.set_set, HN.out])
                have HW := Lib.hid (below_set (below_set (below_set (below_set HB5.out hgw2 (j := k * 4) (.int .i64 x0)) hgw2 (j := k * 4 + 1) (.int .i64 x1)) hgw2 (j := k * 4 + 2) (.bool false)) hgw2 (j := k * 4 + 3) (.bool p))
                rw [HFL.out] at HP
                clear hown hfl HO5 HB5 HN HMN HFL
                go_wp2_with fail
                go_roundw
                case rel => exact ⟨s + 1, r - 1, m + 1, by first | (go_num; done) | (congr 1; omega), by omega, by first | rfl | go_num, HMQ, HP, HW⟩
                case measure => simp [intOf]; omega
          · have hr0 : r = 0 := by omega
            subst hr0
            obtain rfl : s = t := by omega
            have HM2 := HM
            clear HM
            go_wp2_with fail
            go_ret3
            rw [HM2.out]
            exact cntPost_of (by rw [List.length_set]; exact HL.out) HO.out HB.out
      · have HT := Lib.hid (decide_eq_false ht8)
        obtain ⟨rfl, rfl, rfl⟩ := plAns_no HH.out (fun hh => ht8 ⟨hh.2.2.1, by have := hh.2.2.2; omega⟩)
        clear hok HH hi8 ht8
        go_enter Try.func61, Try.ntmps61
        go_wp2_with fail
        refine (l7Good_any A n c _ xs _ HR.out (Nat.le_refl _) hn _ HA.out).mono ?_
        rintro e w1 ⟨rfl, hb1⟩
        have HB1 := Lib.hid hb1
        clear hb1
        go_wp2_with fail
        refine (l1In_any _ 0 _ _ HI.out _).mono ?_
        rintro e wi ⟨rfl, rfl⟩
        go_wp2_with fail
        refine (l1In_any _ 0 100 _ HT.out _).mono ?_
        rintro e wj ⟨rfl, rfl⟩
        go_wp2_with fail
        go_ret3
        exact ⟨_, 0, rfl, World.ownsRow_made w1 #[] 0 HB1.out.size (Nat.zero_le _) rfl, below_more HB1.out _⟩
    · have HI := Lib.hid (decide_eq_false hi8)
      obtain ⟨rfl, rfl, rfl⟩ := plAns_no HH.out (fun hh => hi8 ⟨hh.2.1.1, by have := hh.2.1.2; rw [HL.out] at this; omega⟩)
      clear hok HH hi8
      go_enter Try.func61, Try.ntmps61
      go_wp2_with fail
      refine (l7Good_any A n c _ xs _ HR.out (Nat.le_refl _) hn _ HA.out).mono ?_
      rintro e w1 ⟨rfl, hb1⟩
      have HB1 := Lib.hid hb1
      clear hb1
      go_wp2_with fail
      refine (l1In_any _ 0 _ _ HI.out _).mono ?_
      rintro e wi ⟨rfl, rfl⟩
      go_wp2_with fail
      go_ret3
      exact ⟨_, 0, rfl, World.ownsRow_made w1 #[] 0 HB1.out.size (Nat.zero_le _) rfl, below_more HB1.out _⟩
  · have HA := Lib.hid (decide_eq_false hok)
    obtain ⟨rfl, rfl, rfl⟩ := plAns_no HH.out (fun hh => hok hh.1)
    clear hok HH
    go_enter Try.func61, Try.ntmps61
    go_wp2_with fail
    refine (l7Good_any A n c _ xs _ HR.out (Nat.le_refl _) hn _ HA.out).mono ?_
    rintro e w1 ⟨rfl, hb1⟩
    have HB1 := Lib.hid hb1
    clear hb1
    go_wp2_with fail
    go_ret3
    exact ⟨_, 0, rfl, World.ownsRow_made w1 #[] 0 HB1.out.size (Nat.zero_le _) rfl, below_more HB1.out _⟩
end Go.Proofs.Ytfdbnolifimnhaa.L7
