/- What spec.SharedIrqs and spec.MixedIrqs answer. -/
import Derived.Test.YtfdbnolifimnhaaLnC
import Derived.Test.YtfdbnolifimnhaaLnN
import Derived.Test.YtfdbnolifimnhaaInf
import Derived.Deep.Cut
import Derived.Laws.AppendOwnNone
namespace Go.Proofs.Ytfdbnolifimnhaa.L7
open Go Go.RowKit Go.Proofs.Ytfdbnolifimnhaa.Mem Go.Proofs.Ytfdbnolifimnhaa.Own Go.Proofs.Ytfdbnolifimnhaa.L6
set_option maxRecDepth 100000 in
set_option maxHeartbeats 4000000 in
theorem specShared_any (A : Option Addr) (n c : Nat) (xs : List Lin) (w : World) (hr : Reads w w.heap.size 4 A n (FL xs)) (hn : n ≤ 1048576) (l : List Nat) (b : Bool) (h : iqAns pSh xs = (l, b)) :
    Calls Try.prog 74 #[.slice A n c] w (NatPost w l b) := by
  obtain ⟨i0, hi, hz0, hz1, hz2⟩ := info_parts intInfo
  have HL : Hid (xs.length = n) := Lib.hid (reads_len hr)
  have HH := Lib.hid h
  obtain ⟨wb, hwb⟩ : ∃ wb, w.alloc (.cells #[] 3) = wb := ⟨_, rfl⟩
  have hb0 : Below w.heap.size w wb := by rw [← hwb]; exact below_more (Below.refl _ _) _
  have ho0 : wb.ownsRow w.heap.size 3 1 (.slice (some ⟨w.heap.size, 0, none⟩) 0 0) 0 [] := by rw [← hwb]; exact World.ownsRow_made w #[] 0 (Nat.le_refl _) (Nat.zero_le _) rfl
  have HR := Lib.hid hr
  have HB0 := Lib.hid hb0
  have HO0 := Lib.hid ho0
  have HWB := Lib.hid hwb
  clear hr h hb0 ho0 hwb
  by_cases hok : OkL xs
  · obtain ⟨rfl, rfl⟩ := iqAns_yes HH.out hok
    have HA := Lib.hid (decide_eq_true hok)
    have HOK := Lib.hid hok
    have hn6 : n ≤ 6 := by rw [← HL.out]; exact hok.1
    clear HH hok
    go_enter Try.func74, Try.ntmps74
    go_upto_region 2 with fail
    rw [HWB.out]
    clear HWB
    go_wp2_with fail
    refine (l7Good_any A n c _ xs _ ((HR.out.below HB0.out).more HB0.out.size) (Nat.le_refl _) hn _ HA.out).mono ?_
    rintro e w1 ⟨rfl, hb1⟩
    have HB1 := Lib.hid (below_then HB0.out hb1)
    have HO1 := Lib.hid (own_below HO0.out hb1)
    clear hb1 HB0 HO0
    go_wp2_with fail
    go_loopw [4, 5] (fun u4 u5 wr => ∃ (k : Nat), u5 = .int .i64 k ∧ k ≤ 8 ∧ Hid (wr.ownsRow w.heap.size 3 1 u4 (irqs pSh xs k).length (I (ints (irqs pSh xs k)))) ∧ Hid (Below w.heap.size w wr)) (fun _ u5 _ => 8 - (intOf u5).toNat)
    case atStart => exact ⟨0, rfl, Nat.zero_le _, HO1, HB1⟩
    case round =>
      clear HO1 HB1
      obtain ⟨k, rfl, hk, HO, HB⟩ := hrel
      by_cases hlt : k < 8
      · obtain ⟨q, hq⟩ : ∃ q, pSh (toI xs k) = q := ⟨_, rfl⟩
        have HQ : Hid (irqs pSh xs (k + 1) = irqs pSh xs k ++ (if q = true then [k] else [])) := Lib.hid (by rw [irqs_succ, hq])
        have HPQ := Lib.hid hq
        have hlen := irqs_len pSh xs k
        obtain ⟨m, hmm⟩ : ∃ m, (irqs pSh xs k).length = m := ⟨_, rfl⟩
        rw [hmm] at HO hlen
        have HM := Lib.hid hmm
        clear hq hmm
        have hca := l7Count_any A n c _ xs k 0 wr (HR.out.below HB.out) hn6
        have hcb := l7Count_any A n c _ xs k 1 wr (HR.out.below HB.out) hn6
        have ha6 := cntK_le xs k 0
        have hb6 := cntK_le xs k 1
        have hab := cntK_two xs k (fun x hx => (HOK.out.2 x hx).1)
        have hta := cntK_toI xs k 0
        have htb := cntK_toI xs k 1
        rw [HL.out] at ha6 hb6
        obtain ⟨a, ha⟩ : ∃ a, cntK xs k 0 = a := ⟨_, rfl⟩
        obtain ⟨b, hb⟩ : ∃ a, cntK xs k 1 = a := ⟨_, rfl⟩
        rw [ha] at hca ha6 hab hta
        rw [hb] at hcb hb6 hab htb
        have HCA := Lib.hid hca
        have HCB := Lib.hid hcb
        have HAB := Lib.hid hab
        have HTA := Lib.hid hta
        have HTB := Lib.hid htb
        clear hca hcb ha hb hab hta htb
        go_wp2_with fail
        refine HCA.out.mono ?_
        rintro e w2 ⟨rfl, rfl⟩
        go_wp2_with fail
        refine HCB.out.mono ?_
        rintro e w3 ⟨rfl, rfl⟩
        have t0 : decide (2 ≤ a + b) = q := by rw [← HPQ.out]; unfold pSh; rw [← HAB.out]
        have t1 : decide ((2 : Int) ≤ (a : Int) + (b : Int)) = q := by rw [← t0]; exact decide_eq_decide.2 (by omega)
        cases q with
        | true =>
          have HN : Hid (irqs pSh xs (k + 1) = irqs pSh xs k ++ [k]) := Lib.hid (by rw [HQ.out]; rfl)
          have hown := HO.out
          have hbel := HB.out
          have hsz := hbel.size
          clear HQ
          go_wp2_with (at_builtin; refine wpList_append_own _ rfl _ _ 24 rfl w.heap.size 3 i0 (.int .i64 0) 1 8 Try.underlying24 hi hz0 hz1 hz2 rfl (by decide) _ _ _ rfl (hown.alloc _) ⟨wr.heap.size, 0, none⟩ 1 1 [.int .i64 k] rfl rfl (cell_one_new _ _ _) (fun x hx => by simp at hx; subst hx; rfl) (by unfold maxLen; omega) (by omega) (by simp; omega) ?_; intro v' w4 hown1 hgrow1 _)
          have HB4 := Lib.hid ((hbel.alloc hsz (.cells #[.int .i64 (k : Int)] 3)).grown hgrow1 (by simp; omega) (fun q hq => (hown.lt q hq).1))
          have HO4 : Hid (w4.ownsRow w.heap.size 3 1 v' (irqs pSh xs (k + 1)).length (I (ints (irqs pSh xs (k + 1))))) := Lib.hid (by rw [HN.out, List.length_append, HM.out, ← ints_snoc]; exact hown1)
          clear hown hbel hsz hown1 hgrow1
          go_roundw
          case rel => exact ⟨k + 1, by go_num, by omega, HO4, HB4⟩
          case measure => simp [intOf]; omega
        | false =>
          have HO4 : Hid (wr.ownsRow w.heap.size 3 1 u4 (irqs pSh xs (k + 1)).length (I (ints (irqs pSh xs (k + 1))))) := Lib.hid (by rw [HQ.out]; simpa [HM.out] using HO.out)
          clear HQ
          go_wp2_with fail
          go_roundw
          case rel => exact ⟨k + 1, by go_num, by omega, HO4, HB⟩
          case measure => simp [intOf]; omega
      · have hkn : k = 8 := by omega
        subst hkn
        have hown := HO.out
        obtain ⟨A', c', rfl, _, _⟩ := own_form hown
        clear HO
        go_wp2_with fail
        go_ret2
        exact ⟨A', c', rfl, hown, HB.out⟩
  · obtain ⟨rfl, rfl⟩ := iqAns_no HH.out hok
    have HA := Lib.hid (decide_eq_false hok)
    clear HH hok
    go_enter Try.func74, Try.ntmps74
    go_upto_region 2 with fail
    rw [HWB.out]
    clear HWB
    go_wp2_with fail
    refine (l7Good_any A n c _ xs _ ((HR.out.below HB0.out).more HB0.out.size) (Nat.le_refl _) hn _ HA.out).mono ?_
    rintro e w1 ⟨rfl, hb1⟩
    have HB1 := Lib.hid (below_then HB0.out hb1)
    have HO1 := Lib.hid (own_below HO0.out hb1)
    clear hb1 HB0 HO0
    go_wp2_with fail
    go_ret2
    exact ⟨_, 0, rfl, HO1.out, HB1.out⟩
set_option maxRecDepth 100000 in
set_option maxHeartbeats 4000000 in
theorem specMixed_any (A : Option Addr) (n c : Nat) (xs : List Lin) (w : World) (hr : Reads w w.heap.size 4 A n (FL xs)) (hn : n ≤ 1048576) (l : List Nat) (b : Bool) (h : iqAns pMx xs = (l, b)) :
    Calls Try.prog 73 #[.slice A n c] w (NatPost w l b) := by
  obtain ⟨i0, hi, hz0, hz1, hz2⟩ := info_parts intInfo
  have HL : Hid (xs.length = n) := Lib.hid (reads_len hr)
  have HH := Lib.hid h
  obtain ⟨wb, hwb⟩ : ∃ wb, w.alloc (.cells #[] 3) = wb := ⟨_, rfl⟩
  have hb0 : Below w.heap.size w wb := by rw [← hwb]; exact below_more (Below.refl _ _) _
  have ho0 : wb.ownsRow w.heap.size 3 1 (.slice (some ⟨w.heap.size, 0, none⟩) 0 0) 0 [] := by rw [← hwb]; exact World.ownsRow_made w #[] 0 (Nat.le_refl _) (Nat.zero_le _) rfl
  have HR := Lib.hid hr
  have HB0 := Lib.hid hb0
  have HO0 := Lib.hid ho0
  have HWB := Lib.hid hwb
  clear hr h hb0 ho0 hwb
  by_cases hok : OkL xs
  · obtain ⟨rfl, rfl⟩ := iqAns_yes HH.out hok
    have HA := Lib.hid (decide_eq_true hok)
    have HOK := Lib.hid hok
    have hn6 : n ≤ 6 := by rw [← HL.out]; exact hok.1
    clear HH hok
    go_enter Try.func73, Try.ntmps73
    go_upto_region 2 with fail
    rw [HWB.out]
    clear HWB
    go_wp2_with fail
    refine (l7Good_any A n c _ xs _ ((HR.out.below HB0.out).more HB0.out.size) (Nat.le_refl _) hn _ HA.out).mono ?_
    rintro e w1 ⟨rfl, hb1⟩
    have HB1 := Lib.hid (below_then HB0.out hb1)
    have HO1 := Lib.hid (own_below HO0.out hb1)
    clear hb1 HB0 HO0
    go_wp2_with fail
    go_loopw [4, 5] (fun u4 u5 wr => ∃ (k : Nat), u5 = .int .i64 k ∧ k ≤ 8 ∧ Hid (wr.ownsRow w.heap.size 3 1 u4 (irqs pMx xs k).length (I (ints (irqs pMx xs k)))) ∧ Hid (Below w.heap.size w wr)) (fun _ u5 _ => 8 - (intOf u5).toNat)
    case atStart => exact ⟨0, rfl, Nat.zero_le _, HO1, HB1⟩
    case round =>
      clear HO1 HB1
      obtain ⟨k, rfl, hk, HO, HB⟩ := hrel
      by_cases hlt : k < 8
      · obtain ⟨q, hq⟩ : ∃ q, pMx (toI xs k) = q := ⟨_, rfl⟩
        have HQ : Hid (irqs pMx xs (k + 1) = irqs pMx xs k ++ (if q = true then [k] else [])) := Lib.hid (by rw [irqs_succ, hq])
        have HPQ := Lib.hid hq
        have hlen := irqs_len pMx xs k
        obtain ⟨m, hmm⟩ : ∃ m, (irqs pMx xs k).length = m := ⟨_, rfl⟩
        rw [hmm] at HO hlen
        have HM := Lib.hid hmm
        clear hq hmm
        have hca := l7Count_any A n c _ xs k 0 wr (HR.out.below HB.out) hn6
        have hcb := l7Count_any A n c _ xs k 1 wr (HR.out.below HB.out) hn6
        have ha6 := cntK_le xs k 0
        have hb6 := cntK_le xs k 1
        have hab := cntK_two xs k (fun x hx => (HOK.out.2 x hx).1)
        have hta := cntK_toI xs k 0
        have htb := cntK_toI xs k 1
        rw [HL.out] at ha6 hb6
        obtain ⟨a, ha⟩ : ∃ a, cntK xs k 0 = a := ⟨_, rfl⟩
        obtain ⟨b, hb⟩ : ∃ a, cntK xs k 1 = a := ⟨_, rfl⟩
        rw [ha] at hca ha6 hab hta
        rw [hb] at hcb hb6 hab htb
        have HCA := Lib.hid hca
        have HCB := Lib.hid hcb
        have HAB := Lib.hid hab
        have HTA := Lib.hid hta
        have HTB := Lib.hid htb
        clear hca hcb ha hb hab hta htb
        obtain ⟨q0, h0⟩ : ∃ q, decide (0 < a) = q := ⟨_, rfl⟩
        obtain ⟨q1, h1⟩ : ∃ q, decide (0 < b) = q := ⟨_, rfl⟩
        have HPX : Hid ((q0 && q1) = q) := Lib.hid (by rw [← HPQ.out]; unfold pMx; rw [← h0, ← h1, HTA.out, HTB.out])
        have h0z : decide ((0 : Int) < (a : Int)) = q0 := by rw [← h0]; exact decide_eq_decide.2 (by omega)
        have h1z : decide ((0 : Int) < (b : Int)) = q1 := by rw [← h1]; exact decide_eq_decide.2 (by omega)
        cases q0 with
        | false =>
          have hqf := HPX.out
          simp at hqf
          subst hqf
          clear h1 h1z
          go_wp2_with fail
          refine HCA.out.mono ?_
          rintro e w2 ⟨rfl, rfl⟩
          have HO4 : Hid (wr.ownsRow w.heap.size 3 1 u4 (irqs pMx xs (k + 1)).length (I (ints (irqs pMx xs (k + 1))))) := Lib.hid (by rw [HQ.out]; simpa [HM.out] using HO.out)
          clear HQ
          go_wp2_with fail
          go_roundw
          case rel => exact ⟨k + 1, by go_num, by omega, HO4, HB⟩
          case measure => simp [intOf]; omega
        | true =>
          have hqf := HPX.out
          simp at hqf
          subst hqf
          go_wp2_with fail
          refine HCA.out.mono ?_
          rintro e w2 ⟨rfl, rfl⟩
          go_wp2_with fail
          refine HCB.out.mono ?_
          rintro e w3 ⟨rfl, rfl⟩
          cases q1 with
          | false =>
            have HO4 : Hid (wr.ownsRow w.heap.size 3 1 u4 (irqs pMx xs (k + 1)).length (I (ints (irqs pMx xs (k + 1))))) := Lib.hid (by rw [HQ.out]; simpa [HM.out] using HO.out)
            clear HQ
            go_wp2_with fail
            go_roundw
            case rel => exact ⟨k + 1, by go_num, by omega, HO4, HB⟩
            case measure => simp [intOf]; omega
          | true =>
            have HN : Hid (irqs pMx xs (k + 1) = irqs pMx xs k ++ [k]) := Lib.hid (by rw [HQ.out]; rfl)
            have hown := HO.out
            have hbel := HB.out
            have hsz := hbel.size
            clear HQ
            go_wp2_with (at_builtin; refine wpList_append_own _ rfl _ _ 24 rfl w.heap.size 3 i0 (.int .i64 0) 1 8 Try.underlying24 hi hz0 hz1 hz2 rfl (by decide) _ _ _ rfl (hown.alloc _) ⟨wr.heap.size, 0, none⟩ 1 1 [.int .i64 k] rfl rfl (cell_one_new _ _ _) (fun x hx => by simp at hx; subst hx; rfl) (by unfold maxLen; omega) (by omega) (by simp; omega) ?_; intro v' w4 hown1 hgrow1 _)
            have HB4 := Lib.hid ((hbel.alloc hsz (.cells #[.int .i64 (k : Int)] 3)).grown hgrow1 (by simp; omega) (fun q hq => (hown.lt q hq).1))
            have HO4 : Hid (w4.ownsRow w.heap.size 3 1 v' (irqs pMx xs (k + 1)).length (I (ints (irqs pMx xs (k + 1))))) := Lib.hid (by rw [HN.out, List.length_append, HM.out, ← ints_snoc]; exact hown1)
            clear hown hbel hsz hown1 hgrow1
            go_roundw
            case rel => exact ⟨k + 1, by go_num, by omega, HO4, HB4⟩
            case measure => simp [intOf]; omega
      · have hkn : k = 8 := by omega
        subst hkn
        have hown := HO.out
        obtain ⟨A', c', rfl, _, _⟩ := own_form hown
        clear HO
        go_wp2_with fail
        go_ret2
        exact ⟨A', c', rfl, hown, HB.out⟩
  · obtain ⟨rfl, rfl⟩ := iqAns_no HH.out hok
    have HA := Lib.hid (decide_eq_false hok)
    clear HH hok
    go_enter Try.func73, Try.ntmps73
    go_upto_region 2 with fail
    rw [HWB.out]
    clear HWB
    go_wp2_with fail
    refine (l7Good_any A n c _ xs _ ((HR.out.below HB0.out).more HB0.out.size) (Nat.le_refl _) hn _ HA.out).mono ?_
    rintro e w1 ⟨rfl, hb1⟩
    have HB1 := Lib.hid (below_then HB0.out hb1)
    have HO1 := Lib.hid (own_below HO0.out hb1)
    clear hb1 HB0 HO0
    go_wp2_with fail
    go_ret2
    exact ⟨_, 0, rfl, HO1.out, HB1.out⟩
end Go.Proofs.Ytfdbnolifimnhaa.L7
