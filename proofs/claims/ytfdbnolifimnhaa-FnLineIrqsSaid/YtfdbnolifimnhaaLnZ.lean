/- What spec.RaisedIrqs answers. -/
import Derived.Test.YtfdbnolifimnhaaLnT
import Derived.Test.YtfdbnolifimnhaaLnQ
import Derived.Test.YtfdbnolifimnhaaLnN
import Derived.Test.YtfdbnolifimnhaaHas
import Derived.Test.YtfdbnolifimnhaaPut
import Derived.Test.YtfdbnolifimnhaaInf
import Derived.Deep.Cut
namespace Go.Proofs.Ytfdbnolifimnhaa.L7
open Go Go.RowKit Go.Proofs.Ytfdbnolifimnhaa.Mem Go.Proofs.Ytfdbnolifimnhaa.Own Go.Proofs.Ytfdbnolifimnhaa.L6
set_option maxRecDepth 100000 in
set_option maxHeartbeats 4000000 in
theorem specRaised_any (A : Option Addr) (n c : Nat) (xs : List Lin) (w : World) (hr : Reads w w.heap.size 4 A n (FL xs)) (hn : n ≤ 1048576) (l : List Nat) (b : Bool) (h : iqAns pRa xs = (l, b)) :
    Calls Try.prog 66 #[.slice A n c] w (NatPost w l b) := by
  obtain ⟨i0, hi, hz0, hz1, hz2⟩ := info_parts intInfo
  have HL : Hid (xs.length = n) := Lib.hid (reads_len hr)
  have HH := Lib.hid h
  obtain ⟨wb, hwb⟩ : ∃ wb, w.alloc (.cells #[] 3) = wb := ⟨_, rfl⟩
  have hb0 : Below w.heap.size w wb := by rw [← hwb]; exact below_more (Below.refl _ _) _
  have ho0 : wb.ownsRow w.heap.size 3 1 (.slice (some ⟨w.heap.size, 0, none⟩) 0 0) 0 [] := by rw [← hwb]; exact World.ownsRow_made w #[] 0 (Nat.le_refl _) (Nat.zero_le _) rfl
  have HR := Lib.hid hr
  have HB0 := Lib.hid hb0
  have HO0 := Lib.hid ho0
  have HWB := Lib.hid hwb
  clear hr h hb0 ho0 hwb
  by_cases hok : OkL xs
  · obtain ⟨rfl, rfl⟩ := iqAns_yes HH.out hok
    have HA := Lib.hid (decide_eq_true hok)
    have HOK := Lib.hid hok
    have hn6 : n ≤ 6 := by rw [← HL.out]; exact hok.1
    clear HH hok
    go_enter Try.func66, Try.ntmps66
    go_upto_region 2 with fail
    rw [HWB.out]
    clear HWB
    go_wp2_with fail
    refine (l7Good_any A n c _ xs _ ((HR.out.below HB0.out).more HB0.out.size) (Nat.le_refl _) hn _ HA.out).mono ?_
    rintro e w1 ⟨rfl, hb1⟩
    have HB1 := Lib.hid (below_then HB0.out hb1)
    have HO1 := Lib.hid (own_below HO0.out hb1)
    clear hb1 HB0 HO0
    go_wp2_with fail
    go_loopw [4, 5] (fun u4 u5 wr => ∃ (k go m c' : Nat), u5 = .int .i64 k ∧ k ≤ n ∧ u4 = .slice (some ⟨go, 0, none⟩) m c' ∧ Hid ((rsd xs k).length = m) ∧ Hid (wr.ownsRow w.heap.size 3 1 (.slice (some ⟨go, 0, none⟩) m c') m (I (ints (rsd xs k)))) ∧ Hid (Below w.heap.size w wr)) (fun _ u5 _ => n - (intOf u5).toNat)
    case atStart => exact ⟨0, _, 0, 0, rfl, Nat.zero_le _, rfl, Lib.hid (by rw [rsd_zero]; rfl), Lib.hid (by rw [rsd_zero]; exact HO1.out), HB1⟩
    case round =>
      clear HO1 HB1
      obtain ⟨k, go, m, c', rfl, hk, rfl, HM, HO, HB⟩ := hrel
      have hm8 : m ≤ 8 := by rw [← HM.out]; exact rsd_len xs k
      by_cases hlt : k < n
      · obtain ⟨b1, o1, x, rfl, hbB, hu, c0, c1, c2, c3⟩ := lin_at (HR.out.below HB.out) hlt
        have hxo := HOK.out.2 x (List.mem_of_getElem? hu)
        obtain ⟨j0, hj0⟩ : ∃ j0 : Nat, x.iq = j0 := ⟨x.iq.toNat, by have := hxo.2.1; omega⟩
        have hj8 : j0 < 8 := by have := hxo.2.1; omega
        have HS := Lib.hid (rsd_skip hu hj0)
        have HPU := Lib.hid (rsd_put hu hj0 hj8)
        clear hu hxo c0 c2
        obtain ⟨x0, x1, x2, x3⟩ := x
        simp only at c1 c3 hj0
        subst hj0
        cases x3 with
        | false =>
          have HE : Hid (rsd xs (k + 1) = rsd xs k) := Lib.hid (HS.out (.inl rfl))
          clear HS HPU
          go_wp2_with fail
          go_roundw
          case rel => exact ⟨k + 1, go, m, c', by go_num, by omega, rfl, Lib.hid (by rw [HE.out]; exact HM.out), Lib.hid (by rw [HE.out]; exact HO.out), HB⟩
          case measure => simp [intOf]; omega
        | true =>
          obtain ⟨q, hq⟩ : ∃ q, decide ((j0 : Int) ∈ ints (rsd xs k)) = q := ⟨_, rfl⟩
          have HQ := Lib.hid hq
          go_wp2_with fail
          refine (l1Has_any _ m c' _ (ints (rsd xs k)) j0 _ (own_reads HO.out) (by omega) q HQ.out).mono ?_
          rintro e w2 ⟨rfl, rfl⟩
          cases q with
          | true =>
            have HE : Hid (rsd xs (k + 1) = rsd xs k) := Lib.hid (HS.out (.inr (mem_ints.1 (of_decide_eq_true HQ.out))))
            clear HS HPU hq
            go_wp2_with fail
            go_roundw
            case rel => exact ⟨k + 1, go, m, c', by go_num, by omega, rfl, Lib.hid (by rw [HE.out]; exact HM.out), Lib.hid (by rw [HE.out]; exact HO.out), HB⟩
            case measure => simp [intOf]; omega
          | false =>
            obtain ⟨p, hpl, hpe, hpa, hpb⟩ := HPU.out trivial (fun h => of_decide_eq_false HQ.out (mem_ints.2 h))
            rw [HM.out] at hpl
            have HE := Lib.hid hpe
            have HPA := Lib.hid hpa
            have HPB := Lib.hid hpb
            clear hpe hpa hpb HS HPU hq
            go_wp2_with fail
            refine (Go.Proofs.Ytfdbnolifimnhaa.L3.l1Put_at go m c' w.heap.size p (ints (rsd xs k)) j0 _ HO.out (by omega) hpl (fun a z ha hz => by
              obtain ⟨j, h1, rfl⟩ := ints_at hz
              have := HPA.out a j ha h1
              omega) (fun z hz => by
              obtain ⟨j, h1, rfl⟩ := ints_at hz
              have := HPB.out j h1
              omega)).mono ?_
            rintro e w3 ⟨g3, c3', rfl, hown3, hb3⟩
            have HB3 := Lib.hid (below_then HB.out hb3)
            have HO3 : Hid (w3.ownsRow w.heap.size 3 1 (.slice (some ⟨g3, 0, none⟩) (m + 1) c3') (m + 1) (I (ints (rsd xs (k + 1))))) := Lib.hid (by rw [HE.out, ints_put]; exact own_mono hown3 HB.out.size)
            have HM3 : Hid ((rsd xs (k + 1)).length = m + 1) := Lib.hid (by
              have h1 := HO3.out.1
              rw [I_len, ints_len] at h1
              omega)
            clear hown3 hb3
            go_wp2_with fail
            go_roundw
            case rel => exact ⟨k + 1, g3, m + 1, c3', by go_num, by omega, by first | rfl | simp, HM3, HO3, HB3⟩
            case measure => simp [intOf]; omega
      · have hkn : k = n := by omega
        subst hkn
        have hown := HO.out
        have hm := HM.out
        rw [rsd_all xs k HL.out] at hown hm
        have HO' := Lib.hid hown
        have HM' := Lib.hid hm
        clear HO HM hown hm
        go_wp2_with fail
        go_ret2
        refine ⟨some ⟨go, 0, none⟩, c', ?_, ?_, HB.out⟩
        · rw [HM'.out]; rfl
        · rw [HM'.out]; exact HO'.out
  · obtain ⟨rfl, rfl⟩ := iqAns_no HH.out hok
    have HA := Lib.hid (decide_eq_false hok)
    clear HH hok
    go_enter Try.func66, Try.ntmps66
    go_upto_region 2 with fail
    rw [HWB.out]
    clear HWB
    go_wp2_with fail
    refine (l7Good_any A n c _ xs _ ((HR.out.below HB0.out).more HB0.out.size) (Nat.le_refl _) hn _ HA.out).mono ?_
    rintro e w1 ⟨rfl, hb1⟩
    have HB1 := Lib.hid (below_then HB0.out hb1)
    have HO1 := Lib.hid (own_below HO0.out hb1)
    clear hb1 HB0 HO0
    go_wp2_with fail
    go_ret2
    exact ⟨_, 0, rfl, HO1.out, HB1.out⟩
end Go.Proofs.Ytfdbnolifimnhaa.L7
