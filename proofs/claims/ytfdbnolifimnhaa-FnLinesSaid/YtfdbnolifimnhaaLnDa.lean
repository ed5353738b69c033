/- What impl.DriveLines answers. -/
import Derived.Test.YtfdbnolifimnhaaLnP
import Derived.Test.YtfdbnolifimnhaaLnI
import Derived.Test.YtfdbnolifimnhaaLnQ
import Derived.Test.YtfdbnolifimnhaaLinJ
import Derived.Test.YtfdbnolifimnhaaBooD
import Derived.Deep.Cut
namespace Go.Proofs.Ytfdbnolifimnhaa.L7
open Go Go.RowKit Go.Proofs.Ytfdbnolifimnhaa.Mem Go.Proofs.Ytfdbnolifimnhaa.Own Go.Proofs.Ytfdbnolifimnhaa.L6
set_option maxRecDepth 100000 in
set_option maxHeartbeats 4000000 in
theorem implDriveLines_any (A : Option Addr) (n c : Nat) (xs : List Lin) (A2 : Option Addr) (m c2 : Nat) (hs : List Bool) (w : World) (hr : Reads w w.heap.size 4 A n (FL xs)) (hc0 : A = none → n = 0 ∧ c = 0) (hn : n ≤ 1048576) (hr2 : Reads w w.heap.size 1 A2 m (FL hs)) (hm : m ≤ 1048576) (l : List Lin) (b : Bool) (h : dlAns xs hs = (l, b)) :
    Calls Try.prog 56 #[.slice A n c, .slice A2 m c2] w (ListPost w l b) := by
  have HR := Lib.hid hr
  have HC0 := Lib.hid hc0
  have HL : Hid (xs.length = n) := Lib.hid (reads_len hr)
  have HH := Lib.hid h
  clear hr hc0 h
  have HR2 := Lib.hid hr2
  have HL2 : Hid (hs.length = m) := Lib.hid (reads_len hr2)
  clear hr2
  by_cases hok : OkL xs
  · have HA := Lib.hid (decide_eq_true hok)
    by_cases hmn : m = n
    · subst hmn
      have hlen : hs.length = xs.length := by rw [HL.out, HL2.out]
      obtain ⟨rfl, rfl⟩ := dlAns_yes HH.out hok hlen
      have HLEN := Lib.hid hlen
      have hnn : ((m : Int) != m) = false := by simp
      clear hlen hok HH
      go_enter Try.func56, Try.ntmps56
      go_wp2_with fail
      refine (implAre_any A m c _ xs _ HR.out (Nat.le_refl _) hn _ HA.out).mono ?_
      rintro e w1 ⟨rfl, hb1⟩
      have HB1 := Lib.hid hb1
      clear hb1
      go_wp2_with fail
      refine (lin_clone_any A m c _ xs _ ((HR.out.below HB1.out).more HB1.out.size) HC0.out hn).mono ?_
      rintro e w2 ⟨A0, cc0, rfl, hown2, hb2⟩
      have HB2 := Lib.hid (below_then HB1.out hb2)
      have HO2 := Lib.hid (own_mono hown2 HB1.out.size)
      clear hown2 hb2
      go_wp2_with fail
      clear hnn
      go_loopw [23] (fun u wr => ∃ (k : Nat), u = .int .i64 k ∧ k ≤ m ∧ Hid (wr.ownsRow w.heap.size 58 4 (.slice A0 m cc0) m (FL (dlK xs hs k))) ∧ Hid (Below w.heap.size w wr)) (fun u _ => m - (intOf u).toNat)
      case atStart => exact ⟨0, rfl, Nat.zero_le _, Lib.hid (by rw [dlK_zero]; exact HO2.out), HB2⟩
      case round =>
        clear HO2 HB2 HB1
        obtain ⟨k, rfl, hk, HO, HB⟩ := hrel
        by_cases hlt : k < m
        · obtain ⟨g, rfl⟩ := own_head HO.out (by omega)
          obtain ⟨x, hx⟩ : ∃ x, xs[k]? = some x := ⟨_, List.getElem?_eq_getElem (by rw [HL.out]; exact hlt)⟩
          obtain ⟨b2, o2, g2, rfl, _, hv, c9⟩ := bool_at (HR2.out.below HB.out) hlt
          obtain ⟨b1, o1, x', e1, _, hu, c0, c1, c2', c3⟩ := lin_at (own_reads HO.out) hlt
          simp only [Option.some.injEq, Addr.mk.injEq, and_true] at e1
          obtain ⟨rfl, rfl⟩ := e1
          rw [dlK_at HLEN.out hx] at hu
          obtain rfl := Option.some.inj hu
          have HN := Lib.hid (dlK_succ hx hv)
          clear hu hv hx
          simp only [Nat.zero_add] at c0 c1 c2' c3
          obtain ⟨x0, x1, x2, x3⟩ := x
          simp only at c0 c1 c2' c3
          obtain ⟨q, hq⟩ : ∃ q, (if x0 = 1 then g2 else (x3 || (g2 && !x2))) = q := ⟨_, rfl⟩
          have HQ := Lib.hid hq
          have HNQ : Hid (dlK xs hs (k + 1) = (dlK xs hs k).set k ⟨x0, x1, g2, q⟩) := Lib.hid (by rw [HN.out, ← hq]; rfl)
          clear hq HN
          go_wp2_with fail
          refine (driven_c x0 x1 x2 x3 g2 q HQ.out _).mono ?_
          rintro e w3 ⟨rfl, hb3⟩
          have HO3 := Lib.hid (own_below HO.out hb3)
          have HB3 := Lib.hid (below_then HB.out hb3)
          have hgw := (HO3.out.lt g rfl).1
          clear hb3 c0 c1 c2' c3 c9 HO HB
          have hown := HO3.out
          have hfl := hown.1
          have f0 := hown.frozenAt (k * 4)
          have f1 := hown.frozenAt (k * 4 + 1)
          have f2 := hown.frozenAt (k * 4 + 2)
          have f3 := hown.frozenAt (k * 4 + 3)
          obtain ⟨y0, e0⟩ : ∃ z, w3.cell? ⟨g, k * 4, none⟩ = some z := ⟨_, (hown.cellAt (k * 4) (by omega)).trans (List.getElem?_eq_getElem (by omega))⟩
          obtain ⟨y1, e1⟩ : ∃ z, w3.cell? ⟨g, k * 4 + 1, none⟩ = some z := ⟨_, (hown.cellAt (k * 4 + 1) (by omega)).trans (List.getElem?_eq_getElem (by omega))⟩
          obtain ⟨y2, e2⟩ : ∃ z, w3.cell? ⟨g, k * 4 + 2, none⟩ = some z := ⟨_, (hown.cellAt (k * 4 + 2) (by omega)).trans (List.getElem?_eq_getElem (by omega))⟩
          obtain ⟨y3, e3⟩ : ∃ z, w3.cell? ⟨g, k * 4 + 3, none⟩ = some z := ⟨_, (hown.cellAt (k * 4 + 3) (by omega)).trans (List.getElem?_eq_getElem (by omega))⟩
          have HP := Lib.hid (lin_put hown (k := k) (by rw [dlK_len HLEN.out, HL.out]; exact hlt) ⟨x0, x1, g2, q⟩).1
          have HW := Lib.hid (below_set (below_set (below_set (below_set HB3.out hgw (j := k * 4) (.int .i64 x0)) hgw (j := k * 4 + 1) (.int .i64 x1)) hgw (j := k * 4 + 2) (.bool g2)) hgw (j := k * 4 + 3) (.bool q))
          rw [← HNQ.out] at HP
          clear hown hfl HO3 HB3 HNQ
          go_wp2_with fail
          go_roundw
          case rel => exact ⟨k + 1, by go_num, by omega, HP, HW⟩
          case measure => simp [intOf]; omega
        · have hkn : k = m := by omega
          subst hkn
          have hown := HO.out
          rw [dlK_all xs hs k HL.out HL2.out] at hown
          have HO' := Lib.hid hown
          have HZ := Lib.hid (zip_len HLEN.out)
          clear hown HO
          go_wp2_with fail
          go_ret2
          exact listPost_of (by rw [HZ.out, HL.out]) HO'.out HB.out
    · obtain ⟨rfl, rfl⟩ := dlAns_no HH.out (fun hh => hmn (by rw [← HL.out, ← HL2.out]; exact hh.2))
      have hnn : ((m : Int) != n) = true := by simp; omega
      clear hok hmn HH
      go_enter Try.func56, Try.ntmps56
      go_wp2_with fail
      refine (implAre_any A n c _ xs _ HR.out (Nat.le_refl _) hn _ HA.out).mono ?_
      rintro e w1 ⟨rfl, hb1⟩
      have HB1 := Lib.hid hb1
      clear hb1
      go_wp2_with fail
      go_ret2
      exact ⟨none, 0, rfl, World.ownsRow_nil _ _ _ _, HB1.out⟩
  · have HA := Lib.hid (decide_eq_false hok)
    obtain ⟨rfl, rfl⟩ := dlAns_no HH.out (fun hh => hok hh.1)
    clear hok HH
    go_enter Try.func56, Try.ntmps56
    go_wp2_with fail
    refine (implAre_any A n c _ xs _ HR.out (Nat.le_refl _) hn _ HA.out).mono ?_
    rintro e w1 ⟨rfl, hb1⟩
    have HB1 := Lib.hid hb1
    clear hb1
    go_wp2_with fail
    go_ret2
    exact ⟨none, 0, rfl, World.ownsRow_nil _ _ _ _, HB1.out⟩
end Go.Proofs.Ytfdbnolifimnhaa.L7
