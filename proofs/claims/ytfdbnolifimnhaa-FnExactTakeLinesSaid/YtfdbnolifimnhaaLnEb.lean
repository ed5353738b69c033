/- What spec.TakeLines answers. -/
import Derived.Test.YtfdbnolifimnhaaLnP
import Derived.Test.YtfdbnolifimnhaaLnS
import Derived.Test.YtfdbnolifimnhaaLnQ
import Derived.Test.YtfdbnolifimnhaaLnN
import Derived.Test.YtfdbnolifimnhaaLinT
import Derived.Deep.Cut
import Derived.Laws.AppendOwnNone
namespace Go.Proofs.Ytfdbnolifimnhaa.L7
open Go Go.RowKit Go.Proofs.Ytfdbnolifimnhaa.Mem Go.Proofs.Ytfdbnolifimnhaa.Own Go.Proofs.Ytfdbnolifimnhaa.L6
set_option maxRecDepth 100000 in
set_option maxHeartbeats 4000000 in
theorem specTakeLines_some (a : Addr) (n c : Nat) (xs : List Lin) (i : Int) (w : World) (hr : Reads w w.heap.size 4 (some a) n (FL xs)) (hn : n ≤ 1048576) (l : List Lin) (z : Int) (b : Bool) (h : tlAns xs i = (l, z, b)) :
    Calls Try.prog 64 #[.slice (some a) n c, .int .i64 i] w (CntPost w l z b) := by
  have HR := Lib.hid hr
  have HL : Hid (xs.length = n) := Lib.hid (reads_len hr)
  have HH := Lib.hid h
  obtain ⟨i0, hi, hz0, hz1, hz2⟩ := info_parts infoLin
  clear hr h
  by_cases hok : OkL xs
  · have HA := Lib.hid (decide_eq_true hok)
    by_cases hi8 : 0 ≤ i ∧ i < 8
    · have HI := Lib.hid (decide_eq_true hi8)
      obtain ⟨rfl, rfl, rfl⟩ := tlAns_yes HH.out hok hi8
      have HOK := Lib.hid hok
      have hn6 : n ≤ 6 := by rw [← HL.out]; exact hok.1
      clear hok HH hi8
      go_enter Try.func64, Try.ntmps64
      go_wp2_with fail
      refine (l7Good_any (some a) n c _ xs _ HR.out (Nat.le_refl _) hn _ HA.out).mono ?_
      rintro e w1 ⟨rfl, hb1⟩
      have HB1 := Lib.hid hb1
      clear hb1
      go_wp2_with fail
      refine (l6Irq_any _ _ HI.out _).mono ?_
      rintro e wi ⟨rfl, rfl⟩
      have hownE : (w1.alloc (.cells #[] 58)).ownsRow w1.heap.size 58 4 (.slice (some ⟨w1.heap.size, 0, none⟩) 0 0) 0 [] := World.ownsRow_made w1 #[] 0 (Nat.le_refl _) (Nat.zero_le _) rfl
      have hbelE : Below w.heap.size w (w1.alloc (.cells #[] 58)) := below_more HB1.out _
      have hszE := HB1.out.size
      obtain ⟨L, hL⟩ : ∃ L, L = FL xs := ⟨_, rfl⟩
      have HLE := Lib.hid hL
      have hcellsE : ∀ j u, L[j]? = some u → (w1.alloc (.cells #[] 58)).cell? (a.add j) = some u := by
        intro j u hu
        subst hL
        have hj := (List.getElem?_eq_some_iff.1 hu).1
        rw [FL_len, HL.out] at hj
        have hn0 : 0 < n := by
          rcases Nat.eq_zero_or_pos n with h0 | h0
          · rw [h0, Nat.zero_mul] at hj; omega
          · exact h0
        obtain ⟨b', off', e, hb, hc⟩ := (HR.out.below HB1.out).2 hn0
        obtain rfl := Option.some.inj e
        rw [Go.WideShapes.add_plain, World.cell?_alloc_lt _ _ _ (World.block_lt_of_cell? w1 _ (hc j u hu))]
        exact hc j u hu
      have h1E : ∀ u ∈ L, u.oneCell' = true := by rw [hL]; exact lin_one xs
      have hl2E : L.length = n * 4 := by rw [hL]; exact HR.out.1
      clear hL
      go_wp2_with (at_builtin; refine wpList_append_own _ rfl _ _ 66 rfl w1.heap.size 58 i0 (.agg #[.int .i64 0, .int .i64 0, .bool false, .bool false]) 4 24 Try.underlying66 hi hz0 hz1 hz2 rfl (by decide) _ _ _ rfl hownE a n c L rfl hl2E hcellsE h1E (by unfold maxLen; omega) (by omega) (by simp) ?_; intro v' w2 hown1 hgrow1 _)
      have HB2 := Lib.hid (hbelE.grown hgrow1 (by simp; omega) (fun q hq => Nat.le_trans hszE (hownE.lt q hq).1))
      have hown2 : w2.ownsRow w1.heap.size 58 4 v' n (FL xs) := by rw [← HLE.out]; simpa using hown1
      obtain ⟨A0, cc0, rfl, _, _⟩ := own_form hown2
      have HO2 := Lib.hid (own_mono hown2 hszE)
      clear hownE hbelE hszE hcellsE h1E hl2E hown1 hgrow1 hown2 HLE
      go_loopw [8, 9] (fun u8 u wr => ∃ (k m : Nat), u = .int .i64 k ∧ k ≤ n ∧ u8 = .int .i64 m ∧ Hid (tlN (xs.take k) i = m) ∧ Hid (wr.ownsRow w.heap.size 58 4 (.slice A0 n cc0) n (FL (tlK xs i k))) ∧ Hid (Below w.heap.size w wr)) (fun _ u _ => n - (intOf u).toNat)
      case atStart => exact ⟨0, 0, rfl, Nat.zero_le _, rfl, Lib.hid (by simp [tlN]), Lib.hid (by rw [tlK_zero]; exact HO2.out), HB2⟩
      case round =>
        clear HO2 HB2 HB1
        obtain ⟨k, m, rfl, hk, rfl, HM, HO, HB⟩ := hrel
        by_cases hlt : k < n
        · obtain ⟨g, rfl⟩ := own_head HO.out (by omega)
          obtain ⟨x, hx⟩ : ∃ x, xs[k]? = some x := ⟨_, List.getElem?_eq_getElem (by rw [HL.out]; exact hlt)⟩
          obtain ⟨b1, o1, x', e1, _, hu, c0, c1, c2', c3⟩ := lin_at (own_reads HO.out) hlt
          simp only [Option.some.injEq, Addr.mk.injEq, and_true] at e1
          obtain ⟨rfl, rfl⟩ := e1
          rw [tlK_at hx] at hu
          obtain rfl := Option.some.inj hu
          have HN := Lib.hid (tlK_succ (i := i) hx)
          have HMN := Lib.hid (tlN_succ i hx)
          have HSK := Lib.hid (tlK_skip (i := i) hx)
          have hm6 : m ≤ 6 := by have h1 := tlN_le (xs.take k) i; rw [HM.out, List.length_take, HL.out] at h1; omega
          clear hu hx
          simp only [Nat.zero_add] at c0 c1 c2' c3
          obtain ⟨x0, x1, x2, x3⟩ := x
          simp only at c0 c1 c2' c3
          have hkz : (k : Int) < n := by omega
          by_cases hj : x1 = i
          · have t1 : (x1 != i) = false := by simpa using hj
            obtain ⟨q, hq⟩ : ∃ q, (x3 && decide (x0 = 1)) = q := ⟨_, rfl⟩
            have HQ := Lib.hid hq
            have HNQ : Hid (tlK xs i (k + 1) = (tlK xs i k).set k ⟨x0, x1, x2, q⟩) := Lib.hid (by rw [HN.out, if_pos hj, ← hq]; rfl)
            have HMQ : Hid (tlN (xs.take (k + 1)) i = m + (if x3 = true then 1 else 0)) := Lib.hid (by rw [HMN.out, HM.out]; simp [hj])
            clear hj HN HMN HM hq HSK
            cases x3
            · have HMR : Hid (tlN (xs.take (k + 1)) i = m) := Lib.hid (by rw [HMQ.out]; rfl)
              clear HMQ
              go_wp2_with fail
              refine (l7Take_c x0 x1 x2 false q HQ.out _).mono ?_
              rintro e w3 ⟨rfl, hb3⟩
              have HO3 := Lib.hid (own_below HO.out hb3)
              have HB3 := Lib.hid (below_then HB.out hb3)
              have hgw := (HO3.out.lt g rfl).1
              clear hb3 c0 c1 c2' c3 HO HB
              have hown := HO3.out
              have hfl := hown.1
              have f0 := hown.frozenAt (k * 4)
              have f1 := hown.frozenAt (k * 4 + 1)
              have f2 := hown.frozenAt (k * 4 + 2)
              have f3 := hown.frozenAt (k * 4 + 3)
              obtain ⟨y0, e0⟩ : ∃ z, w3.cell? ⟨g, k * 4, none⟩ = some z := ⟨_, (hown.cellAt (k * 4) (by omega)).trans (List.getElem?_eq_getElem (by omega))⟩
              obtain ⟨y1, e1⟩ : ∃ z, w3.cell? ⟨g, k * 4 + 1, none⟩ = some z := ⟨_, (hown.cellAt (k * 4 + 1) (by omega)).trans (List.getElem?_eq_getElem (by omega))⟩
              obtain ⟨y2, e2⟩ : ∃ z, w3.cell? ⟨g, k * 4 + 2, none⟩ = some z := ⟨_, (hown.cellAt (k * 4 + 2) (by omega)).trans (List.getElem?_eq_getElem (by omega))⟩
              obtain ⟨y3, e3⟩ : ∃ z, w3.cell? ⟨g, k * 4 + 3, none⟩ = some z := ⟨_, (hown.cellAt (k * 4 + 3) (by omega)).trans (List.getElem?_eq_getElem (by omega))⟩
              have HP := Lib.hid (lin_put hown (k := k) (by rw [tlK_len, HL.out]; exact hlt) ⟨x0, x1, x2, q⟩).1
              have HW := Lib.hid (below_set (below_set (below_set (below_set HB3.out hgw (j := k * 4) (.int .i64 x0)) hgw (j := k * 4 + 1) (.int .i64 x1)) hgw (j := k * 4 + 2) (.bool x2)) hgw (j := k * 4 + 3) (.bool q))
              rw [← HNQ.out] at HP
              clear hown hfl HO3 HB3 HNQ
              go_wp2_with fail
              go_roundw
              case rel => exact ⟨k + 1, m, by go_num, by omega, by first | rfl | go_num, HMR, HP, HW⟩
              case measure => simp [intOf]; omega
            · have HMR : Hid (tlN (xs.take (k + 1)) i = m + 1) := Lib.hid (by rw [HMQ.out]; rfl)
              clear HMQ
              go_wp2_with fail
              refine (l7Take_c x0 x1 x2 true q HQ.out _).mono ?_
              rintro e w3 ⟨rfl, hb3⟩
              have HO3 := Lib.hid (own_below HO.out hb3)
              have HB3 := Lib.hid (below_then HB.out hb3)
              have hgw := (HO3.out.lt g rfl).1
              clear hb3 c0 c1 c2' c3 HO HB
              have hown := HO3.out
              have hfl := hown.1
              have f0 := hown.frozenAt (k * 4)
              have f1 := hown.frozenAt (k * 4 + 1)
              have f2 := hown.frozenAt (k * 4 + 2)
              have f3 := hown.frozenAt (k * 4 + 3)
              obtain ⟨y0, e0⟩ : ∃ z, w3.cell? ⟨g, k * 4, none⟩ = some z := ⟨_, (hown.cellAt (k * 4) (by omega)).trans (List.getElem?_eq_getElem (by omega))⟩
              obtain ⟨y1, e1⟩ : ∃ z, w3.cell? ⟨g, k * 4 + 1, none⟩ = some z := ⟨_, (hown.cellAt (k * 4 + 1) (by omega)).trans (List.getElem?_eq_getElem (by omega))⟩
              obtain ⟨y2, e2⟩ : ∃ z, w3.cell? ⟨g, k * 4 + 2, none⟩ = some z := ⟨_, (hown.cellAt (k * 4 + 2) (by omega)).trans (List.getElem?_eq_getElem (by omega))⟩
              obtain ⟨y3, e3⟩ : ∃ z, w3.cell? ⟨g, k * 4 + 3, none⟩ = some z := ⟨_, (hown.cellAt (k * 4 + 3) (by omega)).trans (List.getElem?_eq_getElem (by omega))⟩
              have HP := Lib.hid (lin_put hown (k := k) (by rw [tlK_len, HL.out]; exact hlt) ⟨x0, x1, x2, q⟩).1
              have HW := Lib.hid (below_set (below_set (below_set (below_set HB3.out hgw (j := k * 4) (.int .i64 x0)) hgw (j := k * 4 + 1) (.int .i64 x1)) hgw (j := k * 4 + 2) (.bool x2)) hgw (j := k * 4 + 3) (.bool q))
              rw [← HNQ.out] at HP
              clear hown hfl HO3 HB3 HNQ
              go_wp2_with fail
              go_roundw
              case rel => exact ⟨k + 1, m + 1, by go_num, by omega, by first | rfl | go_num, HMR, HP, HW⟩
              case measure => simp [intOf]; omega
          · have t1 : (x1 != i) = true := by simpa using hj
            have HP : Hid (wr.ownsRow w.heap.size 58 4 (.slice (some ⟨g, 0, none⟩) n cc0) n (FL (tlK xs i (k + 1)))) := Lib.hid (by rw [HSK.out hj]; exact HO.out)
            have HMQ : Hid (tlN (xs.take (k + 1)) i = m) := Lib.hid (by rw [HMN.out, HM.out, if_neg (fun hh => hj hh.1)]; rfl)
            clear hj HN HMN HM c0 c2' c3 HSK
            go_wp2_with fail
            go_roundw
            case rel => exact ⟨k + 1, m, by go_num, by omega, rfl, HMQ, HP, HB⟩
            case measure => simp [intOf]; omega
        · have hkn : k = n := by omega
          subst hkn
          have hown := HO.out
          have hm := HM.out
          rw [tlK_all xs i k HL.out] at hown
          rw [List.take_of_length_le (by rw [HL.out]; exact Nat.le_refl _)] at hm
          have HO' := Lib.hid hown
          have HM' := Lib.hid hm
          clear hown hm HO HM
          go_wp2_with fail
          go_ret3
          rw [HM'.out]
          exact cntPost_of (by unfold tlL; rw [List.length_map]; exact HL.out) HO'.out HB.out
    · have HI := Lib.hid (decide_eq_false hi8)
      obtain ⟨rfl, rfl, rfl⟩ := tlAns_no HH.out (fun hh => hi8 hh.2)
      clear hok HH hi8
      go_enter Try.func64, Try.ntmps64
      go_wp2_with fail
      refine (l7Good_any (some a) n c _ xs _ HR.out (Nat.le_refl _) hn _ HA.out).mono ?_
      rintro e w1 ⟨rfl, hb1⟩
      have HB1 := Lib.hid hb1
      clear hb1
      go_wp2_with fail
      refine (l6Irq_any _ _ HI.out _).mono ?_
      rintro e wi ⟨rfl, rfl⟩
      go_wp2_with fail
      go_ret3
      exact ⟨_, 0, rfl, World.ownsRow_made w1 #[] 0 HB1.out.size (Nat.zero_le _) rfl, below_more HB1.out _⟩
  · have HA := Lib.hid (decide_eq_false hok)
    obtain ⟨rfl, rfl, rfl⟩ := tlAns_no HH.out (fun hh => hok hh.1)
    clear hok HH
    go_enter Try.func64, Try.ntmps64
    go_wp2_with fail
    refine (l7Good_any (some a) n c _ xs _ HR.out (Nat.le_refl _) hn _ HA.out).mono ?_
    rintro e w1 ⟨rfl, hb1⟩
    have HB1 := Lib.hid hb1
    clear hb1
    go_wp2_with fail
    go_ret3
    exact ⟨_, 0, rfl, World.ownsRow_made w1 #[] 0 HB1.out.size (Nat.zero_le _) rfl, below_more HB1.out _⟩
set_option maxRecDepth 100000 in
set_option maxHeartbeats 4000000 in
theorem specTakeLines_none  (i : Int) (w : World) (l : List Lin) (z : Int) (b : Bool) (h : tlAns [] i = (l, z, b)) :
    Calls Try.prog 64 #[.slice none 0 0, .int .i64 i] w (CntPost w l z b) := by
  have HH := Lib.hid h
  obtain ⟨i0, hi, hz0, hz1, hz2⟩ := info_parts infoLin
  clear h
  by_cases hi8 : 0 ≤ i ∧ i < 8
  · have HI := Lib.hid (decide_eq_true hi8)
    obtain ⟨rfl, rfl, rfl⟩ := tlAns_yes HH.out (by decide) hi8
    clear HH hi8
    go_enter Try.func64, Try.ntmps64
    go_wp2_with fail
    refine (l7Good_any none 0 0 _ [] _ (Reads.nil_ (B := w.heap.size)) (Nat.le_refl _) (by omega) true (by rfl)).mono ?_
    rintro e w1 ⟨rfl, hb1⟩
    have HB1 := Lib.hid hb1
    clear hb1
    go_wp2_with fail
    refine (l6Irq_any _ _ HI.out _).mono ?_
    rintro e wi ⟨rfl, rfl⟩
    have hownE : (w1.alloc (.cells #[] 58)).ownsRow w1.heap.size 58 4 (.slice (some ⟨w1.heap.size, 0, none⟩) 0 0) 0 [] := World.ownsRow_made w1 #[] 0 (Nat.le_refl _) (Nat.zero_le _) rfl
    go_wp2_with (at_builtin; refine wpList_append_own_none rfl _ _ 66 rfl w1.heap.size 58 i0 4 Try.underlying66 hi _ _ _ rfl hownE rfl ?_)
    go_loopw [8, 9] (fun u8 u wr => u8 = .int .i64 0 ∧ u = .int .i64 0 ∧ wr = w1.alloc (.cells #[] 58)) (fun _ _ _ => 0)
    case atStart => exact ⟨rfl, rfl, rfl⟩
    case round =>
      obtain ⟨rfl, rfl, rfl⟩ := hrel
      go_wp2_with fail
      go_ret3
      exact ⟨_, 0, rfl, own_mono hownE HB1.out.size, below_more HB1.out _⟩
  · have HI := Lib.hid (decide_eq_false hi8)
    obtain ⟨rfl, rfl, rfl⟩ := tlAns_no HH.out (fun hh => hi8 hh.2)
    clear HH hi8
    go_enter Try.func64, Try.ntmps64
    go_wp2_with fail
    refine (l7Good_any none 0 0 _ [] _ (Reads.nil_ (B := w.heap.size)) (Nat.le_refl _) (by omega) true (by rfl)).mono ?_
    rintro e w1 ⟨rfl, hb1⟩
    have HB1 := Lib.hid hb1
    clear hb1
    go_wp2_with fail
    refine (l6Irq_any _ _ HI.out _).mono ?_
    rintro e wi ⟨rfl, rfl⟩
    go_wp2_with fail
    go_ret3
    exact ⟨_, 0, rfl, World.ownsRow_made w1 #[] 0 HB1.out.size (Nat.zero_le _) rfl, below_more HB1.out _⟩
theorem specTakeLines_any (A : Option Addr) (n c : Nat) (xs : List Lin) (i : Int) (w : World) (hr : Reads w w.heap.size 4 A n (FL xs)) (hc0 : A = none → n = 0 ∧ c = 0) (hn : n ≤ 1048576) (l : List Lin) (z : Int) (b : Bool) (h : tlAns xs i = (l, z, b)) :
    Calls Try.prog 64 #[.slice A n c, .int .i64 i] w (CntPost w l z b) := by
  cases A with
  | some a => exact specTakeLines_some a n c xs i w hr hn l z b h
  | none =>
    obtain ⟨rfl, rfl⟩ := hc0 rfl
    obtain rfl : xs = [] := List.eq_nil_of_length_eq_zero (reads_len hr)
    exact specTakeLines_none i w l z b h
end Go.Proofs.Ytfdbnolifimnhaa.L7
