/- For every code the law FnLineIrqs returns true. -/
import Derived.Test.YtfdbnolifimnhaaRows
import Derived.Test.YtfdbnolifimnhaaFrame
import Derived.Test.YtfdbnolifimnhaaDr7
import Derived.Test.YtfdbnolifimnhaaLnZ
import Derived.Test.YtfdbnolifimnhaaLnX
import Derived.Test.YtfdbnolifimnhaaLnY
import Derived.Deep.Cut
import Derived.Test.YtfdbnolifimnhaaStep
import Derived.Test.YtfdbnolifimnhaaLinA
import Derived.Test.YtfdbnolifimnhaaStepO
import Derived.Test.YtfdbnolifimnhaaInf
import Derived.Test.YtfdbnolifimnhaaLnF
import Derived.Test.YtfdbnolifimnhaaLnP
import Derived.Test.YtfdbnolifimnhaaLnI
import Derived.Test.YtfdbnolifimnhaaLnQ
import Derived.Test.YtfdbnolifimnhaaLinJ
import Derived.Test.YtfdbnolifimnhaaIsIq
import Derived.Test.YtfdbnolifimnhaaLnS
import Derived.Test.YtfdbnolifimnhaaLnN
import Derived.Test.YtfdbnolifimnhaaLinT
import Derived.Laws.AppendOwnNone
namespace Go.Proofs.Ytfdbnolifimnhaa.Own
open Go Go.RowKit Go.Proofs.Ytfdbnolifimnhaa.Mem
set_option maxRecDepth 100000 in
set_option maxHeartbeats 1000000 in
theorem rHas_any (A : Option Addr) (n c B : Nat) (zs : List Int) (x : Int) (w : World) (hr : Reads w B 1 A n (I zs)) (hn : n ≤ 1048576) (b : Bool) (hb : decide (x ∈ zs) = b) :
    Calls Try.prog 68 #[.slice A n c, .int .i64 x] w fun e w' => e = .returned (.bool b) ∧ w = w' := by
  have HL : Hid (zs.length = n) := Lib.hid (by have := hr.len; simpa [I] using this)
  have HB := Lib.hid hb
  clear hb
  go_enter Try.func68, Try.ntmps68
  go_wp2
  go_loop [5] (fun i => ∃ k : Nat, i = .int .i64 k ∧ k ≤ n ∧ Hid (∀ z ∈ zs.take k, z ≠ x)) (fun i => n - (intOf i).toNat)
  case atStart => exact ⟨0, rfl, Nat.zero_le _, Lib.hid (by simp)⟩
  case round =>
    obtain ⟨k, rfl, hk, HK⟩ := hrel
    by_cases hlt : k < n
    · obtain ⟨b1, o1, z, rfl, _, hu, hc⟩ := hr.int_at hlt
      have HU := Lib.hid hu
      clear hu
      by_cases hz : z = x
      · subst hz
        go_wp2
        go_ret
        refine ⟨?_, rfl⟩
        rw [show b = true by rw [← HB.out]; exact decide_eq_true (List.mem_of_getElem? HU.out)]
        rfl
      · have hne : (z == x) = false := by simpa using hz
        go_wp2
        go_round
        case rel =>
          refine ⟨k + 1, by go_num, by omega, Lib.hid ?_⟩
          intro y hy
          rw [List.take_add_one, HU.out] at hy
          rcases List.mem_append.1 hy with h1 | h1
          · exact HK.out y h1
          · simp at h1; subst h1; exact hz
        case measure => simp [intOf]; omega
    · have hkn : k = n := by omega
      subst hkn
      go_wp2
      go_ret
      refine ⟨?_, rfl⟩
      have hall := HK.out
      rw [List.take_of_length_le (by rw [HL.out]; exact Nat.le_refl _)] at hall
      rw [show b = false by rw [← HB.out]; exact decide_eq_false (fun h => hall x h rfl)]
      rfl
end Go.Proofs.Ytfdbnolifimnhaa.Own

namespace Go.Proofs.Ytfdbnolifimnhaa.L7
open Go Go.RowKit Go.Proofs.Ytfdbnolifimnhaa.Mem Go.Proofs.Ytfdbnolifimnhaa.Own
set_option maxRecDepth 100000 in
set_option maxHeartbeats 1000000 in
theorem rLines_same (A A' : Option Addr) (n c c' : Nat) (xs : List Lin) (w : World) (hn : n ≤ 1048576) (hx : Reads w w.heap.size 4 A n (FL xs)) (hy : Reads w w.heap.size 4 A' n (FL xs)) :
    Calls Try.prog 58 #[.slice A n c, .slice A' n c'] w fun e w' => e = .returned (.bool true) ∧ Below w.heap.size w w' := by
  go_enter Try.func58, Try.ntmps58
  go_wp2_with fail
  go_loopw [5] (fun i wr => ∃ (k j : Nat), i = .int .i64 k ∧ k ≤ n ∧ wr = w.drewN j) (fun i _ => n - (intOf i).toNat)
  case atStart => exact ⟨0, 0, rfl, Nat.zero_le _, rfl⟩
  case round =>
    obtain ⟨k, j, rfl, hk, rfl⟩ := hrel
    by_cases hlt : k < n
    · obtain ⟨b1, o1, x, rfl, _, hu, c0, c1, c2, c3⟩ := lin_at hx hlt
      obtain ⟨b2, o2, y, rfl, _, hv, d0, d1, d2, d3⟩ := lin_at hy hlt
      obtain rfl : x = y := by rw [hu] at hv; exact Option.some.inj hv
      clear hu hv
      obtain ⟨x0, x1, x2, x3⟩ := x
      simp only at c0 c1 c2 c3 d0 d1 d2 d3
      go_wp2_with fail
      go_quiet (fail)
      go_wp2_with fail
      go_roundw
      case rel => exact ⟨k + 1, _, by go_num, by omega, rfl⟩
      case measure => simp [intOf]; omega
    · go_wp2_with fail
      go_ret
      exact ⟨rfl, Go.Proofs.Ytfdbnolifimnhaa.Own.below_drewN w j⟩
end Go.Proofs.Ytfdbnolifimnhaa.L7

namespace Go.Proofs.Ytfdbnolifimnhaa.Own
open Go.RowKit Go.Proofs.Ytfdbnolifimnhaa.Mem
theorem rBig_any (A : Option Addr) (n c : Nat) (w : World) :
    Calls Try.prog 47 #[.slice A n c] w fun e w' => e = .returned (.bool (decide ((65536 : Int) < n))) ∧ w = w' := by
  go_enter Try.func47, Try.ntmps47
  go_wp2
  go_ret
  exact ⟨rfl, rfl⟩
set_option maxHeartbeats 1000000 in
theorem rInts_same (A A' : Option Addr) (n c c' : Nat) (xs : List Int) (w : World) (hn : n ≤ 1048576) (hx : Reads w w.heap.size 1 A n (I xs)) (hy : Reads w w.heap.size 1 A' n (I xs)) :
    Calls Try.prog 67 #[.slice A n c, .slice A' n c'] w fun e w' => e = .returned (.bool true) ∧ Below w.heap.size w w' := by
  go_enter Try.func67, Try.ntmps67
  go_wp2
  go_loopw [5] (fun i wr => ∃ (k j : Nat), i = .int .i64 k ∧ k ≤ n ∧ wr = w.drewN j) (fun i _ => n - (intOf i).toNat)
  case atStart => exact ⟨0, 0, rfl, Nat.zero_le _, rfl⟩
  case round =>
    obtain ⟨k, j, rfl, hk, rfl⟩ := hrel
    by_cases hlt : k < n
    · obtain ⟨b1, o1, x, rfl, _, hu, hc⟩ := hx.int_at hlt
      obtain ⟨b2, o2, y, rfl, _, hv, hc'⟩ := hy.int_at hlt
      obtain rfl : x = y := by rw [hu] at hv; exact Option.some.inj hv
      clear hu hv
      go_wp2
      go_quiet (fail)
      go_wp2
      go_roundw
      case rel => exact ⟨k + 1, _, by go_num, by omega, rfl⟩
      case measure => simp [intOf]; omega
    · go_wp2
      go_ret
      exact ⟨rfl, below_drewN w j⟩
end Go.Proofs.Ytfdbnolifimnhaa.Own

namespace Go.Proofs.Ytfdbnolifimnhaa.L7
open Go Go.RowKit Go.Proofs.Ytfdbnolifimnhaa.Mem Go.Proofs.Ytfdbnolifimnhaa.Own Go.Proofs.Ytfdbnolifimnhaa.L6
theorem raised_tells (w : World) : TellsL 145 #[] (fun x => x.ra) w := by
  intro x0 x1 x2 x3 w' _
  show Calls Try.prog 145 #[.agg #[.int .i64 x0, .int .i64 x1, .bool x2, .bool x3]] w' _
  go_enter Try.func145, Try.ntmps145
  go_wp2_with fail
  go_ret
  exact ⟨rfl, below_more (Below.refl _ _) _⟩
theorem raised1_enters : ∀ args w, (callFunc 145 args).run Try.prog w = .ok (.enter 145 args) w := enters_of Try.func145 (by kernel_rfl) rfl
theorem raised_asks : Asks 143 pRa := by
  intro A n c l w hn hr
  have HR := Lib.hid hr
  clear hr
  go_enter Try.func143, Try.ntmps143
  go_wp2_with fail
  refine (containsFunc_any A n c _ #[] _ raised1_enters l _ HR.out (by omega) (raised_tells _)).mono ?_
  rintro e w1 ⟨rfl, hb⟩
  go_wp2_with fail
  go_ret
  exact ⟨rfl, hb⟩
theorem raised_enters : ∀ args w, (callFunc 143 args).run Try.prog w = .ok (.enter 143 args) w := enters_of Try.func143 (by kernel_rfl) rfl
theorem implRaised_any (A : Option Addr) (n c : Nat) (xs : List Lin) (w : World) (hr : Reads w w.heap.size 4 A n (FL xs)) (hn : n ≤ 1048576) (l : List Nat) (b : Bool) (h : iqAns pRa xs = (l, b)) :
    Calls Try.prog 65 #[.slice A n c] w (NatPost w l b) := by
  have HR := Lib.hid hr
  have HH := Lib.hid h
  clear hr h
  go_enter Try.func65, Try.ntmps65
  go_wp2_with fail
  refine (irqsWhose_any _ pRa raised_asks raised_enters A n c xs _ HR.out hn l b HH.out).mono ?_
  rintro e w1 ⟨A', c', rfl, hown, hb⟩
  go_wp2_with fail
  go_ret2
  exact ⟨A', c', rfl, hown, hb⟩
end Go.Proofs.Ytfdbnolifimnhaa.L7

namespace Go.Proofs.Ytfdbnolifimnhaa.L7
open Go Go.RowKit Go.Proofs.Ytfdbnolifimnhaa.Mem Go.Proofs.Ytfdbnolifimnhaa.Own Go.Proofs.Ytfdbnolifimnhaa.L6
set_option maxRecDepth 100000 in
set_option maxHeartbeats 4000000 in
theorem implTakeLines_any (A : Option Addr) (n c : Nat) (xs : List Lin) (i : Int) (w : World) (hr : Reads w w.heap.size 4 A n (FL xs)) (hc0 : A = none → n = 0 ∧ c = 0) (hn : n ≤ 1048576) (l : List Lin) (z : Int) (b : Bool) (h : tlAns xs i = (l, z, b)) :
    Calls Try.prog 63 #[.slice A n c, .int .i64 i] w (CntPost w l z b) := by
  have HR := Lib.hid hr
  have HC0 := Lib.hid hc0
  have HL : Hid (xs.length = n) := Lib.hid (reads_len hr)
  have HH := Lib.hid h
  clear hr hc0 h
  by_cases hok : OkL xs
  · have HA := Lib.hid (decide_eq_true hok)
    by_cases hi8 : 0 ≤ i ∧ i < 8
    · have HI := Lib.hid (decide_eq_true hi8)
      obtain ⟨rfl, rfl, rfl⟩ := tlAns_yes HH.out hok hi8
      have HOK := Lib.hid hok
      have hn6 : n ≤ 6 := by rw [← HL.out]; exact hok.1
      clear hok HH hi8
      go_enter Try.func63, Try.ntmps63
      go_wp2_with fail
      refine (implAre_any A n c _ xs _ HR.out (Nat.le_refl _) hn _ HA.out).mono ?_
      rintro e w1 ⟨rfl, hb1⟩
      have HB1 := Lib.hid hb1
      clear hb1
      go_wp2_with fail
      refine (isIrq_any _ _ HI.out _).mono ?_
      rintro e wi ⟨rfl, rfl⟩
      go_wp2_with fail
      refine (lin_clone_any A n c _ xs _ ((HR.out.below HB1.out).more HB1.out.size) HC0.out hn).mono ?_
      rintro e w2 ⟨A0, cc0, rfl, hown2, hb2⟩
      have HB2 := Lib.hid (below_then HB1.out hb2)
      have HO2 := Lib.hid (own_mono hown2 HB1.out.size)
      clear hown2 hb2
      go_wp2_with fail
      go_loopw [8, 26] (fun u8 u wr => ∃ (k m : Nat), u = .int .i64 k ∧ k ≤ n ∧ u8 = .int .i64 m ∧ Hid (tlN (xs.take k) i = m) ∧ Hid (wr.ownsRow w.heap.size 58 4 (.slice A0 n cc0) n (FL (tlK xs i k))) ∧ Hid (Below w.heap.size w wr)) (fun _ u _ => n - (intOf u).toNat)
      case atStart => exact ⟨0, 0, rfl, Nat.zero_le _, rfl, Lib.hid (by simp [tlN]), Lib.hid (by rw [tlK_zero]; exact HO2.out), HB2⟩
      case round =>
        clear HO2 HB2 HB1
        obtain ⟨k, m, rfl, hk, rfl, HM, HO, HB⟩ := hrel
        by_cases hlt : k < n
        · obtain ⟨g, rfl⟩ := own_head HO.out (by omega)
          obtain ⟨b1, o1, x, rfl, hbB, hu, c0, c1, c2', c3⟩ := lin_at (HR.out.below HB.out) hlt
          have HOX := Lib.hid (HOK.out.2 x (List.mem_of_getElem? hu))
          have HN := Lib.hid (tlK_succ (i := i) hu)
          have HMN := Lib.hid (tlN_succ i hu)
          have HSK := Lib.hid (tlK_skip (i := i) hu)
          have hm6 : m ≤ 6 := by have h1 := tlN_le (xs.take k) i; rw [HM.out, List.length_take, HL.out] at h1; omega
          clear hu
          obtain ⟨x0, x1, x2, x3⟩ := x
          simp only at c0 c1 c2' c3
          obtain ⟨wx, hwx⟩ : ∃ wx, wr.alloc (.cells #[.int .i64 x0, .int .i64 x1, .bool x2, .bool x3] 58) = wx := ⟨_, rfl⟩
          have hbx : Below wr.heap.size wr wx := by rw [← hwx]; exact below_more (Below.refl _ _) _
          have hx : Blk wx wr.heap.size 58 #[.int .i64 x0, .int .i64 x1, .bool x2, .bool x3] := by rw [← hwx]; exact Blk.new _ _ _
          have HX := Lib.hid hx
          have HOW := Lib.hid (own_below HO.out hbx)
          have HBW := Lib.hid (below_then HB.out hbx)
          have HWX := Lib.hid hwx
          clear hx hwx hbx HO HB
          go_upto_region 7 with fail
          rw [HWX.out]
          have d0 := HX.out.cell 0 _ rfl
          have d1 := HX.out.cell 1 _ rfl
          have d2 := HX.out.cell 2 _ rfl
          have d3 := HX.out.cell 3 _ rfl
          clear HWX c0 c1 c2' c3
          by_cases hj : x1 = i
          · have t1 : (x1 != i) = false := by simpa using hj
            obtain ⟨q, hq⟩ : ∃ q, (x3 && decide (x0 = 1)) = q := ⟨_, rfl⟩
            have HT : Hid (tkAns ⟨x0, x1, x2, x3⟩ = (⟨x0, x1, x2, q⟩, x3, true)) := Lib.hid (by unfold tkAns; rw [if_pos HOX.out, ← hq]; rfl)
            have HNQ : Hid (tlK xs i (k + 1) = (tlK xs i k).set k ⟨x0, x1, x2, q⟩) := Lib.hid (by rw [HN.out, if_pos hj, ← hq]; rfl)
            have HMQ : Hid (tlN (xs.take (k + 1)) i = m + (if x3 = true then 1 else 0)) := Lib.hid (by rw [HMN.out, HM.out]; simp [hj])
            clear hj HN HMN HM hq HSK
            go_wp2_with fail
            refine (implTake_any x0 x1 x2 x3 x0 x1 x2 q x3 true _ HT.out).mono ?_
            rintro e w3 ⟨rfl, hb3⟩
            have hb4 := below_then hb3 (below_more (Below.refl w3.heap.size w3) (.cells #[.int .i64 x0, .int .i64 x1, .bool x2, .bool q] 58))
            obtain ⟨wy, hwy⟩ : ∃ wy, w3.alloc (.cells #[.int .i64 x0, .int .i64 x1, .bool x2, .bool q] 58) = wy := ⟨_, rfl⟩
            have hy : Blk wy w3.heap.size 58 #[.int .i64 x0, .int .i64 x1, .bool x2, .bool q] := by rw [← hwy]; exact Blk.new _ _ _
            rw [hwy] at hb4
            have HY := Lib.hid hy
            have HO3 := Lib.hid (own_below HOW.out hb4)
            have HB3 := Lib.hid (below_then HBW.out hb4)
            have HWY := Lib.hid hwy
            have hgw := (HO3.out.lt g rfl).1
            clear hb3 hb4 hy hwy d0 d1 d2 d3 HOW HBW HX
            go_upto_region 9 with fail
            rw [HWY.out]
            clear HWY
            have d0 := HY.out.cell 0 _ rfl
            have d1 := HY.out.cell 1 _ rfl
            have d2 := HY.out.cell 2 _ rfl
            have d3 := HY.out.cell 3 _ rfl
            have hown := HO3.out
            have hfl := hown.1
            have f0 := hown.frozenAt (k * 4)
            have f1 := hown.frozenAt (k * 4 + 1)
            have f2 := hown.frozenAt (k * 4 + 2)
            have f3 := hown.frozenAt (k * 4 + 3)
            obtain ⟨y0, e0⟩ : ∃ z, wy.cell? ⟨g, k * 4, none⟩ = some z := ⟨_, (hown.cellAt (k * 4) (by omega)).trans (List.getElem?_eq_getElem (by omega))⟩
            obtain ⟨y1, e1⟩ : ∃ z, wy.cell? ⟨g, k * 4 + 1, none⟩ = some z := ⟨_, (hown.cellAt (k * 4 + 1) (by omega)).trans (List.getElem?_eq_getElem (by omega))⟩
            obtain ⟨y2, e2⟩ : ∃ z, wy.cell? ⟨g, k * 4 + 2, none⟩ = some z := ⟨_, (hown.cellAt (k * 4 + 2) (by omega)).trans (List.getElem?_eq_getElem (by omega))⟩
            obtain ⟨y3, e3⟩ : ∃ z, wy.cell? ⟨g, k * 4 + 3, none⟩ = some z := ⟨_, (hown.cellAt (k * 4 + 3) (by omega)).trans (List.getElem?_eq_getElem (by omega))⟩
            have HP := Lib.hid (lin_put hown (k := k) (by rw [tlK_len, HL.out]; exact hlt) ⟨x0, x1, x2, q⟩).1
            have HW := Lib.hid (below_set (below_set (below_set (below_set HB3.out hgw (j := k * 4) (.int .i64 x0)) hgw (j := k * 4 + 1) (.int .i64 x1)) hgw (j := k * 4 + 2) (.bool x2)) hgw (j := k * 4 + 3) (.bool q))
            rw [← HNQ.out] at HP
            clear hown hfl HO3 HB3 HNQ
            cases x3 with
            | true =>
              go_wp2_with fail
              go_roundw
              case rel => exact ⟨k + 1, m + 1, by go_num, by omega, by go_num, Lib.hid HMQ.out, HP, HW⟩
              case measure => simp [intOf]; omega
            | false =>
              go_wp2_with fail
              go_roundw
              case rel => exact ⟨k + 1, m, by go_num, by omega, rfl, Lib.hid HMQ.out, HP, HW⟩
              case measure => simp [intOf]; omega
          · have t1 : (x1 != i) = true := by simpa using hj
            have HP : Hid (wx.ownsRow w.heap.size 58 4 (.slice (some ⟨g, 0, none⟩) n cc0) n (FL (tlK xs i (k + 1)))) := Lib.hid (by rw [HSK.out hj]; exact HOW.out)
            have HMQ : Hid (tlN (xs.take (k + 1)) i = m) := Lib.hid (by rw [HMN.out, HM.out, if_neg (fun hh => hj hh.1)]; rfl)
            clear hj HN HMN HM d0 d2 d3 HSK
            go_wp2_with fail
            go_roundw
            case rel => exact ⟨k + 1, m, by go_num, by omega, rfl, HMQ, HP, HBW⟩
            case measure => simp [intOf]; omega
        · have hkn : k = n := by omega
          subst hkn
          have hown := HO.out
          have hm := HM.out
          rw [tlK_all xs i k HL.out] at hown
          rw [List.take_of_length_le (by rw [HL.out]; exact Nat.le_refl _)] at hm
          have HO' := Lib.hid hown
          have HM' := Lib.hid hm
          clear hown hm HO HM
          go_wp2_with fail
          go_ret3
          rw [HM'.out]
          exact cntPost_of (by unfold tlL; rw [List.length_map]; exact HL.out) HO'.out HB.out
    · have HI := Lib.hid (decide_eq_false hi8)
      obtain ⟨rfl, rfl, rfl⟩ := tlAns_no HH.out (fun hh => hi8 hh.2)
      clear hok HH hi8
      go_enter Try.func63, Try.ntmps63
      go_wp2_with fail
      refine (implAre_any A n c _ xs _ HR.out (Nat.le_refl _) hn _ HA.out).mono ?_
      rintro e w1 ⟨rfl, hb1⟩
      have HB1 := Lib.hid hb1
      clear hb1
      go_wp2_with fail
      refine (isIrq_any _ _ HI.out _).mono ?_
      rintro e wi ⟨rfl, rfl⟩
      go_wp2_with fail
      go_ret3
      exact ⟨none, 0, rfl, World.ownsRow_nil _ _ _ _, HB1.out⟩
  · have HA := Lib.hid (decide_eq_false hok)
    obtain ⟨rfl, rfl, rfl⟩ := tlAns_no HH.out (fun hh => hok hh.1)
    clear hok HH
    go_enter Try.func63, Try.ntmps63
    go_wp2_with fail
    refine (implAre_any A n c _ xs _ HR.out (Nat.le_refl _) hn _ HA.out).mono ?_
    rintro e w1 ⟨rfl, hb1⟩
    have HB1 := Lib.hid hb1
    clear hb1
    go_wp2_with fail
    go_ret3
    exact ⟨none, 0, rfl, World.ownsRow_nil _ _ _ _, HB1.out⟩
end Go.Proofs.Ytfdbnolifimnhaa.L7

namespace Go.Proofs.Ytfdbnolifimnhaa.L7
open Go Go.RowKit Go.Proofs.Ytfdbnolifimnhaa.Mem Go.Proofs.Ytfdbnolifimnhaa.Own Go.Proofs.Ytfdbnolifimnhaa.L6
set_option maxRecDepth 100000 in
set_option maxHeartbeats 4000000 in
theorem specTakeLines_some (a : Addr) (n c : Nat) (xs : List Lin) (i : Int) (w : World) (hr : Reads w w.heap.size 4 (some a) n (FL xs)) (hn : n ≤ 1048576) (l : List Lin) (z : Int) (b : Bool) (h : tlAns xs i = (l, z, b)) :
    Calls Try.prog 64 #[.slice (some a) n c, .int .i64 i] w (CntPost w l z b) := by
  have HR := Lib.hid hr
  have HL : Hid (xs.length = n) := Lib.hid (reads_len hr)
  have HH := Lib.hid h
  obtain ⟨i0, hi, hz0, hz1, hz2⟩ := info_parts infoLin
  clear hr h
  by_cases hok : OkL xs
  · have HA := Lib.hid (decide_eq_true hok)
    by_cases hi8 : 0 ≤ i ∧ i < 8
    · have HI := Lib.hid (decide_eq_true hi8)
      obtain ⟨rfl, rfl, rfl⟩ := tlAns_yes HH.out hok hi8
      have HOK := Lib.hid hok
      have hn6 : n ≤ 6 := by rw [← HL.out]; exact hok.1
      clear hok HH hi8
      go_enter Try.func64, Try.ntmps64
      go_wp2_with fail
      refine (l7Good_any (some a) n c _ xs _ HR.out (Nat.le_refl _) hn _ HA.out).mono ?_
      rintro e w1 ⟨rfl, hb1⟩
      have HB1 := Lib.hid hb1
      clear hb1
      go_wp2_with fail
      refine (l6Irq_any _ _ HI.out _).mono ?_
      rintro e wi ⟨rfl, rfl⟩
      have hownE : (w1.alloc (.cells #[] 58)).ownsRow w1.heap.size 58 4 (.slice (some ⟨w1.heap.size, 0, none⟩) 0 0) 0 [] := World.ownsRow_made w1 #[] 0 (Nat.le_refl _) (Nat.zero_le _) rfl
      have hbelE : Below w.heap.size w (w1.alloc (.cells #[] 58)) := below_more HB1.out _
      have hszE := HB1.out.size
      obtain ⟨L, hL⟩ : ∃ L, L = FL xs := ⟨_, rfl⟩
      have HLE := Lib.hid hL
      have hcellsE : ∀ j u, L[j]? = some u → (w1.alloc (.cells #[] 58)).cell? (a.add j) = some u := by
        intro j u hu
        subst hL
        have hj := (List.getElem?_eq_some_iff.1 hu).1
        rw [FL_len, HL.out] at hj
        have hn0 : 0 < n := by
          rcases Nat.eq_zero_or_pos n with h0 | h0
          · rw [h0, Nat.zero_mul] at hj; omega
          · exact h0
        obtain ⟨b', off', e, hb, hc⟩ := (HR.out.below HB1.out).2 hn0
        obtain rfl := Option.some.inj e
        rw [Go.WideShapes.add_plain, World.cell?_alloc_lt _ _ _ (World.block_lt_of_cell? w1 _ (hc j u hu))]
        exact hc j u hu
      have h1E : ∀ u ∈ L, u.oneCell' = true := by rw [hL]; exact lin_one xs
      have hl2E : L.length = n * 4 := by rw [hL]; exact HR.out.1
      clear hL
      go_wp2_with (at_builtin; refine wpList_append_own _ rfl _ _ 66 rfl w1.heap.size 58 i0 (.agg #[.int .i64 0, .int .i64 0, .bool false, .bool false]) 4 24 Try.underlying66 hi hz0 hz1 hz2 rfl (by decide) _ _ _ rfl hownE a n c L rfl hl2E hcellsE h1E (by unfold maxLen; omega) (by omega) (by simp) ?_; intro v' w2 hown1 hgrow1 _)
      have HB2 := Lib.hid (hbelE.grown hgrow1 (by simp; omega) (fun q hq => Nat.le_trans hszE (hownE.lt q hq).1))
      have hown2 : w2.ownsRow w1.heap.size 58 4 v' n (FL xs) := by rw [← HLE.out]; simpa using hown1
      obtain ⟨A0, cc0, rfl, _, _⟩ := own_form hown2
      have HO2 := Lib.hid (own_mono hown2 hszE)
      clear hownE hbelE hszE hcellsE h1E hl2E hown1 hgrow1 hown2 HLE
      go_loopw [8, 9] (fun u8 u wr => ∃ (k m : Nat), u = .int .i64 k ∧ k ≤ n ∧ u8 = .int .i64 m ∧ Hid (tlN (xs.take k) i = m) ∧ Hid (wr.ownsRow w.heap.size 58 4 (.slice A0 n cc0) n (FL (tlK xs i k))) ∧ Hid (Below w.heap.size w wr)) (fun _ u _ => n - (intOf u).toNat)
      case atStart => exact ⟨0, 0, rfl, Nat.zero_le _, rfl, Lib.hid (by simp [tlN]), Lib.hid (by rw [tlK_zero]; exact HO2.out), HB2⟩
      case round =>
        clear HO2 HB2 HB1
        obtain ⟨k, m, rfl, hk, rfl, HM, HO, HB⟩ := hrel
        by_cases hlt : k < n
        · obtain ⟨g, rfl⟩ := own_head HO.out (by omega)
          obtain ⟨x, hx⟩ : ∃ x, xs[k]? = some x := ⟨_, List.getElem?_eq_getElem (by rw [HL.out]; exact hlt)⟩
          obtain ⟨b1, o1, x', e1, _, hu, c0, c1, c2', c3⟩ := lin_at (own_reads HO.out) hlt
          simp only [Option.some.injEq, Addr.mk.injEq, and_true] at e1
          obtain ⟨rfl, rfl⟩ := e1
          rw [tlK_at hx] at hu
          obtain rfl := Option.some.inj hu
          have HN := Lib.hid (tlK_succ (i := i) hx)
          have HMN := Lib.hid (tlN_succ i hx)
          have HSK := Lib.hid (tlK_skip (i := i) hx)
          have hm6 : m ≤ 6 := by have h1 := tlN_le (xs.take k) i; rw [HM.out, List.length_take, HL.out] at h1; omega
          clear hu hx
          simp only [Nat.zero_add] at c0 c1 c2' c3
          obtain ⟨x0, x1, x2, x3⟩ := x
          simp only at c0 c1 c2' c3
          have hkz : (k : Int) < n := by omega
          by_cases hj : x1 = i
          · have t1 : (x1 != i) = false := by simpa using hj
            obtain ⟨q, hq⟩ : ∃ q, (x3 && decide (x0 = 1)) = q := ⟨_, rfl⟩
            have HQ := Lib.hid hq
            have HNQ : Hid (tlK xs i (k + 1) = (tlK xs i k).set k ⟨x0, x1, x2, q⟩) := Lib.hid (by rw [HN.out, if_pos hj, ← hq]; rfl)
            have HMQ : Hid (tlN (xs.take (k + 1)) i = m + (if x3 = true then 1 else 0)) := Lib.hid (by rw [HMN.out, HM.out]; simp [hj])
            clear hj HN HMN HM hq HSK
            cases x3
            · have HMR : Hid (tlN (xs.take (k + 1)) i = m) := Lib.hid (by rw [HMQ.out]; rfl)
              clear HMQ
              go_wp2_with fail
              refine (l7Take_c x0 x1 x2 false q HQ.out _).mono ?_
              rintro e w3 ⟨rfl, hb3⟩
              have HO3 := Lib.hid (own_below HO.out hb3)
              have HB3 := Lib.hid (below_then HB.out hb3)
              have hgw := (HO3.out.lt g rfl).1
              clear hb3 c0 c1 c2' c3 HO HB
              have hown := HO3.out
              have hfl := hown.1
              have f0 := hown.frozenAt (k * 4)
              have f1 := hown.frozenAt (k * 4 + 1)
              have f2 := hown.frozenAt (k * 4 + 2)
              have f3 := hown.frozenAt (k * 4 + 3)
              obtain ⟨y0, e0⟩ : ∃ z, w3.cell? ⟨g, k * 4, none⟩ = some z := ⟨_, (hown.cellAt (k * 4) (by omega)).trans (List.getElem?_eq_getElem (by omega))⟩
              obtain ⟨y1, e1⟩ : ∃ z, w3.cell? ⟨g, k * 4 + 1, none⟩ = some z := ⟨_, (hown.cellAt (k * 4 + 1) (by omega)).trans (List.getElem?_eq_getElem (by omega))⟩
              obtain ⟨y2, e2⟩ : ∃ z, w3.cell? ⟨g, k * 4 + 2, none⟩ = some z := ⟨_, (hown.cellAt (k * 4 + 2) (by omega)).trans (List.getElem?_eq_getElem (by omega))⟩
              obtain ⟨y3, e3⟩ : ∃ z, w3.cell? ⟨g, k * 4 + 3, none⟩ = some z := ⟨_, (hown.cellAt (k * 4 + 3) (by omega)).trans (List.getElem?_eq_getElem (by omega))⟩
              have HP := Lib.hid (lin_put hown (k := k) (by rw [tlK_len, HL.out]; exact hlt) ⟨x0, x1, x2, q⟩).1
              have HW := Lib.hid (below_set (below_set (below_set (below_set HB3.out hgw (j := k * 4) (.int .i64 x0)) hgw (j := k * 4 + 1) (.int .i64 x1)) hgw (j := k * 4 + 2) (.bool x2)) hgw (j := k * 4 + 3) (.bool q))
              rw [← HNQ.out] at HP
              clear hown hfl HO3 HB3 HNQ
              go_wp2_with fail
              go_roundw
              case rel => exact ⟨k + 1, m, by go_num, by omega, by first | rfl | go_num, HMR, HP, HW⟩
              case measure => simp [intOf]; omega
            · have HMR : Hid (tlN (xs.take (k + 1)) i = m + 1) := Lib.hid (by rw [HMQ.out]; rfl)
              clear HMQ
              go_wp2_with fail
              refine (l7Take_c x0 x1 x2 true q HQ.out _).mono ?_
              rintro e w3 ⟨rfl, hb3⟩
              have HO3 := Lib.hid (own_below HO.out hb3)
              have HB3 := Lib.hid (below_then HB.out hb3)
              have hgw := (HO3.out.lt g rfl).1
              clear hb3 c0 c1 c2' c3 HO HB
              have hown := HO3.out
              have hfl := hown.1
              have f0 := hown.frozenAt (k * 4)
              have f1 := hown.frozenAt (k * 4 + 1)
              have f2 := hown.frozenAt (k * 4 + 2)
              have f3 := hown.frozenAt (k * 4 + 3)
              obtain ⟨y0, e0⟩ : ∃ z, w3.cell? ⟨g, k * 4, none⟩ = some z := ⟨_, (hown.cellAt (k * 4) (by omega)).trans (List.getElem?_eq_getElem (by omega))⟩
              obtain ⟨y1, e1⟩ : ∃ z, w3.cell? ⟨g, k * 4 + 1, none⟩ = some z := ⟨_, (hown.cellAt (k * 4 + 1) (by omega)).trans (List.getElem?_eq_getElem (by omega))⟩
              obtain ⟨y2, e2⟩ : ∃ z, w3.cell? ⟨g, k * 4 + 2, none⟩ = some z := ⟨_, (hown.cellAt (k * 4 + 2) (by omega)).trans (List.getElem?_eq_getElem (by omega))⟩
              obtain ⟨y3, e3⟩ : ∃ z, w3.cell? ⟨g, k * 4 + 3, none⟩ = some z := ⟨_, (hown.cellAt (k * 4 + 3) (by omega)).trans (List.getElem?_eq_getElem (by omega))⟩
              have HP := Lib.hid (lin_put hown (k := k) (by rw [tlK_len, HL.out]; exact hlt) ⟨x0, x1, x2, q⟩).1
              have HW := Lib.hid (below_set (below_set (below_set (below_set HB3.out hgw (j := k * 4) (.int .i64 x0)) hgw (j := k * 4 + 1) (.int .i64 x1)) hgw (j := k * 4 + 2) (.bool x2)) hgw (j := k * 4 + 3) (.bool q))
              rw [← HNQ.out] at HP
              clear hown hfl HO3 HB3 HNQ
              go_wp2_with fail
              go_roundw
              case rel => exact ⟨k + 1, m + 1, by go_num, by omega, by first | rfl | go_num, HMR, HP, HW⟩
              case measure => simp [intOf]; omega
          · have t1 : (x1 != i) = true := by simpa using hj
            have HP : Hid (wr.ownsRow w.heap.size 58 4 (.slice (some ⟨g, 0, none⟩) n cc0) n (FL (tlK xs i (k + 1)))) := Lib.hid (by rw [HSK.out hj]; exact HO.out)
            have HMQ : Hid (tlN (xs.take (k + 1)) i = m) := Lib.hid (by rw [HMN.out, HM.out, if_neg (fun hh => hj hh.1)]; rfl)
            clear hj HN HMN HM c0 c2' c3 HSK
            go_wp2_with fail
            go_roundw
            case rel => exact ⟨k + 1, m, by go_num, by omega, rfl, HMQ, HP, HB⟩
            case measure => simp [intOf]; omega
        · have hkn : k = n := by omega
          subst hkn
          have hown := HO.out
          have hm := HM.out
          rw [tlK_all xs i k HL.out] at hown
          rw [List.take_of_length_le (by rw [HL.out]; exact Nat.le_refl _)] at hm
          have HO' := Lib.hid hown
          have HM' := Lib.hid hm
          clear hown hm HO HM
          go_wp2_with fail
          go_ret3
          rw [HM'.out]
          exact cntPost_of (by unfold tlL; rw [List.length_map]; exact HL.out) HO'.out HB.out
    · have HI := Lib.hid (decide_eq_false hi8)
      obtain ⟨rfl, rfl, rfl⟩ := tlAns_no HH.out (fun hh => hi8 hh.2)
      clear hok HH hi8
      go_enter Try.func64, Try.ntmps64
      go_wp2_with fail
      refine (l7Good_any (some a) n c _ xs _ HR.out (Nat.le_refl _) hn _ HA.out).mono ?_
      rintro e w1 ⟨rfl, hb1⟩
      have HB1 := Lib.hid hb1
      clear hb1
      go_wp2_with fail
      refine (l6Irq_any _ _ HI.out _).mono ?_
      rintro e wi ⟨rfl, rfl⟩
      go_wp2_with fail
      go_ret3
      exact ⟨_, 0, rfl, World.ownsRow_made w1 #[] 0 HB1.out.size (Nat.zero_le _) rfl, below_more HB1.out _⟩
  · have HA := Lib.hid (decide_eq_false hok)
    obtain ⟨rfl, rfl, rfl⟩ := tlAns_no HH.out (fun hh => hok hh.1)
    clear hok HH
    go_enter Try.func64, Try.ntmps64
    go_wp2_with fail
    refine (l7Good_any (some a) n c _ xs _ HR.out (Nat.le_refl _) hn _ HA.out).mono ?_
    rintro e w1 ⟨rfl, hb1⟩
    have HB1 := Lib.hid hb1
    clear hb1
    go_wp2_with fail
    go_ret3
    exact ⟨_, 0, rfl, World.ownsRow_made w1 #[] 0 HB1.out.size (Nat.zero_le _) rfl, below_more HB1.out _⟩
set_option maxRecDepth 100000 in
set_option maxHeartbeats 4000000 in
theorem specTakeLines_none  (i : Int) (w : World) (l : List Lin) (z : Int) (b : Bool) (h : tlAns [] i = (l, z, b)) :
    Calls Try.prog 64 #[.slice none 0 0, .int .i64 i] w (CntPost w l z b) := by
  have HH := Lib.hid h
  obtain ⟨i0, hi, hz0, hz1, hz2⟩ := info_parts infoLin
  clear h
  by_cases hi8 : 0 ≤ i ∧ i < 8
  · have HI := Lib.hid (decide_eq_true hi8)
    obtain ⟨rfl, rfl, rfl⟩ := tlAns_yes HH.out (by decide) hi8
    clear HH hi8
    go_enter Try.func64, Try.ntmps64
    go_wp2_with fail
    refine (l7Good_any none 0 0 _ [] _ (Reads.nil_ (B := w.heap.size)) (Nat.le_refl _) (by omega) true (by rfl)).mono ?_
    rintro e w1 ⟨rfl, hb1⟩
    have HB1 := Lib.hid hb1
    clear hb1
    go_wp2_with fail
    refine (l6Irq_any _ _ HI.out _).mono ?_
    rintro e wi ⟨rfl, rfl⟩
    have hownE : (w1.alloc (.cells #[] 58)).ownsRow w1.heap.size 58 4 (.slice (some ⟨w1.heap.size, 0, none⟩) 0 0) 0 [] := World.ownsRow_made w1 #[] 0 (Nat.le_refl _) (Nat.zero_le _) rfl
    go_wp2_with (at_builtin; refine wpList_append_own_none rfl _ _ 66 rfl w1.heap.size 58 i0 4 Try.underlying66 hi _ _ _ rfl hownE rfl ?_)
    go_loopw [8, 9] (fun u8 u wr => u8 = .int .i64 0 ∧ u = .int .i64 0 ∧ wr = w1.alloc (.cells #[] 58)) (fun _ _ _ => 0)
    case atStart => exact ⟨rfl, rfl, rfl⟩
    case round =>
      obtain ⟨rfl, rfl, rfl⟩ := hrel
      go_wp2_with fail
      go_ret3
      exact ⟨_, 0, rfl, own_mono hownE HB1.out.size, below_more HB1.out _⟩
  · have HI := Lib.hid (decide_eq_false hi8)
    obtain ⟨rfl, rfl, rfl⟩ := tlAns_no HH.out (fun hh => hi8 hh.2)
    clear HH hi8
    go_enter Try.func64, Try.ntmps64
    go_wp2_with fail
    refine (l7Good_any none 0 0 _ [] _ (Reads.nil_ (B := w.heap.size)) (Nat.le_refl _) (by omega) true (by rfl)).mono ?_
    rintro e w1 ⟨rfl, hb1⟩
    have HB1 := Lib.hid hb1
    clear hb1
    go_wp2_with fail
    refine (l6Irq_any _ _ HI.out _).mono ?_
    rintro e wi ⟨rfl, rfl⟩
    go_wp2_with fail
    go_ret3
    exact ⟨_, 0, rfl, World.ownsRow_made w1 #[] 0 HB1.out.size (Nat.zero_le _) rfl, below_more HB1.out _⟩
theorem specTakeLines_any (A : Option Addr) (n c : Nat) (xs : List Lin) (i : Int) (w : World) (hr : Reads w w.heap.size 4 A n (FL xs)) (hc0 : A = none → n = 0 ∧ c = 0) (hn : n ≤ 1048576) (l : List Lin) (z : Int) (b : Bool) (h : tlAns xs i = (l, z, b)) :
    Calls Try.prog 64 #[.slice A n c, .int .i64 i] w (CntPost w l z b) := by
  cases A with
  | some a => exact specTakeLines_some a n c xs i w hr hn l z b h
  | none =>
    obtain ⟨rfl, rfl⟩ := hc0 rfl
    obtain rfl : xs = [] := List.eq_nil_of_length_eq_zero (reads_len hr)
    exact specTakeLines_none i w l z b h
end Go.Proofs.Ytfdbnolifimnhaa.L7

namespace Go.Proofs.Ytfdbnolifimnhaa.fnLineIrqs
open Go.ChangeShapes Go.WideShapes Go.ChangeAt Go.RowKit
open Go.ChangeMaps (open_string shut_string)
open Go Go.Proofs.Ytfdbnolifimnhaa.L7 Go.Proofs.Ytfdbnolifimnhaa.Mem Go.Proofs.Ytfdbnolifimnhaa.Own Go.Proofs.Ytfdbnolifimnhaa.Draw
set_option linter.unusedVariables false
theorem own : ownKnob Try.prog.godebug = none := by kernel_rfl
theorem laidOut : laidOutB Try.prog = true := by kernel_rfl
theorem pass {w w1 w2 : World} (h : Below w.heap.size w w1) (k : Below w1.heap.size w1 w2) : Below w.heap.size w w2 := h.trans (k.mono h.size)
theorem tl_known {xs : List Lin} {i : Int} {l : List Lin} {z : Int} (h : tlAns xs i = (l, z, true)) : OkL xs ∧ (0 ≤ i ∧ i < 8) ∧ l = tlL xs i ∧ z = (tlN xs i : Int) := by
  unfold tlAns at h
  split at h
  · rename_i hh
    simp only [Prod.mk.injEq] at h
    exact ⟨hh.1, hh.2, h.1.symm, h.2.1.symm⟩
  · simp at h
theorem ra_has {xs : List Lin} {i : Int} (hi : 0 ≤ i ∧ i < 8) : decide (i ∈ ints (irqs pRa xs 8)) = xs.any fun y => decide (y.iq = i) && y.ra := by
  obtain ⟨j, rfl⟩ : ∃ j : Nat, i = j := ⟨i.toNat, by omega⟩
  rw [Bool.eq_iff_iff, decide_eq_true_eq, mem_ints, mem_irqs, toI_any]
  exact ⟨fun h => h.2, fun h => ⟨by omega, h⟩⟩
theorem tl_has {xs : List Lin} {i : Int} (hi : 0 ≤ i ∧ i < 8) : decide ((0 : Int) < (tlN xs i : Int)) = decide (i ∈ ints (irqs pRa xs 8)) := by
  rw [ra_has hi, Bool.eq_iff_iff, decide_eq_true_eq, List.any_eq_true]
  have h1 : (0 : Int) < (tlN xs i : Int) ↔ 0 < tlN xs i := by omega
  rw [h1]
  unfold tlN
  rw [List.length_pos_iff_exists_mem]
  constructor
  · rintro ⟨y, hy⟩
    exact ⟨y, (List.mem_filter.1 hy).1, (List.mem_filter.1 hy).2⟩
  · rintro ⟨y, hy, hp⟩
    exact ⟨y, List.mem_filter.2 ⟨hy, hp⟩⟩
def lvl (i : Int) (y : Lin) : Bool := decide (y.iq = i) && (decide (y.ki = 1) && y.ra)
theorem still_has {xs : List Lin} {i : Int} (hi : 0 ≤ i ∧ i < 8) : decide (i ∈ ints (irqs pRa (tlL xs i) 8)) = xs.any (lvl i) := by
  rw [ra_has hi]
  unfold tlL
  rw [List.any_map]
  congr 1
  funext y
  unfold lvl
  simp only [Function.comp]
  by_cases h : y.iq = i
  · have key : ∀ z : Lin, z = tak y → (decide (z.iq = i) && z.ra) = (decide (y.iq = i) && (decide (y.ki = 1) && y.ra)) := by
      rintro z rfl
      simp only [tak, h, decide_true, Bool.true_and]
      exact Bool.and_comm _ _
    exact key _ (if_pos h)
  · have key : ∀ z : Lin, z = y → (decide (z.iq = i) && z.ra) = (decide (y.iq = i) && (decide (y.ki = 1) && y.ra)) := by
      rintro z rfl
      simp [h]
    exact key _ (if_neg h)
theorem tl_okL {xs : List Lin} {i : Int} (h : OkL xs) : OkL (tlL xs i) := by
  refine ⟨by unfold tlL; rw [List.length_map]; exact h.1, fun y hy => ?_⟩
  unfold tlL at hy
  obtain ⟨x, hx, rfl⟩ := List.mem_map.1 hy
  by_cases e : x.iq = i
  · rw [if_pos e]; exact tak_ok (h.2 x hx)
  · rw [if_neg e]; exact h.2 x hx
theorem lvl_succ {xs : List Lin} {x : Lin} {k : Nat} (i : Int) (hx : xs[k]? = some x) : (xs.take (k + 1)).any (lvl i) = ((xs.take k).any (lvl i) || lvl i x) := by
  rw [List.take_add_one, hx]
  simp
theorem mx_sh (l : List Lin) (h : pMx l = true) : pSh l = true := by
  unfold pMx hasKi at h
  rw [Bool.and_eq_true, List.any_eq_true, List.any_eq_true] at h
  obtain ⟨⟨a, ha, ha0⟩, ⟨b, hb, hb1⟩⟩ := h
  unfold pSh
  refine decide_eq_true ?_
  match l with
  | [] => cases ha
  | [y] =>
    rw [List.mem_singleton] at ha hb
    subst ha hb
    simp at ha0 hb1
    omega
  | _ :: _ :: _ => simp
theorem mx_in {xs : List Lin} {j : Nat} (h : j ∈ irqs pMx xs 8) : j ∈ irqs pSh xs 8 := mem_irqs.2 ⟨(mem_irqs.1 h).1, mx_sh _ (mem_irqs.1 h).2⟩
theorem iq_mx {xs : List Lin} {l m : List Nat} {b c : Bool} (h : iqAns pMx xs = (l, b)) (h2 : iqAns pSh xs = (m, c)) : b = c ∧ ∀ j ∈ l, j ∈ m := by
  by_cases ho : OkL xs
  · obtain ⟨rfl, rfl⟩ := iqAns_yes h ho
    obtain ⟨rfl, rfl⟩ := iqAns_yes h2 ho
    exact ⟨rfl, fun j hj => mx_in hj⟩
  · obtain ⟨rfl, rfl⟩ := iqAns_no h ho
    obtain ⟨rfl, rfl⟩ := iqAns_no h2 ho
    exact ⟨rfl, fun j hj => by cases hj⟩
set_option maxRecDepth 100000 in
set_option maxHeartbeats 4000000 in
theorem walk0 (W : World) (A : Option Addr) (n c : Nat) (zs : List Int) (hz : ∀ z ∈ zs, 0 ≤ z ∧ z ≤ 255) (hr : Reads W W.heap.size 1 A n (zs.map (Value.int .u8))) :
    Calls Try.prog 6 #[.slice A n c] W fun e W' => e = .returned (.bool true) ∧ Below W.heap.size W W' := by
  by_cases h1 : (65536 : Int) < n
  · have hv := rBig_any A n c W
    rw [decide_eq_true h1] at hv
    have HV := Lib.hid hv
    clear hv hr
    go_enter Try.func6, Try.ntmps6
    go_wp2_with fail
    refine HV.out.mono ?_
    rintro e w1 ⟨rfl, rfl⟩
    go_wp2_with fail
    go_ret
    exact ⟨rfl, Below.refl _ _⟩
  have hv := rBig_any A n c W
  rw [decide_eq_false h1] at hv
  have HV := Lib.hid hv
  have hn : n ≤ 1000000 := by omega
  have HR := Lib.hid fun (w : World) (hb : Below W.heap.size W w) => (show Reads w w.heap.size 1 A n (zs.map (Value.int .u8)) from (hr.below hb).more hb.size)
  have HZ := Lib.hid hz
  have HW := Lib.hid (Below.refl W.heap.size W)
  clear hv hr hz h1
  go_enter Try.func6, Try.ntmps6
  go_wp2_with fail
  refine HV.out.mono ?_
  rintro e w0 ⟨rfl, rfl⟩
  clear HV
  go_wp2_with fail
  refine (drawTakeLines_any _ A n c zs HZ.out (HR.out _ HW.out) hn).mono ?_
  rintro e w1 ⟨gl, m, cl, xs, x, rfl, hm, hown, hb⟩
  replace HW := Lib.hid (pass HW.out hb)
  have RL := Lib.hid (own_reads hown)
  clear hown hb
  obtain ⟨ya, hy⟩ : ∃ ya, tlAns xs x = ya := ⟨_, rfl⟩
  obtain ⟨l1, z1, b1⟩ := ya
  have r1_len := tlAns_len hy
  obtain ⟨r1, hr1⟩ : ∃ r, l1.length = r := ⟨_, rfl⟩
  rw [hr1] at r1_len
  have r1_H := Lib.hid hr1
  clear hr1
  have H1 := Lib.hid hy
  clear hy
  obtain ⟨ya, hy⟩ : ∃ ya, iqAns pRa xs = ya := ⟨_, rfl⟩
  obtain ⟨l2, b2⟩ := ya
  have r2_len := iqAns_len hy
  obtain ⟨r2, hr2⟩ : ∃ r, l2.length = r := ⟨_, rfl⟩
  rw [hr2] at r2_len
  have r2_H := Lib.hid hr2
  clear hr2
  have H2 := Lib.hid hy
  clear hy
  go_wp2_with fail
  refine (implTakeLines_any (some ⟨gl, 0, none⟩) m cl xs x _ RL.out (by simp) (by omega) l1 z1 b1 H1.out).mono ?_
  rintro e w2 ⟨A_RA, c_RA, rfl, hown, hb⟩
  rw [r1_H.out] at hown ⊢
  replace HW := Lib.hid (pass HW.out hb)
  replace RL := Lib.hid ((RL.out.below hb).more hb.size)
  have RA := Lib.hid (own_reads hown)
  have RAc := Lib.hid (own_cap hown)
  clear hown hb
  go_wp2_with fail
  refine (specTakeLines_any (some ⟨gl, 0, none⟩) m cl xs x _ RL.out (by simp) (by omega) l1 z1 b1 H1.out).mono ?_
  rintro e w3 ⟨A_RC, c_RC, rfl, hown, hb⟩
  rw [r1_H.out] at hown ⊢
  replace HW := Lib.hid (pass HW.out hb)
  replace RL := Lib.hid ((RL.out.below hb).more hb.size)
  replace RA := Lib.hid ((RA.out.below hb).more hb.size)
  have RC := Lib.hid (own_reads hown)
  have RCc := Lib.hid (own_cap hown)
  clear hown hb
  have hnb : (b1 != b1) = false := by simp
  have hnz : (z1 != z1) = false := by simp
  go_wp2_with fail
  refine (rLines_same A_RA A_RC r1 c_RA c_RC l1 _ (by omega) RA.out RC.out).mono ?_
  rintro e w4 ⟨rfl, hb⟩
  replace HW := Lib.hid (pass HW.out hb)
  replace RL := Lib.hid ((RL.out.below hb).more hb.size)
  replace RA := Lib.hid ((RA.out.below hb).more hb.size)
  replace RC := Lib.hid ((RC.out.below hb).more hb.size)
  clear hb
  clear RC
  clear RCc
  go_wp2_with fail
  refine (implRaised_any (some ⟨gl, 0, none⟩) m cl xs _ RL.out (by omega) l2 b2 H2.out).mono ?_
  rintro e w5 ⟨A_RP, c_RP, rfl, hown, hb⟩
  rw [r2_H.out] at hown ⊢
  replace HW := Lib.hid (pass HW.out hb)
  replace RL := Lib.hid ((RL.out.below hb).more hb.size)
  replace RA := Lib.hid ((RA.out.below hb).more hb.size)
  have RP := Lib.hid (own_reads hown)
  have RPc := Lib.hid (own_cap hown)
  clear hown hb
  go_wp2_with fail
  refine (specRaised_any (some ⟨gl, 0, none⟩) m cl xs _ RL.out (by omega) l2 b2 H2.out).mono ?_
  rintro e w6 ⟨A_RQ, c_RQ, rfl, hown, hb⟩
  rw [r2_H.out] at hown ⊢
  replace HW := Lib.hid (pass HW.out hb)
  replace RL := Lib.hid ((RL.out.below hb).more hb.size)
  replace RA := Lib.hid ((RA.out.below hb).more hb.size)
  replace RP := Lib.hid ((RP.out.below hb).more hb.size)
  have RQ := Lib.hid (own_reads hown)
  have RQc := Lib.hid (own_cap hown)
  clear hown hb
  clear hnb hnz
  have hnb : (b2 != b2) = false := by simp
  go_upto_region 10 with fail
  go_cut [93] from 74 to 92 (fun u93 wx => u93 = .bool false ∧ Hid (Below W.heap.size W wx) ∧ Hid (Reads wx wx.heap.size 4 (some ⟨gl, 0, none⟩) m (FL xs)) ∧ Hid (Reads wx wx.heap.size 4 A_RA r1 (FL l1)))
  case first =>
    go_wp2_with fail
    refine (rInts_same A_RP A_RQ r2 c_RP c_RQ (ints l2) _ (by omega) RP.out RQ.out).mono ?_
    rintro e w7 ⟨rfl, hb⟩
    replace HW := Lib.hid (pass HW.out hb)
    replace RL := Lib.hid ((RL.out.below hb).more hb.size)
    replace RA := Lib.hid ((RA.out.below hb).more hb.size)
    replace RP := Lib.hid ((RP.out.below hb).more hb.size)
    replace RQ := Lib.hid ((RQ.out.below hb).more hb.size)
    clear hb
    cases b1 with
    | false =>
      go_wp2_with fail
      go_meet
      exact ⟨rfl, HW, RL, RA⟩
    | true =>
      have ho := (tl_known H1.out).1
      have hi := (tl_known H1.out).2.1
      have hz1 := (tl_known H1.out).2.2.2
      have hl2 := (iqAns_yes H2.out ho).1
      have hq := tl_has (xs := xs) hi
      rw [← hz1, ← hl2] at hq
      obtain ⟨q, hq2⟩ : ∃ q, decide (x ∈ ints l2) = q := ⟨_, rfl⟩
      rw [hq2] at hq
      have hqq : (q != q) = false := by simp
      clear hz1 hl2 ho hi
      go_wp2_with fail
      refine (rHas_any A_RP r2 c_RP _ (ints l2) x _ RP.out (by omega) q hq2).mono ?_
      rintro e w8 ⟨rfl, rfl⟩
      go_wp2_with fail
      go_meet
      exact ⟨rfl, HW, RL, RA⟩
  case rest =>
    obtain ⟨rfl, hh, hh2, hh3⟩ := hcut
    replace HW := hh
    replace RL := hh2
    replace RA := hh3
    clear hh hh2 hh3 RP RQ RPc RQc hnb H2 r2_H r2_len
    go_upto_if 94 with fail
    go_cut [15, 16, 17, 18] from 29 (fun _ _ _ _ wx => Hid (Below W.heap.size W wx))
    case first =>
      cases b1 with
      | false =>
        go_wp2_with fail
        go_meet
        exact HW
      | true =>
        have ho := (tl_known H1.out).1
        have hi := (tl_known H1.out).2.1
        have hl1 := (tl_known H1.out).2.2.1
        have ho1 : OkL l1 := by rw [hl1]; exact tl_okL ho
        obtain ⟨ya, hy⟩ : ∃ ya, iqAns pRa l1 = ya := ⟨_, rfl⟩
        obtain ⟨l3, b3⟩ := ya
        obtain ⟨hl3, rfl⟩ := iqAns_yes hy ho1
        have HQ : Hid (decide (x ∈ ints l3) = xs.any (lvl x)) := Lib.hid (by rw [hl3, hl1]; exact still_has hi)
        have HA1 := Lib.hid (decide_eq_true ho1)
        have hm6 : m ≤ 6 := by rw [← reads_len RL.out]; exact ho.1
        clear hl3 hl1 ho ho1 hi
        have r3_len := iqAns_len hy
        obtain ⟨r3, hr3⟩ : ∃ r, l3.length = r := ⟨_, rfl⟩
        rw [hr3] at r3_len
        have r3_H := Lib.hid hr3
        clear hr3
        have H3 := Lib.hid hy
        clear hy
        go_wp2_with fail
        refine (implRaised_any A_RA r1 c_RA l1 _ RA.out (by omega) l3 true H3.out).mono ?_
        rintro e w9 ⟨A_RS, c_RS, rfl, hown, hb⟩
        rw [r3_H.out] at hown ⊢
        replace HW := Lib.hid (pass HW.out hb)
        replace RL := Lib.hid ((RL.out.below hb).more hb.size)
        replace RA := Lib.hid ((RA.out.below hb).more hb.size)
        have RS := Lib.hid (own_reads hown)
        have RSc := Lib.hid (own_cap hown)
        clear hown hb
        obtain ⟨wq, hwq⟩ : ∃ w, w = w9 := ⟨_, rfl⟩
        subst hwq
        go_wp2_with fail
        go_loop [17, 18] (fun u17 u18 => ∃ (k : Nat) (q : Bool), u18 = .int .i64 k ∧ k ≤ m ∧ u17 = .bool q ∧ Hid ((xs.take k).any (lvl x) = q)) (fun _ u18 => m - (intOf u18).toNat)
        case atStart => exact ⟨0, false, rfl, Nat.zero_le _, rfl, Lib.hid (by simp)⟩
        case round =>
          obtain ⟨k, q, rfl, hk, rfl, HQK⟩ := hrel
          by_cases hlt : k < m
          · obtain ⟨b9, o9, y, e9, _, hu, c0, c1, c2, c3⟩ := lin_at RL.out hlt
            simp only [Option.some.injEq, Addr.mk.injEq, and_true] at e9
            obtain ⟨rfl, rfl⟩ := e9
            have HS := Lib.hid (lvl_succ x hu)
            clear hu
            simp only [Nat.zero_add] at c0 c1 c2 c3
            obtain ⟨y0, y1, y2, y3⟩ := y
            simp only at c0 c1 c2 c3
            have hkz : (k : Int) < m := by omega
            cases q with
            | true =>
              have HN : Hid ((xs.take (k + 1)).any (lvl x) = true) := Lib.hid (by rw [HS.out, HQK.out]; rfl)
              clear HS HQK c0 c1 c2 c3
              go_wp2_with fail
              go_round
              case rel => exact ⟨k + 1, true, by go_num, by omega, rfl, HN⟩
              case measure => simp [intOf]; omega
            | false =>
              by_cases h1 : y1 = x
              · have t1 : (y1 == x) = true := by simpa using h1
                by_cases h0 : y0 = 1
                · have HN : Hid ((xs.take (k + 1)).any (lvl x) = y3) := Lib.hid (by rw [HS.out, HQK.out]; simp [lvl, h1, h0])
                  subst h0
                  clear HS HQK h1 c2
                  cases y3 <;>
                  · go_wp2_with fail
                    go_round
                    case rel => exact ⟨k + 1, _, by go_num, by omega, rfl, HN⟩
                    case measure => simp [intOf]; omega
                · have t0 : (y0 == 1) = false := by simpa using h0
                  have HN : Hid ((xs.take (k + 1)).any (lvl x) = false) := Lib.hid (by rw [HS.out, HQK.out]; simp [lvl, h0])
                  clear HS HQK h1 h0 c2 c3
                  go_wp2_with fail
                  go_round
                  case rel => exact ⟨k + 1, false, by go_num, by omega, rfl, HN⟩
                  case measure => simp [intOf]; omega
              · have t1 : (y1 == x) = false := by simpa using h1
                have HN : Hid ((xs.take (k + 1)).any (lvl x) = false) := Lib.hid (by rw [HS.out, HQK.out]; simp [lvl, h1])
                clear HS HQK h1 c0 c2 c3
                go_wp2_with fail
                go_round
                case rel => exact ⟨k + 1, false, by go_num, by omega, rfl, HN⟩
                case measure => simp [intOf]; omega
          · have hkm : k = m := by omega
            subst hkm
            have hq := HQK.out
            rw [List.take_of_length_le (by rw [reads_len RL.out]; exact Nat.le_refl _), ← HQ.out] at hq
            have HQ2 := Lib.hid hq
            have hqq : (q != q) = false := by simp
            clear hq HQK HQ
            go_wp2_with fail
            refine (rHas_any A_RS r3 c_RS _ (ints l3) x _ RS.out (by omega) q HQ2.out).mono ?_
            rintro e w10 ⟨rfl, rfl⟩
            go_wp2_with fail
            refine (implAre_any A_RA r1 c_RA _ l1 _ RA.out (Nat.le_refl _) (by omega) _ HA1.out).mono ?_
            rintro e w11 ⟨rfl, hb⟩
            replace HW := Lib.hid (pass HW.out hb)
            replace RL := Lib.hid ((RL.out.below hb).more hb.size)
            replace RA := Lib.hid ((RA.out.below hb).more hb.size)
            replace RS := Lib.hid ((RS.out.below hb).more hb.size)
            clear hb
            go_wp2_with fail
            go_meet
            exact HW
    case rest =>
      replace HW := hcut
      clear hcut RL RA RAc H1 r1_H r1_len hm
      go_wp2_with fail
      refine (drawMixedIrqs_any _ A n c zs HZ.out (HR.out _ HW.out) hn).mono ?_
      rintro e w12 ⟨gl, m, cl, xs, rfl, hm, hown, hb⟩
      replace HW := Lib.hid (pass HW.out hb)
      have RL := Lib.hid (own_reads hown)
      clear hown hb
      obtain ⟨ya, hy⟩ : ∃ ya, iqAns pMx xs = ya := ⟨_, rfl⟩
      obtain ⟨l1, b1⟩ := ya
      obtain ⟨ya, hy2⟩ : ∃ ya, iqAns pSh xs = ya := ⟨_, rfl⟩
      obtain ⟨l2, b2⟩ := ya
      have hin := (iq_mx hy hy2).2
      have HIN := Lib.hid hin
      clear hin
      have r1_len := iqAns_len hy
      obtain ⟨r1, hr1⟩ : ∃ r, l1.length = r := ⟨_, rfl⟩
      rw [hr1] at r1_len
      have r1_H := Lib.hid hr1
      clear hr1
      have r2_len := iqAns_len hy2
      obtain ⟨r2, hr2⟩ : ∃ r, l2.length = r := ⟨_, rfl⟩
      rw [hr2] at r2_len
      have r2_H := Lib.hid hr2
      clear hr2
      have H1 := Lib.hid hy
      have H2 := Lib.hid hy2
      clear hy hy2
      go_wp2_with fail
      refine (implMixed_any (some ⟨gl, 0, none⟩) m cl xs _ RL.out (by omega) l1 b1 H1.out).mono ?_
      rintro e w13 ⟨A_RA, c_RA, rfl, hown, hb⟩
      rw [r1_H.out] at hown ⊢
      replace HW := Lib.hid (pass HW.out hb)
      replace RL := Lib.hid ((RL.out.below hb).more hb.size)
      have RA := Lib.hid (own_reads hown)
      have RAc := Lib.hid (own_cap hown)
      clear hown hb
      go_wp2_with fail
      refine (implShared_any (some ⟨gl, 0, none⟩) m cl xs _ RL.out (by omega) l2 b2 H2.out).mono ?_
      rintro e w14 ⟨A_RB, c_RB, rfl, hown, hb⟩
      rw [r2_H.out] at hown ⊢
      replace HW := Lib.hid (pass HW.out hb)
      replace RL := Lib.hid ((RL.out.below hb).more hb.size)
      replace RA := Lib.hid ((RA.out.below hb).more hb.size)
      have RB := Lib.hid (own_reads hown)
      have RBc := Lib.hid (own_cap hown)
      clear hown hb
      go_wp2_with fail
      refine (specMixed_any (some ⟨gl, 0, none⟩) m cl xs _ RL.out (by omega) l1 b1 H1.out).mono ?_
      rintro e w15 ⟨A_RC, c_RC, rfl, hown, hb⟩
      rw [r1_H.out] at hown ⊢
      replace HW := Lib.hid (pass HW.out hb)
      replace RL := Lib.hid ((RL.out.below hb).more hb.size)
      replace RA := Lib.hid ((RA.out.below hb).more hb.size)
      replace RB := Lib.hid ((RB.out.below hb).more hb.size)
      have RC := Lib.hid (own_reads hown)
      have RCc := Lib.hid (own_cap hown)
      clear hown hb
      have hnb : (b1 != b1) = false := by simp
      go_wp2_with fail
      refine (rInts_same A_RA A_RC r1 c_RA c_RC (ints l1) _ (by omega) RA.out RC.out).mono ?_
      rintro e w16 ⟨rfl, hb⟩
      replace HW := Lib.hid (pass HW.out hb)
      replace RL := Lib.hid ((RL.out.below hb).more hb.size)
      replace RA := Lib.hid ((RA.out.below hb).more hb.size)
      replace RB := Lib.hid ((RB.out.below hb).more hb.size)
      replace RC := Lib.hid ((RC.out.below hb).more hb.size)
      clear hb
      clear RC
      clear RCc hnb
      obtain ⟨wq, hwq⟩ : ∃ w, w = w16 := ⟨_, rfl⟩
      subst hwq
      go_wp2_with fail
      go_loop [26] (fun u26 => ∃ (k : Nat), u26 = .int .i64 k ∧ k ≤ r1) (fun u26 => r1 - (intOf u26).toNat)
      case atStart => exact ⟨0, rfl, Nat.zero_le _⟩
      case round =>
        obtain ⟨k, rfl, hk⟩ := hrel
        by_cases hlt : k < r1
        · obtain ⟨j, hj⟩ : ∃ j, l1[k]? = some j := ⟨_, List.getElem?_eq_getElem (by rw [r1_H.out]; exact hlt)⟩
          obtain ⟨gA, oA, ea, _, hca⟩ := RA.out.2 (by omega)
          subst ea
          have ka := hca k (.int .i64 (j : Int)) (I_at (by simp [ints, hj]))
          have hjm := HIN.out j (List.mem_of_getElem? hj)
          have hjd : decide ((j : Int) ∈ ints l2) = true := decide_eq_true (mem_ints.2 hjm)
          have hkz : (k : Int) < r1 := by omega
          clear hj hca hjm
          go_wp2_with fail
          refine (rHas_any A_RB r2 c_RB _ (ints l2) j _ RB.out (by omega) true hjd).mono ?_
          rintro e w17 ⟨rfl, rfl⟩
          clear ka hjd
          go_wp2_with fail
          go_round
          case rel => exact ⟨k + 1, by go_num, by omega⟩
          case measure => simp [intOf]; omega
        · skip
          go_wp2_with fail
          refine (specShared_any (some ⟨gl, 0, none⟩) m cl xs _ RL.out (by omega) l2 b2 H2.out).mono ?_
          rintro e w18 ⟨A_RD, c_RD, rfl, hown, hb⟩
          rw [r2_H.out] at hown ⊢
          replace HW := Lib.hid (pass HW.out hb)
          replace RL := Lib.hid ((RL.out.below hb).more hb.size)
          replace RA := Lib.hid ((RA.out.below hb).more hb.size)
          replace RB := Lib.hid ((RB.out.below hb).more hb.size)
          have RD := Lib.hid (own_reads hown)
          have RDc := Lib.hid (own_cap hown)
          clear hown hb
          have hbb : (b2 == b2) = true := by simp
          go_wp2_with fail
          refine (rInts_same A_RB A_RD r2 c_RB c_RD (ints l2) _ (by omega) RB.out RD.out).mono ?_
          rintro e w19 ⟨rfl, hb⟩
          replace HW := Lib.hid (pass HW.out hb)
          replace RL := Lib.hid ((RL.out.below hb).more hb.size)
          replace RA := Lib.hid ((RA.out.below hb).more hb.size)
          replace RB := Lib.hid ((RB.out.below hb).more hb.size)
          replace RD := Lib.hid ((RD.out.below hb).more hb.size)
          clear hb
          go_wp2_with fail
          go_ret
          exact ⟨by simp, HW.out⟩

set_option maxHeartbeats 4000000 in
set_option maxRecDepth 100000 in
/-- the law's Go text returns true, and nothing that was there has turned -/
theorem walk {H : Type} {enc : TypeId × Value → H} (W : World) (base : Nat) (v0 : Value) (d0 : DataW H) (p0 : List MemPlace) (q0 : Value.okWide Try.prog W .any base 22 v0) (h0 : DataW.Trod enc Try.prog W 0 (fun _ => true) true 22 v0 d0 p0) (l0 : ∀ x ∈ p0, x.block < W.heap.size) (hL : laidMetH Try.prog Rows.fnLineIrqsRow.laid W) (hsh : W.ShapedOpen Try.prog) :
    Calls Try.prog 6 #[v0] W fun e W' => e = .returned (.bool true) ∧ Below W.heap.size W W' := by
  clear hsh
  obtain ⟨A, n, c, zs, rfl, hc, hcm, hl, hwf, hr⟩ := open_nums Try.underlying22 Try.underlying5 (by kernel_rfl) q0 h0
  exact walk0 W A n c zs (fun z hz => bounds_u8 (hwf z hz)) hr
theorem laid_met (os : Os) : laidMetH Try.prog Rows.fnLineIrqsRow.laid ((World.holding Try.prog os ⟨#[], #[], []⟩).forCall (fun _ _ => 0) ⟨#[], #[(.slice none 0 0 : Value)], []⟩).memory := ⟨[], rfl, List.nodup_nil, fun _ _ h => by cases h⟩
theorem reads (os : Os) {H : Type} (enc : TypeId × Value → H) : (DataW.whole enc Try.prog ((World.holding Try.prog os ⟨#[], #[], []⟩).forCall (fun _ _ => 0) ⟨#[], #[(.slice none 0 0 : Value)], []⟩).memory Try.f6.params.toList Rows.fnLineIrqsSpec.vars false #[(.slice none 0 0 : Value)].toList 8).isSome = true := by kernel_rfl
set_option maxRecDepth 100000 in
theorem lifted (os : Os) (started : os.Started) (H : Type) (enc : TypeId × Value → H) (F : Stop.Interp) :
    ReturnsInHanded {} Try.checked os 6 .any ((OpenSpec.ofChange Rows.fnLineIrqsSpec).preRow enc Try.prog Try.f6 Rows.fnLineIrqsRow.domain false Rows.fnLineIrqsRow.laid) (((OpenSpec.ofChange Rows.fnLineIrqsSpec).at F).post enc Try.prog Try.f6 false true false false) := by
  obtain ⟨x, hx⟩ := Option.isSome_iff_exists.1 (reads os enc)
  refine returnsInHanded_of_row (C := Try.checked) (s := OpenSpec.ofChange Rows.fnLineIrqsSpec) own started (by kernel_rfl) Try.func6
    (witness_row_at (enc := enc) (C := Try.checked) false (World.holding Try.prog os ⟨#[], #[], []⟩) #[(.slice none 0 0 : Value)] rfl (by kernel_rfl) (by kernel_rfl) (by kernel_rfl)
      (OpenSpec.preRow_of_cond 8 hx (by rfl) (fun k hk => by cases hk) (by kernel_rfl) (laid_met os))) ?_
  intro W base args ds gs before hval0 hW _ hcond hsz hL hsh _
  have hval : ∀ (j : Nat) t v, Try.f6.params[j]? = some t → args[j]? = some v → Value.okWide Try.prog W .any base t v := hval0
  have hW' := hW
  obtain ⟨p, q, hA0, hV, rfl, hfz, hnd⟩ := hW
  have hA : DataW.TrodAll enc Try.prog W 0 (fun _ => true) true Try.f6.params.toList args.toList ds p := hA0
  rw [Try.params6] at hA hval
  obtain ⟨v0, vs0, d0, ds0, p0, q0, hargs, rfl, rfl, h0, r0⟩ := trodAll_cons hA
  obtain ⟨rfl, rfl, rfl⟩ := trodAll_nil r0
  obtain rfl : args = #[v0] := by cases args; simp_all
  obtain ⟨rfl, rfl⟩ := trodVars_none hV
  clear hA0 hval0
  simp only [List.append_nil] at hW'
  refine (walk (enc := enc) W base v0 d0 p0 (hval 0 22 v0 rfl rfl) h0 (fun x hx => hW'.lt x (by simp [hx])) hL hsh).mono fun e W' ⟨he, hb⟩ => ⟨_, he, Fr.post_true laidOut (by kernel_rfl) (by kernel_rfl) Try.underlying4 rfl hW' (fun xs hx => by match xs, hx with | [x0], _ => rfl) hb⟩
theorem said : Rows.FnLineIrqsSaid :=
  OpenClaim.holds_of_cond 6 Try.f6 rfl rfl rfl rfl rfl rfl rfl ⟨rfl, rfl, rfl, rfl, rfl⟩ rfl rfl rfl rfl rfl (by kernel_rfl) Try.func6 (by kernel_rfl)
    (of_decide_eq_true (by kernel_rfl)) (by unfold Func.isWrapper; first | (rw [if_pos (by decide +kernel)]; kernel_rfl) | (rw [if_neg (by decide +kernel)]; exact ⟨rfl, rfl⟩))
    (fun os started H enc _ F => by rw [OpenClaim.pre_eq_preRow]; exact lifted os started H enc F)
#print axioms said
end Go.Proofs.Ytfdbnolifimnhaa.fnLineIrqs
