/- What chapter 6's draws answer. -/
import Derived.Test.YtclnhdjnmfkeaaaDrIrq
import Derived.Deep.Cut
import Derived.Deep.CutBlock
namespace Go.Proofs.Ytclnhdjnmfkeaaa.Draw
open Go Go.RowKit Go.Proofs.Ytclnhdjnmfkeaaa.Mem Go.Proofs.Ytclnhdjnmfkeaaa.Own Go.Proofs.Ytclnhdjnmfkeaaa.L6
set_option linter.unusedVariables false
/-- a list of at most nine interrupts of the call's own -/
def ListDrawn (w w' : World) (gl m c : Nat) (xs : List Irq) : Prop := m ≤ 9 ∧ w'.ownsRow w.heap.size 53 5 (.slice (some ⟨gl, 0, none⟩) m c) m (FL xs) ∧ Below w.heap.size w w'
def DrL1 (w : World) (e : Ending) (w' : World) : Prop := ∃ (gl m c : Nat) (xs : List Irq) (x : Int), e = .returned (.tuple #[.slice (some ⟨gl, 0, none⟩) m c, .int .i64 x]) ∧ ListDrawn w w' gl m c xs
def DrL2b (w : World) (e : Ending) (w' : World) : Prop := ∃ (gl m c : Nat) (xs : List Irq) (x : Int) (y : Bool), e = .returned (.tuple #[.slice (some ⟨gl, 0, none⟩) m c, .int .i64 x, .bool y]) ∧ ListDrawn w w' gl m c xs
def DrL2i (w : World) (e : Ending) (w' : World) : Prop := ∃ (gl m c : Nat) (xs : List Irq) (x y : Int), e = .returned (.tuple #[.slice (some ⟨gl, 0, none⟩) m c, .int .i64 x, .int .i64 y]) ∧ ListDrawn w w' gl m c xs
def DrL3 (w : World) (e : Ending) (w' : World) : Prop := ∃ (gl m c : Nat) (xs : List Irq) (x y z : Int), e = .returned (.tuple #[.slice (some ⟨gl, 0, none⟩) m c, .int .i64 x, .int .i64 y, .int .i64 z]) ∧ ListDrawn w w' gl m c xs
theorem listDrawn_of {w w' : World} {A : Option Addr} {n cp t gl m c : Nat} {zs : List Int} {xs : List Irq} (hm : m ≤ 9) (h : LSt (w.alloc (.cells #[.slice A n cp, .int .i64 0, .int .u64 0] 78)) w' w.heap.size w.heap.size A n cp zs t (.slice (some ⟨gl, 0, none⟩) m c) m xs) : ListDrawn w w' gl m c xs :=
  ⟨hm, own_mono h.own (alloc_le _ _), below_cur (below_more (Below.refl _ _) _) h.gr (Nat.le_refl _)⟩
set_option maxRecDepth 100000 in
set_option maxHeartbeats 2000000 in
theorem drawReadyIrqs_any (w : World) (A : Option Addr) (n cp : Nat) (zs : List Int) (hz : ∀ z ∈ zs, 0 ≤ z ∧ z ≤ 255) (hr : Reads w w.heap.size 1 A n (zs.map (Value.int .u8))) (hn : n ≤ 1000000) :
    Calls Try.prog 44 #[.slice A n cp] w (DrL1 w) := by
  have HC := Lib.hid (cur_new w A n cp zs hr)
  have HZ := Lib.hid hz
  clear hr hz
  go_enter Try.func44, Try.ntmps44
  go_wp2_with fail
  refine (irqs_any _ w.heap.size w.heap.size A n cp zs 0 HZ.out HC.out (by omega) hn).mono ?_
  rintro e w1 ⟨m, gl, c, t1, xs, rfl, hm, ht1, hl⟩
  have H := Lib.hid hl
  clear hl HC
  go_wp2_with fail
  refine (cpu_any _ w.heap.size w.heap.size A n cp zs _ HZ.out H.out.cur (by omega) hn).mono ?_
  rintro e w2 ⟨x, rfl, ⟨t2, ht2, hc⟩, hg⟩
  replace H := Lib.hid (H.out.draw hg hc)
  clear hc hg
  go_wp2_with fail
  go_ret2
  exact ⟨gl, m, c, xs, x, rfl, listDrawn_of hm H.out⟩
set_option maxRecDepth 100000 in
set_option maxHeartbeats 2000000 in
theorem drawSetPending_any (w : World) (A : Option Addr) (n cp : Nat) (zs : List Int) (hz : ∀ z ∈ zs, 0 ≤ z ∧ z ≤ 255) (hr : Reads w w.heap.size 1 A n (zs.map (Value.int .u8))) (hn : n ≤ 1000000) :
    Calls Try.prog 51 #[.slice A n cp] w (DrL2b w) := by
  have HC := Lib.hid (cur_new w A n cp zs hr)
  have HZ := Lib.hid hz
  clear hr hz
  go_enter Try.func51, Try.ntmps51
  go_wp2_with fail
  refine (irqs_any _ w.heap.size w.heap.size A n cp zs 0 HZ.out HC.out (by omega) hn).mono ?_
  rintro e w1 ⟨m, gl, c, t1, xs, rfl, hm, ht1, hl⟩
  have H := Lib.hid hl
  clear hl HC
  go_wp2_with fail
  refine (irq_any _ w.heap.size w.heap.size A n cp zs _ HZ.out H.out.cur (by omega) hn).mono ?_
  rintro e w2 ⟨x, rfl, ⟨t2, ht2, hc⟩, hg⟩
  replace H := Lib.hid (H.out.draw hg hc)
  clear hc hg
  go_wp2_with fail
  refine (one_any _ w.heap.size w.heap.size A n cp zs _ HZ.out H.out.cur (by omega) hn 2 (by omega) (by omega)).mono ?_
  rintro e w3 ⟨y, rfl, ⟨t3, ht3, hc⟩, hg⟩
  replace H := Lib.hid (H.out.draw hg hc)
  clear hc hg
  go_wp2_with fail
  go_ret3
  exact ⟨gl, m, c, xs, x, y, rfl, listDrawn_of hm H.out⟩
set_option maxRecDepth 100000 in
set_option maxHeartbeats 2000000 in
theorem drawPriorityMask_any (w : World) (A : Option Addr) (n cp : Nat) (zs : List Int) (hz : ∀ z ∈ zs, 0 ≤ z ∧ z ≤ 255) (hr : Reads w w.heap.size 1 A n (zs.map (Value.int .u8))) (hn : n ≤ 1000000) :
    Calls Try.prog 48 #[.slice A n cp] w (DrL2i w) := by
  have HC := Lib.hid (cur_new w A n cp zs hr)
  have HZ := Lib.hid hz
  clear hr hz
  go_enter Try.func48, Try.ntmps48
  go_wp2_with fail
  refine (irqs_any _ w.heap.size w.heap.size A n cp zs 0 HZ.out HC.out (by omega) hn).mono ?_
  rintro e w1 ⟨m, gl, c, t1, xs, rfl, hm, ht1, hl⟩
  have H := Lib.hid hl
  clear hl HC
  go_wp2_with fail
  refine (cpu_any _ w.heap.size w.heap.size A n cp zs _ HZ.out H.out.cur (by omega) hn).mono ?_
  rintro e w2 ⟨x, rfl, ⟨t2, ht2, hc⟩, hg⟩
  replace H := Lib.hid (H.out.draw hg hc)
  clear hc hg
  go_wp2_with fail
  refine (among_list _ w.heap.size w.heap.size A n cp zs _ HZ.out H.out.cur (by omega) hn [0, 1, 3, 4, 8, 15, 16, 17, -1, 5] _ rfl 3 10 rfl (by omega) (by omega)).mono ?_
  rintro e w3 ⟨y, rfl, _, ⟨t3, ht3, hc⟩, hg⟩
  replace H := Lib.hid (H.out.draw hg hc)
  clear hc hg
  go_wp2_with fail
  go_ret3
  exact ⟨gl, m, c, xs, x, y, rfl, listDrawn_of hm H.out⟩
set_option maxRecDepth 100000 in
set_option maxHeartbeats 2000000 in
theorem drawRouteIrq_any (w : World) (A : Option Addr) (n cp : Nat) (zs : List Int) (hz : ∀ z ∈ zs, 0 ≤ z ∧ z ≤ 255) (hr : Reads w w.heap.size 1 A n (zs.map (Value.int .u8))) (hn : n ≤ 1000000) :
    Calls Try.prog 53 #[.slice A n cp] w (DrL3 w) := by
  have HC := Lib.hid (cur_new w A n cp zs hr)
  have HZ := Lib.hid hz
  clear hr hz
  go_enter Try.func53, Try.ntmps53
  go_wp2_with fail
  refine (irqs_any _ w.heap.size w.heap.size A n cp zs 0 HZ.out HC.out (by omega) hn).mono ?_
  rintro e w1 ⟨m, gl, c, t1, xs, rfl, hm, ht1, hl⟩
  have H := Lib.hid hl
  clear hl HC
  go_wp2_with fail
  refine (irq_any _ w.heap.size w.heap.size A n cp zs _ HZ.out H.out.cur (by omega) hn).mono ?_
  rintro e w2 ⟨x, rfl, ⟨t2, ht2, hc⟩, hg⟩
  replace H := Lib.hid (H.out.draw hg hc)
  clear hc hg
  go_wp2_with fail
  refine (prio_any _ w.heap.size w.heap.size A n cp zs _ HZ.out H.out.cur (by omega) hn).mono ?_
  rintro e w3 ⟨y, rfl, ⟨t3, ht3, hc⟩, hg⟩
  replace H := Lib.hid (H.out.draw hg hc)
  clear hc hg
  go_wp2_with fail
  refine (cpu_any _ w.heap.size w.heap.size A n cp zs _ HZ.out H.out.cur (by omega) hn).mono ?_
  rintro e w4 ⟨z, rfl, ⟨t4, ht4, hc⟩, hg⟩
  replace H := Lib.hid (H.out.draw hg hc)
  clear hc hg
  go_wp2_with fail
  exact bodyPost_ret (v := .tuple #[.slice (some ⟨gl, 0, none⟩) m c, .int .i64 x, .int .i64 y, .int .i64 z]) (by simp [results, Try.results53, go_sem]) rfl ⟨gl, m, c, xs, x, y, z, rfl, listDrawn_of hm H.out⟩
set_option maxRecDepth 100000 in
set_option maxHeartbeats 2000000 in
theorem drawServeAll_any (w : World) (A : Option Addr) (n cp : Nat) (zs : List Int) (hz : ∀ z ∈ zs, 0 ≤ z ∧ z ≤ 255) (hr : Reads w w.heap.size 1 A n (zs.map (Value.int .u8))) (hn : n ≤ 1000000) :
    Calls Try.prog 46 #[.slice A n cp] w (DrL1 w) := by
  have HD := Lib.hid (drawReadyIrqs_any w A n cp zs hz hr hn)
  clear hr hz
  go_enter Try.func46, Try.ntmps46
  go_wp2_with fail
  refine HD.out.mono ?_
  rintro e w1 ⟨gl, m, c, xs, x, rfl, h⟩
  have H := Lib.hid h
  clear h HD
  go_wp2_with fail
  go_ret2
  exact ⟨gl, m, c, xs, x, rfl, H.out⟩
set_option maxRecDepth 100000 in
set_option maxHeartbeats 2000000 in
theorem drawEnableIrq_any (w : World) (A : Option Addr) (n cp : Nat) (zs : List Int) (hz : ∀ z ∈ zs, 0 ≤ z ∧ z ≤ 255) (hr : Reads w w.heap.size 1 A n (zs.map (Value.int .u8))) (hn : n ≤ 1000000) :
    Calls Try.prog 52 #[.slice A n cp] w (DrL2b w) := by
  have HD := Lib.hid (drawSetPending_any w A n cp zs hz hr hn)
  clear hr hz
  go_enter Try.func52, Try.ntmps52
  go_wp2_with fail
  refine HD.out.mono ?_
  rintro e w1 ⟨gl, m, c, xs, x, y, rfl, h⟩
  have H := Lib.hid h
  clear h HD
  go_wp2_with fail
  go_ret3
  exact ⟨gl, m, c, xs, x, y, rfl, H.out⟩
set_option maxRecDepth 100000 in
set_option maxHeartbeats 2000000 in
theorem drawBeginIrq_any (w : World) (A : Option Addr) (n cp : Nat) (zs : List Int) (hz : ∀ z ∈ zs, 0 ≤ z ∧ z ≤ 255) (hr : Reads w w.heap.size 1 A n (zs.map (Value.int .u8))) (hn : n ≤ 1000000) :
    Calls Try.prog 49 #[.slice A n cp] w (DrL1 w) := by
  have HC := Lib.hid (cur_new w A n cp zs hr)
  have HZ := Lib.hid hz
  clear hr hz
  go_enter Try.func49, Try.ntmps49
  go_wp2_with fail
  refine (irqs_any _ w.heap.size w.heap.size A n cp zs 0 HZ.out HC.out (by omega) hn).mono ?_
  rintro e w1 ⟨m, gl, c, t1, xs, rfl, hm, ht1, hl⟩
  have H := Lib.hid hl
  clear hl HC
  go_wp2_with fail
  refine (irq_any _ w.heap.size w.heap.size A n cp zs _ HZ.out H.out.cur (by omega) hn).mono ?_
  rintro e w2 ⟨x, rfl, ⟨t2, ht2, hc⟩, hg⟩
  replace H := Lib.hid (H.out.draw hg hc)
  clear hc hg
  by_cases hx0 : x < 0
  · have hgd : decide ((0 : Int) ≤ x) = false := decide_eq_false (by omega)
    go_wp2_with fail
    go_ret2
    exact ⟨gl, m, c, xs, x, rfl, listDrawn_of hm H.out⟩
  by_cases hxm : (m : Int) ≤ x
  · have hgd : decide ((0 : Int) ≤ x) = true := decide_eq_true (by omega)
    have hgd2 : decide (x < (m : Int)) = false := decide_eq_false (by omega)
    go_wp2_with fail
    go_ret2
    exact ⟨gl, m, c, xs, x, rfl, listDrawn_of hm H.out⟩
  obtain ⟨j, rfl⟩ : ∃ j : Nat, x = j := ⟨x.toNat, by omega⟩
  have hjm : j < m := by omega
  clear hx0 hxm
  go_wp2_with fail
  refine (one_any _ w.heap.size w.heap.size A n cp zs _ HZ.out H.out.cur (by omega) hn 2 (by omega) (by omega)).mono ?_
  rintro e w3 ⟨y, rfl, ⟨t3, ht3, hc⟩, hg⟩
  replace H := Lib.hid (H.out.draw hg hc)
  clear hc hg
  cases y with
  | false =>
    go_wp2_with fail
    go_ret2
    exact ⟨gl, m, c, xs, j, rfl, listDrawn_of hm H.out⟩
  | true =>
    have hown := H.out.own
    have hfl : (FL xs).length = m * 5 := hown.1
    have hxl : xs.length = m := by rw [FL_len] at hfl; exact Nat.eq_of_mul_eq_mul_right (by decide : 0 < 5) hfl
    obtain ⟨b9, o9, z, e9, _, hu, q0, q1, q2, q3, q4⟩ := irq_at (own_reads hown) hjm
    simp only [Option.some.injEq, Addr.mk.injEq, and_true] at e9
    obtain ⟨rfl, rfl⟩ := e9
    simp only [Nat.zero_add] at q0 q1 q2 q3 q4
    obtain ⟨x0, x1, x2, x3, x4⟩ := z
    simp only at q0 q1 q2 q3 q4
    have HA := Lib.hid (H.out.alloc (.cells #[.bool true, .bool true, .bool x2, .int .i64 x3, .int .i64 x4] 53))
    have HV := Lib.hid (Blk.new w3 #[.bool true, .bool true, .bool x2, .int .i64 x3, .int .i64 x4] 53)
    obtain ⟨gv, hgv⟩ : ∃ g, w3.heap.size = g := ⟨_, rfl⟩
    obtain ⟨wx, hwx⟩ : ∃ wx, w3.alloc (.cells #[.bool true, .bool true, .bool x2, .int .i64 x3, .int .i64 x4] 53) = wx := ⟨_, rfl⟩
    rw [hwx] at HA HV
    rw [hgv] at HV
    have HWX := Lib.hid hwx
    have HGV := Lib.hid hgv
    clear hown hwx hgv H hu
    go_upto_region 8 with fail
    rw [HWX.out, HGV.out]
    clear HWX HGV q0 q1 q2 q3 q4
    have hown := HA.out.own
    have v0 := HV.out.cell 0 _ rfl
    have v1 := HV.out.cell 1 _ rfl
    have v2 := HV.out.cell 2 _ rfl
    have v3 := HV.out.cell 3 _ rfl
    have v4 := HV.out.cell 4 _ rfl
    have hpt := irq_put hown (k := j) (by omega) ⟨true, true, x2, x3, x4⟩
    have H := Lib.hid (HA.out.grow hpt.2 hpt.1)
    obtain ⟨d0, c0⟩ : ∃ d, wx.cell? ⟨gl, j * 5, none⟩ = some d := ⟨_, (hown.cellAt (j * 5) (by omega)).trans (List.getElem?_eq_getElem (by omega))⟩
    have f0 := hown.frozenAt (j * 5)
    obtain ⟨d1, c1⟩ : ∃ d, wx.cell? ⟨gl, j * 5 + 1, none⟩ = some d := ⟨_, (hown.cellAt (j * 5 + 1) (by omega)).trans (List.getElem?_eq_getElem (by omega))⟩
    have f1 := hown.frozenAt (j * 5 + 1)
    obtain ⟨d2, c2⟩ : ∃ d, wx.cell? ⟨gl, j * 5 + 2, none⟩ = some d := ⟨_, (hown.cellAt (j * 5 + 2) (by omega)).trans (List.getElem?_eq_getElem (by omega))⟩
    have f2 := hown.frozenAt (j * 5 + 2)
    obtain ⟨d3, c3⟩ : ∃ d, wx.cell? ⟨gl, j * 5 + 3, none⟩ = some d := ⟨_, (hown.cellAt (j * 5 + 3) (by omega)).trans (List.getElem?_eq_getElem (by omega))⟩
    have f3 := hown.frozenAt (j * 5 + 3)
    obtain ⟨d4, c4⟩ : ∃ d, wx.cell? ⟨gl, j * 5 + 4, none⟩ = some d := ⟨_, (hown.cellAt (j * 5 + 4) (by omega)).trans (List.getElem?_eq_getElem (by omega))⟩
    have f4 := hown.frozenAt (j * 5 + 4)
    have hjz : (j : Int) < m := by omega
    clear hown hpt hfl hxl HA HV
    go_wp2_with fail
    go_ret2
    exact ⟨gl, m, c, xs.set j ⟨true, true, x2, x3, x4⟩, (j : Int), rfl, listDrawn_of hm H.out⟩
set_option maxRecDepth 100000 in
set_option maxHeartbeats 2000000 in
theorem drawEndIrq_any (w : World) (A : Option Addr) (n cp : Nat) (zs : List Int) (hz : ∀ z ∈ zs, 0 ≤ z ∧ z ≤ 255) (hr : Reads w w.heap.size 1 A n (zs.map (Value.int .u8))) (hn : n ≤ 1000000) :
    Calls Try.prog 50 #[.slice A n cp] w (DrL1 w) := by
  have HC := Lib.hid (cur_new w A n cp zs hr)
  have HZ := Lib.hid hz
  clear hr hz
  go_enter Try.func50, Try.ntmps50
  go_wp2_with fail
  refine (irqs_any _ w.heap.size w.heap.size A n cp zs 0 HZ.out HC.out (by omega) hn).mono ?_
  rintro e w1 ⟨m, gl, c, t1, xs, rfl, hm, ht1, hl⟩
  have H := Lib.hid hl
  clear hl HC
  go_wp2_with fail
  refine (irq_any _ w.heap.size w.heap.size A n cp zs _ HZ.out H.out.cur (by omega) hn).mono ?_
  rintro e w2 ⟨x, rfl, ⟨t2, ht2, hc⟩, hg⟩
  replace H := Lib.hid (H.out.draw hg hc)
  clear hc hg
  by_cases hx0 : x < 0
  · have hgd : decide ((0 : Int) ≤ x) = false := decide_eq_false (by omega)
    go_wp2_with fail
    go_ret2
    exact ⟨gl, m, c, xs, x, rfl, listDrawn_of hm H.out⟩
  by_cases hxm : (m : Int) ≤ x
  · have hgd : decide ((0 : Int) ≤ x) = true := decide_eq_true (by omega)
    have hgd2 : decide (x < (m : Int)) = false := decide_eq_false (by omega)
    go_wp2_with fail
    go_ret2
    exact ⟨gl, m, c, xs, x, rfl, listDrawn_of hm H.out⟩
  obtain ⟨j, rfl⟩ : ∃ j : Nat, x = j := ⟨x.toNat, by omega⟩
  have hjm : j < m := by omega
  clear hx0 hxm
  go_wp2_with fail
  refine (one_any _ w.heap.size w.heap.size A n cp zs _ HZ.out H.out.cur (by omega) hn 2 (by omega) (by omega)).mono ?_
  rintro e w3 ⟨y, rfl, ⟨t3, ht3, hc⟩, hg⟩
  replace H := Lib.hid (H.out.draw hg hc)
  clear hc hg
  cases y with
  | false =>
    go_wp2_with fail
    go_ret2
    exact ⟨gl, m, c, xs, j, rfl, listDrawn_of hm H.out⟩
  | true =>
    have hown := H.out.own
    have hfl : (FL xs).length = m * 5 := hown.1
    have hxl : xs.length = m := by rw [FL_len] at hfl; exact Nat.eq_of_mul_eq_mul_right (by decide : 0 < 5) hfl
    obtain ⟨b9, o9, z, e9, _, hu, q0, q1, q2, q3, q4⟩ := irq_at (own_reads hown) hjm
    simp only [Option.some.injEq, Addr.mk.injEq, and_true] at e9
    obtain ⟨rfl, rfl⟩ := e9
    simp only [Nat.zero_add] at q0 q1 q2 q3 q4
    obtain ⟨x0, x1, x2, x3, x4⟩ := z
    simp only at q0 q1 q2 q3 q4
    have HA := Lib.hid (H.out.alloc (.cells #[.bool x0, .bool x1, .bool true, .int .i64 x3, .int .i64 x4] 53))
    have HV := Lib.hid (Blk.new w3 #[.bool x0, .bool x1, .bool true, .int .i64 x3, .int .i64 x4] 53)
    obtain ⟨gv, hgv⟩ : ∃ g, w3.heap.size = g := ⟨_, rfl⟩
    obtain ⟨wx, hwx⟩ : ∃ wx, w3.alloc (.cells #[.bool x0, .bool x1, .bool true, .int .i64 x3, .int .i64 x4] 53) = wx := ⟨_, rfl⟩
    rw [hwx] at HA HV
    rw [hgv] at HV
    have HWX := Lib.hid hwx
    have HGV := Lib.hid hgv
    clear hown hwx hgv H hu
    go_upto_region 7 with fail
    rw [HWX.out, HGV.out]
    clear HWX HGV q0 q1 q2 q3 q4
    have hown := HA.out.own
    have v0 := HV.out.cell 0 _ rfl
    have v1 := HV.out.cell 1 _ rfl
    have v2 := HV.out.cell 2 _ rfl
    have v3 := HV.out.cell 3 _ rfl
    have v4 := HV.out.cell 4 _ rfl
    have hpt := irq_put hown (k := j) (by omega) ⟨x0, x1, true, x3, x4⟩
    have H := Lib.hid (HA.out.grow hpt.2 hpt.1)
    obtain ⟨d0, c0⟩ : ∃ d, wx.cell? ⟨gl, j * 5, none⟩ = some d := ⟨_, (hown.cellAt (j * 5) (by omega)).trans (List.getElem?_eq_getElem (by omega))⟩
    have f0 := hown.frozenAt (j * 5)
    obtain ⟨d1, c1⟩ : ∃ d, wx.cell? ⟨gl, j * 5 + 1, none⟩ = some d := ⟨_, (hown.cellAt (j * 5 + 1) (by omega)).trans (List.getElem?_eq_getElem (by omega))⟩
    have f1 := hown.frozenAt (j * 5 + 1)
    obtain ⟨d2, c2⟩ : ∃ d, wx.cell? ⟨gl, j * 5 + 2, none⟩ = some d := ⟨_, (hown.cellAt (j * 5 + 2) (by omega)).trans (List.getElem?_eq_getElem (by omega))⟩
    have f2 := hown.frozenAt (j * 5 + 2)
    obtain ⟨d3, c3⟩ : ∃ d, wx.cell? ⟨gl, j * 5 + 3, none⟩ = some d := ⟨_, (hown.cellAt (j * 5 + 3) (by omega)).trans (List.getElem?_eq_getElem (by omega))⟩
    have f3 := hown.frozenAt (j * 5 + 3)
    obtain ⟨d4, c4⟩ : ∃ d, wx.cell? ⟨gl, j * 5 + 4, none⟩ = some d := ⟨_, (hown.cellAt (j * 5 + 4) (by omega)).trans (List.getElem?_eq_getElem (by omega))⟩
    have f4 := hown.frozenAt (j * 5 + 4)
    have hjz : (j : Int) < m := by omega
    clear hown hpt hfl hxl HA HV
    go_wp2_with fail
    go_ret2
    exact ⟨gl, m, c, xs.set j ⟨x0, x1, true, x3, x4⟩, (j : Int), rfl, listDrawn_of hm H.out⟩
end Go.Proofs.Ytclnhdjnmfkeaaa.Draw
