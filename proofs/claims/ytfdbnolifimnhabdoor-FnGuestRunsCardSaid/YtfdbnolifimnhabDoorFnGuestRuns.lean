/- For every code the law FnGuestRuns returns true; the listed variables read as the program's text lays them (the card ties them). -/
import Derived.Test.YtfdbnolifimnhabDoorCards
import Derived.Test.YtfdbnolifimnhabDoorTie
import Derived.Test.YtfdbnolifimnhabDoorFrame
import Derived.Test.YtfdbnolifimnhabDoorDr3C
import Derived.Test.YtfdbnolifimnhabDoorRunGS
import Derived.Test.YtfdbnolifimnhabDoorReachX
import Derived.Test.YtfdbnolifimnhabDoorAre
import Derived.Test.YtfdbnolifimnhabDoorRReg
import Derived.Test.YtfdbnolifimnhabDoorRHas
import Derived.Test.YtfdbnolifimnhabDoorGuP
import Derived.Deep.Cut
import Derived.Deep.CutRange
namespace Go.Proofs.YtfdbnolifimnhabDoor.fnGuestRuns
open Go.ChangeShapes Go.WideShapes Go.ChangeAt Go.RowKit
open Go.ChangeMaps (open_string shut_string)
open Go Go.Proofs.YtfdbnolifimnhabDoor.L3 Go.Proofs.YtfdbnolifimnhabDoor.Mem Go.Proofs.YtfdbnolifimnhabDoor.Own Go.Proofs.YtfdbnolifimnhabDoor.L1 Go.Proofs.YtfdbnolifimnhabDoor.Draw
set_option linter.unusedVariables false
theorem own : ownKnob Tryd.prog.godebug = none := by kernel_rfl
theorem laidOut : laidOutB Tryd.prog = true := by kernel_rfl
theorem tab {W : World} (h : laidMetH Tryd.prog Rows.fnGuestRunsRow.laid W) : OpsIs W := opsIs_of_mem h (.head _)
theorem pass {w w1 w2 : World} (h : Below w.heap.size w w1) (k : Below w1.heap.size w1 w2) : Below w.heap.size w w2 := h.trans (k.mono h.size)
theorem own_far {w : World} {b q m : Nat} {v : Value} {L : List Int} {c0 : Array Value} (h : w.ownsRow b 3 1 v m (I L)) (hb : Blk w q 40 c0) : v.ownBlock ≠ some q := fun e => by
  obtain ⟨cur, hh⟩ := block_of_own h e
  unfold Blk at hb
  rw [hb] at hh
  simp at hh
theorem own_farI {w : World} {b q m : Nat} {v : Value} {xs : List Ins} {c0 : Array Value} (h : w.ownsRow b 25 4 v m (FL xs)) (hb : Blk w q 40 c0) : v.ownBlock ≠ some q := fun e => by
  obtain ⟨cur, hh⟩ := block_of_own h e
  unfold Blk at hb
  rw [hb] at hh
  simp at hh
/-- the loop's state -/
structure LpSt (W w : World) (gl m c0 : Nat) (xs : List Ins) (A1 : Option Addr) (n1 c1 : Nat) (L : List Int) (A0 : Option Addr) (l c9 : Nat) (r : List Int) (A8 : Option Addr) (n8 c8 : Nat) (M : List Int) (t4 t6 t12 : Nat) (s4 s6 s12 : Array Value) : Prop where
  bel : Below W.heap.size W w
  pg : w.ownsRow W.heap.size 25 4 (.slice (some ⟨gl, 0, none⟩) m c0) m (FL xs)
  og : w.ownsRow W.heap.size 3 1 (.slice A1 n1 c1) n1 (I L)
  oo : w.ownsRow W.heap.size 3 1 (.slice A0 l c9) l (I r)
  on : w.ownsRow W.heap.size 3 1 (.slice A8 n8 c8) n8 (I M)
  b4 : Blk w t4 40 s4
  b6 : Blk w t6 40 s6
  b12 : Blk w t12 40 s12
  n4 : t4 < t12
  n6 : t6 < t12
  hT : W.heap.size ≤ t12
section
variable {W w w' : World} {gl m c0 n1 c1 l c9 n8 c8 n7 c7 t4 t6 t12 : Nat} {xs : List Ins} {A1 A0 A8 A7 : Option Addr} {L r M M' : List Int} {s4 s6 s12 : Array Value}
theorem LpSt.below (h : LpSt W w gl m c0 xs A1 n1 c1 L A0 l c9 r A8 n8 c8 M t4 t6 t12 s4 s6 s12) (hb : Below w.heap.size w w') : LpSt W w' gl m c0 xs A1 n1 c1 L A0 l c9 r A8 n8 c8 M t4 t6 t12 s4 s6 s12 :=
  ⟨pass h.bel hb, own_below h.pg hb, own_below h.og hb, own_below h.oo hb, own_below h.on hb, Blk.kept hb h.b4, Blk.kept hb h.b6, Blk.kept hb h.b12, h.n4, h.n6, h.hT⟩
theorem LpSt.set (h : LpSt W w gl m c0 xs A1 n1 c1 L A0 l c9 r A8 n8 c8 M t4 t6 t12 s4 s6 s12) (j : Nat) (u : Value) : LpSt W (w.setCell ⟨t12, j, none⟩ u) gl m c0 xs A1 n1 c1 L A0 l c9 r A8 n8 c8 M t4 t6 t12 s4 s6 (s12.setIfInBounds j u) :=
  ⟨below_set h.bel h.hT u, own_set h.pg u (own_farI h.pg h.b12), own_set h.og u (own_far h.og h.b12), own_set h.oo u (own_far h.oo h.b12), own_set h.on u (own_far h.on h.b12), h.b4.other u (Nat.ne_of_lt h.n4), h.b6.other u (Nat.ne_of_lt h.n6), h.b12.set j u, h.n4, h.n6, h.hT⟩
theorem LpSt.now (h : LpSt W w gl m c0 xs A1 n1 c1 L A0 l c9 r A8 n8 c8 M t4 t6 t12 s4 s6 s12) (ho : w.ownsRow W.heap.size 3 1 (.slice A7 n7 c7) n7 (I M')) : LpSt W w gl m c0 xs A1 n1 c1 L A0 l c9 r A7 n7 c7 M' t4 t6 t12 s4 s6 s12 := ⟨h.bel, h.pg, h.og, h.oo, ho, h.b4, h.b6, h.b12, h.n4, h.n6, h.hT⟩
end
theorem own_len {w : World} {b n : Nat} {v : Value} {L : List Int} (h : w.ownsRow b 3 1 v n (I L)) : L.length = n := by have := h.1; simpa [I] using this
set_option maxRecDepth 100000 in
set_option maxHeartbeats 8000000 in
theorem walk0 (W : World) (A : Option Addr) (n c : Nat) (zs : List Int) (hz : ∀ z ∈ zs, 0 ≤ z ∧ z ≤ 255) (hr : Reads W W.heap.size 1 A n (zs.map (Value.int .u8))) (ho : OpsIs W) :
    Calls Tryd.prog 4 #[.slice A n c] W fun e W' => e = .returned (.bool true) ∧ Below W.heap.size W W' := by
  by_cases h1 : (65536 : Int) < n
  · have hv := rBig_any A n c W
    rw [decide_eq_true h1] at hv
    have HV := Lib.hid hv
    clear hv hr ho
    go_enter Tryd.func4, Tryd.ntmps4
    go_wp2_with fail
    refine HV.out.mono ?_
    rintro e w1 ⟨rfl, rfl⟩
    go_wp2_with fail
    go_ret
    exact ⟨rfl, Below.refl _ _⟩
  have hv := rBig_any A n c W
  rw [decide_eq_false h1] at hv
  have HV := Lib.hid hv
  have hn : n ≤ 1000000 := by omega
  have HR := Lib.hid fun (w : World) (hb : Below W.heap.size W w) => (show Reads w w.heap.size 1 A n (zs.map (Value.int .u8)) from (hr.below hb).more hb.size)
  have HZ := Lib.hid hz
  have HO := Lib.hid ho
  have HW := Lib.hid (Below.refl W.heap.size W)
  clear hv hr hz h1 ho
  go_enter Tryd.func4, Tryd.ntmps4
  go_wp2_with fail
  refine HV.out.mono ?_
  rintro e w0 ⟨rfl, rfl⟩
  clear HV
  go_wp2_with fail
  refine (drawRunGuest_any _ A n c zs HZ.out (HR.out _ HW.out) hn).mono ?_
  rintro e wd ⟨gl, m, c0, xs, A1, n1, c1, L, p, zo, st, most, rfl, ⟨hm, ho1, hb⟩, hk1, ho2⟩
  have PR := Lib.hid (own_mono ho1 HW.out.size)
  have RG := Lib.hid (own_mono ho2 HW.out.size)
  replace HW := Lib.hid (pass HW.out hb)
  clear hb ho1 ho2
  have BG := Lib.hid (Blk.new wd #[.slice A1 n1 c1, .int .i64 p, .bool zo, .bool st] 40)
  obtain ⟨gBG, hg⟩ : ∃ g, wd.heap.size = g := ⟨_, rfl⟩
  obtain ⟨w1, hwa⟩ : ∃ wa, wd.alloc (.cells #[.slice A1 n1 c1, .int .i64 p, .bool zo, .bool st] 40) = wa := ⟨_, rfl⟩
  have hba : Below wd.heap.size wd w1 := by rw [← hwa]; exact below_more (Below.refl _ _) _
  have lBG : W.heap.size ≤ gBG := by rw [← hg]; exact HW.out.size
  rw [hwa, hg] at BG
  have HWA := Lib.hid hwa
  have HG := Lib.hid hg
  clear hwa hg
  replace HW := Lib.hid (pass HW.out hba)
  replace PR := Lib.hid (own_below PR.out hba)
  replace RG := Lib.hid (own_below RG.out hba)
  clear hba
  go_upto_region 4 with fail
  rw [HWA.out, HG.out]
  clear HWA HG
  obtain ⟨res, cnt, ok, hri, hrl⟩ := runIs_ex xs ⟨L, p, zo, st⟩ most
  obtain ⟨r, rp, rz, rs⟩ := res
  obtain ⟨l, hll⟩ : ∃ l, r.length = l := ⟨_, rfl⟩
  have hl4 : l ≤ 4 := by rw [← hll]; exact hrl
  have hRI : ∀ w, w.ownsRow W.heap.size 25 4 (.slice (some ⟨gl, 0, none⟩) m c0) m (FL xs) → w.ownsRow W.heap.size 3 1 (.slice A1 n1 c1) n1 (I L) → OpsIs w → Calls Tryd.prog 20 #[.slice (some ⟨gl, 0, none⟩) m c0, .agg #[.slice A1 n1 c1, .int .i64 p, .bool zo, .bool st], .int .i64 most] w fun e w' => ∃ A0 c9, e = .returned (.tuple #[.agg #[.slice A0 l c9, .int .i64 rp, .bool rz, .bool rs], .int .i64 cnt, .bool ok]) ∧ w'.ownsRow w.heap.size 3 1 (.slice A0 l c9) l (I r) ∧ Below w.heap.size w w' := fun w h1 h2 ho => by
    have h := implRun_any (some ⟨gl, 0, none⟩) A1 m c0 n1 c1 xs ⟨L, p, zo, st⟩ most w (Reads.of_own h1) (by omega) (Reads.of_own h2) (by omega) ho ⟨r, rp, rz, rs⟩ cnt ok hri
    rw [show (Regs.mk r rp rz rs).r.length = l from hll] at h
    exact h
  have HhRI := Lib.hid hRI
  clear hRI
  have hRS : ∀ w, w.ownsRow W.heap.size 25 4 (.slice (some ⟨gl, 0, none⟩) m c0) m (FL xs) → w.ownsRow W.heap.size 3 1 (.slice A1 n1 c1) n1 (I L) → Calls Tryd.prog 21 #[.slice (some ⟨gl, 0, none⟩) m c0, .agg #[.slice A1 n1 c1, .int .i64 p, .bool zo, .bool st], .int .i64 most] w fun e w' => ∃ A0 c9, e = .returned (.tuple #[.agg #[.slice A0 l c9, .int .i64 rp, .bool rz, .bool rs], .int .i64 cnt, .bool ok]) ∧ w'.ownsRow w.heap.size 3 1 (.slice A0 l c9) l (I r) ∧ Below w.heap.size w w' := fun w h1 h2  => by
    have h := specRun_any (some ⟨gl, 0, none⟩) A1 m c0 n1 c1 xs ⟨L, p, zo, st⟩ most w (Reads.of_own h1) (by omega) (Reads.of_own h2) (by omega)  ⟨r, rp, rz, rs⟩ cnt ok hri
    rw [show (Regs.mk r rp rz rs).r.length = l from hll] at h
    exact h
  have HhRS := Lib.hid hRS
  clear hRS
  have HRIS := Lib.hid hri
  clear hri hrl hll
  have pBG0 := BG.out.cell 0 _ rfl
  have pBG1 := BG.out.cell 1 _ rfl
  have pBG2 := BG.out.cell 2 _ rfl
  have pBG3 := BG.out.cell 3 _ rfl
  go_wp2_with fail
  refine (HhRI.out _ PR.out RG.out (ops_below HW.out HO.out)).mono ?_
  rintro e w2 ⟨A0, c9, rfl, hown, hb⟩
  have NR := Lib.hid (own_mono hown HW.out.size)
  clear hown
  replace HW := Lib.hid (pass HW.out hb)
  replace PR := Lib.hid (own_below PR.out hb)
  replace RG := Lib.hid (own_below RG.out hb)
  replace BG := Lib.hid (Blk.kept hb BG.out)
  clear hb
  clear pBG0 pBG1 pBG2 pBG3
  have RO := NR
  clear NR
  have BO := Lib.hid (Blk.new w2 #[.slice A0 l c9, .int .i64 rp, .bool rz, .bool rs] 40)
  obtain ⟨gBO, hg⟩ : ∃ g, w2.heap.size = g := ⟨_, rfl⟩
  obtain ⟨w3, hwa⟩ : ∃ wa, w2.alloc (.cells #[.slice A0 l c9, .int .i64 rp, .bool rz, .bool rs] 40) = wa := ⟨_, rfl⟩
  have hba : Below w2.heap.size w2 w3 := by rw [← hwa]; exact below_more (Below.refl _ _) _
  have lBG_BO : gBG < gBO := by rw [← hg]; exact BG.out.lt
  have lBO : W.heap.size ≤ gBO := by rw [← hg]; exact HW.out.size
  rw [hwa, hg] at BO
  have HWA := Lib.hid hwa
  have HG := Lib.hid hg
  clear hwa hg
  replace HW := Lib.hid (pass HW.out hba)
  replace PR := Lib.hid (own_below PR.out hba)
  replace RG := Lib.hid (own_below RG.out hba)
  replace RO := Lib.hid (own_below RO.out hba)
  replace BG := Lib.hid (Blk.kept hba BG.out)
  clear hba
  go_upto_region 5 with fail
  rw [HWA.out, HG.out]
  clear HWA HG
  have pBG0 := BG.out.cell 0 _ rfl
  have pBG1 := BG.out.cell 1 _ rfl
  have pBG2 := BG.out.cell 2 _ rfl
  have pBG3 := BG.out.cell 3 _ rfl
  go_wp2_with fail
  refine (HhRS.out _ PR.out RG.out).mono ?_
  rintro e w4 ⟨A2, c2, rfl, hown, hb⟩
  have NR := Lib.hid (own_mono hown HW.out.size)
  clear hown
  replace HW := Lib.hid (pass HW.out hb)
  replace PR := Lib.hid (own_below PR.out hb)
  replace RG := Lib.hid (own_below RG.out hb)
  replace RO := Lib.hid (own_below RO.out hb)
  replace BG := Lib.hid (Blk.kept hb BG.out)
  replace BO := Lib.hid (Blk.kept hb BO.out)
  clear hb
  clear pBG0 pBG1 pBG2 pBG3
  have RT := NR
  clear NR
  have BT := Lib.hid (Blk.new w4 #[.slice A2 l c2, .int .i64 rp, .bool rz, .bool rs] 40)
  obtain ⟨gBT, hg⟩ : ∃ g, w4.heap.size = g := ⟨_, rfl⟩
  obtain ⟨w5, hwa⟩ : ∃ wa, w4.alloc (.cells #[.slice A2 l c2, .int .i64 rp, .bool rz, .bool rs] 40) = wa := ⟨_, rfl⟩
  have hba : Below w4.heap.size w4 w5 := by rw [← hwa]; exact below_more (Below.refl _ _) _
  have lBG_BT : gBG < gBT := by rw [← hg]; exact BG.out.lt
  have lBO_BT : gBO < gBT := by rw [← hg]; exact BO.out.lt
  have lBT : W.heap.size ≤ gBT := by rw [← hg]; exact HW.out.size
  rw [hwa, hg] at BT
  have HWA := Lib.hid hwa
  have HG := Lib.hid hg
  clear hwa hg
  replace HW := Lib.hid (pass HW.out hba)
  replace PR := Lib.hid (own_below PR.out hba)
  replace RG := Lib.hid (own_below RG.out hba)
  replace RO := Lib.hid (own_below RO.out hba)
  replace RT := Lib.hid (own_below RT.out hba)
  replace BG := Lib.hid (Blk.kept hba BG.out)
  replace BO := Lib.hid (Blk.kept hba BO.out)
  clear hba
  go_upto_region 6 with fail
  rw [HWA.out, HG.out]
  clear HWA HG
  have e1 : (ok != ok) = false := by simp
  have e2 : (cnt != cnt) = false := by simp
  clear HhRI HhRS
  have pBO0 := BO.out.cell 0 _ rfl
  have pBO1 := BO.out.cell 1 _ rfl
  have pBO2 := BO.out.cell 2 _ rfl
  have pBO3 := BO.out.cell 3 _ rfl
  have pBT0 := BT.out.cell 0 _ rfl
  have pBT1 := BT.out.cell 1 _ rfl
  have pBT2 := BT.out.cell 2 _ rfl
  have pBT3 := BT.out.cell 3 _ rfl
  go_wp2_with fail
  refine (rRegisters_same A0 A2 l c9 c2 r rp rz rs _ (by omega) (Reads.of_own RO.out) (Reads.of_own RT.out)).mono ?_
  rintro e w6 ⟨rfl, hb⟩
  replace HW := Lib.hid (pass HW.out hb)
  replace PR := Lib.hid (own_below PR.out hb)
  replace RG := Lib.hid (own_below RG.out hb)
  replace RO := Lib.hid (own_below RO.out hb)
  replace RT := Lib.hid (own_below RT.out hb)
  replace BG := Lib.hid (Blk.kept hb BG.out)
  replace BO := Lib.hid (Blk.kept hb BO.out)
  replace BT := Lib.hid (Blk.kept hb BT.out)
  clear hb
  clear pBO0 pBO1 pBO2 pBO3 pBT0 pBT1 pBT2 pBT3
  clear e1 e2
  clear BT RT
  cases ok with
  | false =>
    clear HRIS
    clear BG BO PR RG RO
    go_wp2_with fail
    refine (drawStepGuest_any _ A n c zs HZ.out (HR.out _ HW.out) hn).mono ?_
    rintro e w7 ⟨gl, m, c0, xs, A1, n1, c1, L, p, zo, st, rfl, ⟨hm, ho1, hb⟩, hk1, ho2⟩
    have PR := Lib.hid (own_mono ho1 HW.out.size)
    have RG := Lib.hid (own_mono ho2 HW.out.size)
    replace HW := Lib.hid (pass HW.out hb)
    clear hb ho1 ho2
    have BG := Lib.hid (Blk.new w7 #[.slice A1 n1 c1, .int .i64 p, .bool zo, .bool st] 40)
    obtain ⟨gBG, hg⟩ : ∃ g, w7.heap.size = g := ⟨_, rfl⟩
    obtain ⟨w8, hwa⟩ : ∃ wa, w7.alloc (.cells #[.slice A1 n1 c1, .int .i64 p, .bool zo, .bool st] 40) = wa := ⟨_, rfl⟩
    have hba : Below w7.heap.size w7 w8 := by rw [← hwa]; exact below_more (Below.refl _ _) _
    have lBG : W.heap.size ≤ gBG := by rw [← hg]; exact HW.out.size
    rw [hwa, hg] at BG
    have HWA := Lib.hid hwa
    have HG := Lib.hid hg
    clear hwa hg
    replace HW := Lib.hid (pass HW.out hba)
    replace PR := Lib.hid (own_below PR.out hba)
    replace RG := Lib.hid (own_below RG.out hba)
    clear hba
    go_upto_region 27 with fail
    rw [HWA.out, HG.out]
    clear HWA HG
    obtain ⟨⟨r, rp, rz, rs⟩, ok, hres⟩ : ∃ (g : Regs) (ok : Bool), resOf xs ⟨L, p, zo, st⟩ = (g, ok) := ⟨_, _, rfl⟩
    obtain ⟨l, hll⟩ : ∃ l, r.length = l := ⟨_, rfl⟩
    have HSI := Lib.hid (implStep_any (some ⟨gl, 0, none⟩) A1 m c0 n1 c1 xs ⟨L, p, zo, st⟩)
    have HSS := Lib.hid (specStep_any (some ⟨gl, 0, none⟩) A1 m c0 n1 c1 xs ⟨L, p, zo, st⟩)
    rw [hres] at HSI HSS
    simp only [hll] at HSI HSS
    have hl4 : l ≤ 4 := by
      by_cases hh : OkG xs ⟨L, p, zo, st⟩ ∧ st = false
      · have h5 := len_step hh.1
        have h6 : resOf xs ⟨L, p, zo, st⟩ = (stepOf xs ⟨L, p, zo, st⟩, true) := by unfold resOf; rw [if_pos hh]
        rw [h6] at hres
        injection hres with e1 e2
        rw [e1] at h5
        simp only at h5
        omega
      · have h6 : resOf xs ⟨L, p, zo, st⟩ = (⟨[], 0, false, false⟩, false) := by unfold resOf; rw [if_neg hh]
        rw [h6] at hres
        injection hres with e1 e2
        injection e1 with e3
        rw [← hll, ← e3]; simp
    clear hres hll
    have pBG0 := BG.out.cell 0 _ rfl
    have pBG1 := BG.out.cell 1 _ rfl
    have pBG2 := BG.out.cell 2 _ rfl
    have pBG3 := BG.out.cell 3 _ rfl
    go_wp2_with fail
    refine (HSI.out _ (Reads.of_own PR.out) (by omega) (Reads.of_own RG.out) (by omega) (ops_below HW.out HO.out)).mono ?_
    rintro e w9 ⟨A0, c9, rfl, hown, hb⟩
    have NR := Lib.hid (own_mono hown HW.out.size)
    clear hown
    replace HW := Lib.hid (pass HW.out hb)
    replace PR := Lib.hid (own_below PR.out hb)
    replace RG := Lib.hid (own_below RG.out hb)
    replace BG := Lib.hid (Blk.kept hb BG.out)
    clear hb
    clear pBG0 pBG1 pBG2 pBG3
    have RO := NR
    clear NR
    have BO := Lib.hid (Blk.new w9 #[.slice A0 l c9, .int .i64 rp, .bool rz, .bool rs] 40)
    obtain ⟨gBO, hg⟩ : ∃ g, w9.heap.size = g := ⟨_, rfl⟩
    obtain ⟨w10, hwa⟩ : ∃ wa, w9.alloc (.cells #[.slice A0 l c9, .int .i64 rp, .bool rz, .bool rs] 40) = wa := ⟨_, rfl⟩
    have hba : Below w9.heap.size w9 w10 := by rw [← hwa]; exact below_more (Below.refl _ _) _
    have lBG_BO : gBG < gBO := by rw [← hg]; exact BG.out.lt
    have lBO : W.heap.size ≤ gBO := by rw [← hg]; exact HW.out.size
    rw [hwa, hg] at BO
    have HWA := Lib.hid hwa
    have HG := Lib.hid hg
    clear hwa hg
    replace HW := Lib.hid (pass HW.out hba)
    replace PR := Lib.hid (own_below PR.out hba)
    replace RG := Lib.hid (own_below RG.out hba)
    replace RO := Lib.hid (own_below RO.out hba)
    replace BG := Lib.hid (Blk.kept hba BG.out)
    clear hba
    go_upto_region 28 with fail
    rw [HWA.out, HG.out]
    clear HWA HG
    have pBG0 := BG.out.cell 0 _ rfl
    have pBG1 := BG.out.cell 1 _ rfl
    have pBG2 := BG.out.cell 2 _ rfl
    have pBG3 := BG.out.cell 3 _ rfl
    go_wp2_with fail
    refine (HSS.out _ (Reads.of_own PR.out) (by omega) (Reads.of_own RG.out) (by omega)).mono ?_
    rintro e w11 ⟨A2, c2, rfl, hown, hb⟩
    have NR := Lib.hid (own_mono hown HW.out.size)
    clear hown
    replace HW := Lib.hid (pass HW.out hb)
    replace PR := Lib.hid (own_below PR.out hb)
    replace RG := Lib.hid (own_below RG.out hb)
    replace RO := Lib.hid (own_below RO.out hb)
    replace BG := Lib.hid (Blk.kept hb BG.out)
    replace BO := Lib.hid (Blk.kept hb BO.out)
    clear hb
    clear pBG0 pBG1 pBG2 pBG3
    have RT := NR
    clear NR
    have BT := Lib.hid (Blk.new w11 #[.slice A2 l c2, .int .i64 rp, .bool rz, .bool rs] 40)
    obtain ⟨gBT, hg⟩ : ∃ g, w11.heap.size = g := ⟨_, rfl⟩
    obtain ⟨w12, hwa⟩ : ∃ wa, w11.alloc (.cells #[.slice A2 l c2, .int .i64 rp, .bool rz, .bool rs] 40) = wa := ⟨_, rfl⟩
    have hba : Below w11.heap.size w11 w12 := by rw [← hwa]; exact below_more (Below.refl _ _) _
    have lBG_BT : gBG < gBT := by rw [← hg]; exact BG.out.lt
    have lBO_BT : gBO < gBT := by rw [← hg]; exact BO.out.lt
    have lBT : W.heap.size ≤ gBT := by rw [← hg]; exact HW.out.size
    rw [hwa, hg] at BT
    have HWA := Lib.hid hwa
    have HG := Lib.hid hg
    clear hwa hg
    replace HW := Lib.hid (pass HW.out hba)
    replace PR := Lib.hid (own_below PR.out hba)
    replace RG := Lib.hid (own_below RG.out hba)
    replace RO := Lib.hid (own_below RO.out hba)
    replace RT := Lib.hid (own_below RT.out hba)
    replace BG := Lib.hid (Blk.kept hba BG.out)
    replace BO := Lib.hid (Blk.kept hba BO.out)
    clear hba
    go_upto_region 29 with fail
    rw [HWA.out, HG.out]
    clear HWA HG
    have e1 : (ok != ok) = false := by simp
    clear HSI HSS
    have pBO0 := BO.out.cell 0 _ rfl
    have pBO1 := BO.out.cell 1 _ rfl
    have pBO2 := BO.out.cell 2 _ rfl
    have pBO3 := BO.out.cell 3 _ rfl
    have pBT0 := BT.out.cell 0 _ rfl
    have pBT1 := BT.out.cell 1 _ rfl
    have pBT2 := BT.out.cell 2 _ rfl
    have pBT3 := BT.out.cell 3 _ rfl
    go_wp2_with fail
    refine (rRegisters_same A0 A2 l c9 c2 r rp rz rs _ (by omega) (Reads.of_own RO.out) (Reads.of_own RT.out)).mono ?_
    rintro e w13 ⟨rfl, hb⟩
    replace HW := Lib.hid (pass HW.out hb)
    replace PR := Lib.hid (own_below PR.out hb)
    replace RG := Lib.hid (own_below RG.out hb)
    replace RO := Lib.hid (own_below RO.out hb)
    replace RT := Lib.hid (own_below RT.out hb)
    replace BG := Lib.hid (Blk.kept hb BG.out)
    replace BO := Lib.hid (Blk.kept hb BO.out)
    replace BT := Lib.hid (Blk.kept hb BT.out)
    clear hb
    clear pBO0 pBO1 pBO2 pBO3 pBT0 pBT1 pBT2 pBT3
    clear e1
    clear BG BO BT PR RG RO RT
    go_wp2_with fail
    refine (drawReachedBy_any _ A n c zs HZ.out (HR.out _ HW.out) hn).mono ?_
    rintro e w14 ⟨gl, m, c0, xs, rfl, ⟨hm, ho1, hb⟩⟩
    have PR := Lib.hid (own_mono ho1 HW.out.size)
    replace HW := Lib.hid (pass HW.out hb)
    clear hb ho1
    obtain ⟨Y, b9, hy1, hy2, hyl⟩ := reach_ex xs
    have hbd : decide (OkP xs) = b9 := by
      by_cases hh : OkP xs
      · rw [decide_eq_true hh, (hy1 hh).2]
      · rw [decide_eq_false hh, (hy2 hh).2]
    obtain ⟨ly, hly⟩ : ∃ ly, Y.length = ly := ⟨_, rfl⟩
    have HQI := Lib.hid fun w h ho => implReach_any (some ⟨gl, 0, none⟩) m c0 xs w h (by omega) ho Y b9 hy1 hy2
    have HQS := Lib.hid fun w h => specReach_any (some ⟨gl, 0, none⟩) m c0 xs w h (by omega) Y b9 hy1 hy2
    have HPG := Lib.hid fun w h ho => implProg_any (some ⟨gl, 0, none⟩) m c0 xs w h (by omega) ho b9 hbd
    rw [hly] at HQI HQS hyl
    clear hy1 hy2 hbd hly
    go_wp2_with fail
    refine (HQI.out _ (Reads.of_own PR.out) (ops_below HW.out HO.out)).mono ?_
    rintro e w15 ⟨A7, c7, rfl, hown, hb⟩
    have NR := Lib.hid (own_mono hown HW.out.size)
    clear hown
    replace HW := Lib.hid (pass HW.out hb)
    replace PR := Lib.hid (own_below PR.out hb)
    clear hb
    have RA := NR
    clear NR
    go_wp2_with fail
    refine (HQS.out _ (Reads.of_own PR.out)).mono ?_
    rintro e w16 ⟨A8, c8, rfl, hown, hb⟩
    have NR := Lib.hid (own_mono hown HW.out.size)
    clear hown
    replace HW := Lib.hid (pass HW.out hb)
    replace PR := Lib.hid (own_below PR.out hb)
    replace RA := Lib.hid (own_below RA.out hb)
    clear hb
    have RB := NR
    clear NR
    have e1 : (b9 == b9) = true := by simp
    go_wp2_with fail
    refine (rInts_same A7 A8 ly c7 c8 Y _ (by omega) (Reads.of_own RA.out) (Reads.of_own RB.out)).mono ?_
    rintro e w17 ⟨rfl, hb⟩
    replace HW := Lib.hid (pass HW.out hb)
    replace PR := Lib.hid (own_below PR.out hb)
    replace RA := Lib.hid (own_below RA.out hb)
    replace RB := Lib.hid (own_below RB.out hb)
    clear hb
    go_wp2_with fail
    refine (HPG.out _ (Reads.of_own PR.out) (ops_below HW.out HO.out)).mono ?_
    rintro e w18 ⟨rfl, hb⟩
    replace HW := Lib.hid (pass HW.out hb)
    replace PR := Lib.hid (own_below PR.out hb)
    replace RA := Lib.hid (own_below RA.out hb)
    replace RB := Lib.hid (own_below RB.out hb)
    clear hb
    go_wp2_with fail
    go_ret
    exact ⟨rfl, HW.out⟩
  | true =>
    obtain ⟨N, HOK, hm0, hm1, HFIN, HRES, rfl⟩ : ∃ N : Nat, Hid (OkG xs ⟨L, p, zo, st⟩) ∧ 0 ≤ most ∧ most ≤ 1000 ∧ Hid (Fin xs ⟨L, p, zo, st⟩ most.toNat N) ∧ Hid (itOf xs ⟨L, p, zo, st⟩ N = ⟨r, rp, rz, rs⟩) ∧ cnt = N := by
      rcases HRIS.out with ⟨_, _, _, h⟩ | ⟨h1, h2, h3, N, h4, h5, h6, _⟩
      · cases h
      · exact ⟨N, Lib.hid h1, h2, h3, Lib.hid h4, Lib.hid h5.symm, h6⟩
    have hN : N ≤ 1000 := by have := HFIN.out.1; omega
    clear HRIS
    have pBG0 := BG.out.cell 0 _ rfl
    have pBG1 := BG.out.cell 1 _ rfl
    have pBG2 := BG.out.cell 2 _ rfl
    have pBG3 := BG.out.cell 3 _ rfl
    have BN := Lib.hid (Blk.new w6 #[.slice A1 n1 c1, .int .i64 p, .bool zo, .bool st] 40)
    obtain ⟨gBN, hg⟩ : ∃ g, w6.heap.size = g := ⟨_, rfl⟩
    obtain ⟨w19, hwa⟩ : ∃ wa, w6.alloc (.cells #[.slice A1 n1 c1, .int .i64 p, .bool zo, .bool st] 40) = wa := ⟨_, rfl⟩
    have hba : Below w6.heap.size w6 w19 := by rw [← hwa]; exact below_more (Below.refl _ _) _
    have lBG_BN : gBG < gBN := by rw [← hg]; exact BG.out.lt
    have lBO_BN : gBO < gBN := by rw [← hg]; exact BO.out.lt
    have lBN : W.heap.size ≤ gBN := by rw [← hg]; exact HW.out.size
    rw [hwa, hg] at BN
    have HWA := Lib.hid hwa
    have HG := Lib.hid hg
    clear hwa hg
    replace HW := Lib.hid (pass HW.out hba)
    replace PR := Lib.hid (own_below PR.out hba)
    replace RG := Lib.hid (own_below RG.out hba)
    replace RO := Lib.hid (own_below RO.out hba)
    replace BG := Lib.hid (Blk.kept hba BG.out)
    replace BO := Lib.hid (Blk.kept hba BO.out)
    clear hba
    go_upto_region 10 with fail
    rw [HWA.out, HG.out]
    clear HWA HG
    clear pBG0 pBG1 pBG2 pBG3
    have H0 : Hid (LpSt W w19 gl m c0 xs A1 n1 c1 L A0 l c9 r A1 n1 c1 L gBG gBO gBN #[.slice A1 n1 c1, .int .i64 p, .bool zo, .bool st] #[.slice A0 l c9, .int .i64 rp, .bool rz, .bool rs] #[.slice A1 n1 c1, .int .i64 p, .bool zo, .bool st]) := Lib.hid ⟨HW.out, PR.out, RG.out, RO.out, RG.out, BG.out, BO.out, BN.out, lBG_BN, lBO_BN, lBN⟩
    clear HW PR RG RO BG BO BN
    go_wp2_with fail
    go_loopw [13] (fun i wr => ∃ (q n8 c8 : Nat) (A8 : Option Addr) (M : List Int) (q1 : Int) (q2 q3 : Bool), i = .int .i64 q ∧ q ≤ N ∧ n8 ≤ 4 ∧ Hid (itOf xs ⟨L, p, zo, st⟩ q = ⟨M, q1, q2, q3⟩) ∧ Hid (LpSt W wr gl m c0 xs A1 n1 c1 L A0 l c9 r A8 n8 c8 M gBG gBO gBN #[.slice A1 n1 c1, .int .i64 p, .bool zo, .bool st] #[.slice A0 l c9, .int .i64 rp, .bool rz, .bool rs] #[.slice A8 n8 c8, .int .i64 q1, .bool q2, .bool q3])) (fun i _ => N - (intOf i).toNat)
    case atStart => exact ⟨0, n1, c1, A1, L, p, zo, st, rfl, Nat.zero_le _, hk1, Lib.hid rfl, H0⟩
    case round =>
      clear H0
      obtain ⟨q, n8, c8, A8, M, q1, q2, q3, rfl, hq, hn8, HIT, H⟩ := hrel
      by_cases hlt : q < N
      · have HGQ : Hid (OkG xs ⟨M, q1, q2, q3⟩) := Lib.hid (by have h := it_ok HOK.out q; rw [HIT.out] at h; exact h)
        have h3 : q3 = false := by have h := HFIN.out.2.1 q hlt; rw [HIT.out] at h; exact h
        subst h3
        obtain ⟨⟨M', r1, r2, r3⟩, hst⟩ : ∃ g, stepOf xs ⟨M, q1, q2, false⟩ = g := ⟨_, rfl⟩
        have hM4 : M'.length = 4 := by have h := len_step HGQ.out; rw [hst] at h; exact h
        have hsr : resOf xs ⟨M, q1, q2, false⟩ = (⟨M', r1, r2, r3⟩, true) := by unfold resOf; rw [if_pos ⟨HGQ.out, rfl⟩, hst]
        have HSI := Lib.hid (implStep_any (some ⟨gl, 0, none⟩) A8 m c0 n8 c8 xs ⟨M, q1, q2, false⟩)
        rw [hsr] at HSI
        simp only [hM4] at HSI
        have HIN : Hid (itOf xs ⟨L, p, zo, st⟩ (q + 1) = ⟨M', r1, r2, r3⟩) := Lib.hid (by show stepOf xs (itOf xs ⟨L, p, zo, st⟩ q) = _; rw [HIT.out, hst])
        clear hsr hst hM4 HGQ
        have hqz : (q : Int) < N := by omega
        have k0 := H.out.b12.cell 0 _ rfl
        have k1 := H.out.b12.cell 1 _ rfl
        have k2 := H.out.b12.cell 2 _ rfl
        have k3 := H.out.b12.cell 3 _ rfl
        go_wp2_with fail
        refine (HSI.out _ (Reads.of_own H.out.pg) (by omega) (Reads.of_own H.out.on) (by omega) (ops_below H.out.bel HO.out)).mono ?_
        rintro e v1 ⟨A7, c7, rfl, hown, hb⟩
        have HN7 := Lib.hid (own_mono hown H.out.bel.size)
        replace H := Lib.hid (H.out.below hb)
        clear hown hb k0 k1 k2 k3 HSI
        have BX := Lib.hid (Blk.new v1 #[.slice A7 4 c7, .int .i64 r1, .bool r2, .bool r3] 40)
        obtain ⟨gX, hg⟩ : ∃ g, v1.heap.size = g := ⟨_, rfl⟩
        obtain ⟨v2, hwa⟩ : ∃ wa, v1.alloc (.cells #[.slice A7 4 c7, .int .i64 r1, .bool r2, .bool r3] 40) = wa := ⟨_, rfl⟩
        have hba : Below v1.heap.size v1 v2 := by rw [← hwa]; exact below_more (Below.refl _ _) _
        rw [hwa, hg] at BX
        have HWA := Lib.hid hwa
        have HG := Lib.hid hg
        clear hwa hg
        replace H := Lib.hid (H.out.below hba)
        replace HN7 := Lib.hid (own_below HN7.out hba)
        clear hba
        go_upto_region 14 with fail
        rw [HWA.out, HG.out]
        clear HWA HG
        have p0 := BX.out.cell 0 _ rfl
        have p1 := BX.out.cell 1 _ rfl
        have p2 := BX.out.cell 2 _ rfl
        have p3 := BX.out.cell 3 _ rfl
        have k0 := H.out.b12.cell 0 _ rfl
        have k1 := H.out.b12.cell 1 _ rfl
        have k2 := H.out.b12.cell 2 _ rfl
        have k3 := H.out.b12.cell 3 _ rfl
        have f0 := H.out.b12.free 0
        have f1 := H.out.b12.free 1
        have f2 := H.out.b12.free 2
        have f3 := H.out.b12.free 3
        go_wp2_with fail
        replace H := Lib.hid (((((H.out.now HN7.out).set 0 (.slice A7 4 c7)).set 1 (.int .i64 r1)).set 2 (.bool r2)).set 3 (.bool r3))
        clear p0 p1 p2 p3 k0 k1 k2 k3 f0 f1 f2 f3 BX HN7
        revert H
        generalize (World.setCell (World.setCell (World.setCell (World.setCell _ _ _) _ _) _ _) _ _) = wz
        intro H
        go_roundw
        case rel => exact ⟨q + 1, 4, c7, A7, M', r1, r2, r3, by go_num, by omega, Nat.le_refl _, HIN, H⟩
        case measure => simp [intOf]; omega
      · have hqN : q = N := by omega
        subst hqN
        have he : (⟨M, q1, q2, q3⟩ : Regs) = ⟨r, rp, rz, rs⟩ := HIT.out.symm.trans HRES.out
        injection he with he1 he2 he3 he4
        subst he1 he2 he3 he4
        have hnl : n8 = l := by rw [← own_len H.out.on, own_len H.out.oo]
        subst hnl
        have HOKO : Hid (OkG xs ⟨M, q1, q2, q3⟩) := Lib.hid (by have h := it_ok HOK.out q; rw [HIT.out] at h; exact h)
        have HW := Lib.hid H.out.bel
        have PR := Lib.hid H.out.pg
        have RG := Lib.hid H.out.og
        have RO := Lib.hid H.out.oo
        have RN := Lib.hid H.out.on
        have BG := Lib.hid H.out.b4
        have BO := Lib.hid H.out.b6
        have BN := Lib.hid H.out.b12
        clear H HIT
        have pBN0 := BN.out.cell 0 _ rfl
        have pBN1 := BN.out.cell 1 _ rfl
        have pBN2 := BN.out.cell 2 _ rfl
        have pBN3 := BN.out.cell 3 _ rfl
        have pBO0 := BO.out.cell 0 _ rfl
        have pBO1 := BO.out.cell 1 _ rfl
        have pBO2 := BO.out.cell 2 _ rfl
        have pBO3 := BO.out.cell 3 _ rfl
        go_wp2_with fail
        refine (rRegisters_same A8 A0 n8 c8 c9 M q1 q2 q3 _ (by omega) (Reads.of_own RN.out) (Reads.of_own RO.out)).mono ?_
        rintro e w20 ⟨rfl, hb⟩
        replace HW := Lib.hid (pass HW.out hb)
        replace PR := Lib.hid (own_below PR.out hb)
        replace RG := Lib.hid (own_below RG.out hb)
        replace RO := Lib.hid (own_below RO.out hb)
        replace RN := Lib.hid (own_below RN.out hb)
        replace BG := Lib.hid (Blk.kept hb BG.out)
        replace BO := Lib.hid (Blk.kept hb BO.out)
        replace BN := Lib.hid (Blk.kept hb BN.out)
        clear hb
        clear pBN0 pBN1 pBN2 pBN3 pBO0 pBO1 pBO2 pBO3
        clear BN RN
        have hsp : (q : Int) < most → q3 = true := fun h => by
          rcases HFIN.out.2.2 with h2 | h2
          · omega
          · rw [HRES.out] at h2; exact h2
        have HAI := Lib.hid (implAre_any (some ⟨gl, 0, none⟩) A0 m c0 n8 c9 xs ⟨M, q1, q2, q3⟩)
        clear HRES HFIN
        by_cases hnm : (q : Int) < most
        · have hq3 := hsp hnm
          subst hq3
          clear hsp
          have pBO0 := BO.out.cell 0 _ rfl
          have pBO1 := BO.out.cell 1 _ rfl
          have pBO2 := BO.out.cell 2 _ rfl
          have pBO3 := BO.out.cell 3 _ rfl
          go_wp2_with fail
          refine (HAI.out _ (Reads.of_own PR.out) (by omega) (Reads.of_own RO.out) (by omega) (ops_below HW.out HO.out) true (decide_eq_true HOKO.out)).mono ?_
          rintro e w21 ⟨rfl, hb⟩
          replace HW := Lib.hid (pass HW.out hb)
          replace PR := Lib.hid (own_below PR.out hb)
          replace RG := Lib.hid (own_below RG.out hb)
          replace RO := Lib.hid (own_below RO.out hb)
          replace BG := Lib.hid (Blk.kept hb BG.out)
          replace BO := Lib.hid (Blk.kept hb BO.out)
          clear hb
          clear pBO0 pBO1 pBO2 pBO3
          clear BO RO
          obtain ⟨Y, b9, hy1, hy2, hyl⟩ := reach_ex xs
          obtain ⟨hyr, rfl⟩ := hy1 HOK.out.1
          obtain ⟨ly, hly⟩ : ∃ ly, Y.length = ly := ⟨_, rfl⟩
          have HQI := Lib.hid fun w h ho => implReach_any (some ⟨gl, 0, none⟩) m c0 xs w h (by omega) ho Y true hy1 hy2
          rw [hly] at HQI hyl
          have HYR := Lib.hid hyr
          clear hy1 hy2 hyr hly HAI HOKO
          go_wp2_with fail
          refine (HQI.out _ (Reads.of_own PR.out) (ops_below HW.out HO.out)).mono ?_
          rintro e w22 ⟨A7, c7, rfl, hown, hb⟩
          have NR := Lib.hid (own_mono hown HW.out.size)
          clear hown
          replace HW := Lib.hid (pass HW.out hb)
          replace PR := Lib.hid (own_below PR.out hb)
          replace RG := Lib.hid (own_below RG.out hb)
          replace BG := Lib.hid (Blk.kept hb BG.out)
          clear hb
          have RA := NR
          clear NR
          have pBG0 := BG.out.cell 0 _ rfl
          have pBG1 := BG.out.cell 1 _ rfl
          have pBG2 := BG.out.cell 2 _ rfl
          have pBG3 := BG.out.cell 3 _ rfl
          have BS0 := Lib.hid (Blk.new w22 #[.slice A1 n1 c1, .int .i64 p, .bool zo, .bool st] 40)
          obtain ⟨gS, hg⟩ : ∃ g, w22.heap.size = g := ⟨_, rfl⟩
          obtain ⟨ws, hwa⟩ : ∃ wa, w22.alloc (.cells #[.slice A1 n1 c1, .int .i64 p, .bool zo, .bool st] 40) = wa := ⟨_, rfl⟩
          have hba : Below w22.heap.size w22 ws := by rw [← hwa]; exact below_more (Below.refl _ _) _
          have lS : W.heap.size ≤ gS := by rw [← hg]; exact HW.out.size
          rw [hwa, hg] at BS0
          have HWA := Lib.hid hwa
          have HG := Lib.hid hg
          clear hwa hg
          replace HW := Lib.hid (pass HW.out hba)
          replace PR := Lib.hid (own_below PR.out hba)
          replace RG := Lib.hid (own_below RG.out hba)
          replace RA := Lib.hid (own_below RA.out hba)
          replace BG := Lib.hid (Blk.kept hba BG.out)
          clear hba
          go_upto_region 21 with fail
          rw [HWA.out, HG.out]
          clear HWA HG
          clear pBG0 pBG1 pBG2 pBG3
          clear BG
          have f1 := BS0.out.free 1
          have f3 := BS0.out.free 3
          have k1 := BS0.out.cell 1 _ rfl
          have k3 := BS0.out.cell 3 _ rfl
          go_upto_region 23 with fail
          have BS := Lib.hid ((BS0.out.set 1 (.int .i64 0)).set 3 (.bool false))
          have HW2 := Lib.hid (below_set (below_set HW.out lS (j := 1) (.int .i64 0)) lS (j := 3) (.bool false))
          have PR2 := Lib.hid (own_set (own_set PR.out (g := gS) (j := 1) (.int .i64 0) (own_farI PR.out BS0.out)) (g := gS) (j := 3) (.bool false) (own_farI PR.out BS0.out))
          have RG2 := Lib.hid (own_set (own_set RG.out (g := gS) (j := 1) (.int .i64 0) (own_far RG.out BS0.out)) (g := gS) (j := 3) (.bool false) (own_far RG.out BS0.out))
          have RA2 := Lib.hid (own_set (own_set RA.out (g := gS) (j := 1) (.int .i64 0) (own_far RA.out BS0.out)) (g := gS) (j := 3) (.bool false) (own_far RA.out BS0.out))
          clear f1 f3 k1 k3 BS0 HW PR RG RA
          revert BS HW2 PR2 RG2 RA2
          generalize (World.setCell (World.setCell _ _ _) _ _) = wt
          intro BS HW PR RG RA
          obtain ⟨res, cnt2, ok2, hri, hrl⟩ := runIs_ex xs ⟨L, 0, zo, false⟩ 20
          obtain ⟨y, yp, yz, ys⟩ := res
          obtain ⟨l2, hll⟩ : ∃ l2, y.length = l2 := ⟨_, rfl⟩
          have hRJ : ∀ w, w.ownsRow W.heap.size 25 4 (.slice (some ⟨gl, 0, none⟩) m c0) m (FL xs) → w.ownsRow W.heap.size 3 1 (.slice A1 n1 c1) n1 (I L) → OpsIs w → Calls Tryd.prog 20 #[.slice (some ⟨gl, 0, none⟩) m c0, .agg #[.slice A1 n1 c1, .int .i64 0, .bool zo, .bool false], .int .i64 20] w fun e w' => ∃ A0 c9, e = .returned (.tuple #[.agg #[.slice A0 l2 c9, .int .i64 yp, .bool yz, .bool ys], .int .i64 cnt2, .bool ok2]) ∧ w'.ownsRow w.heap.size 3 1 (.slice A0 l2 c9) l2 (I y) ∧ Below w.heap.size w w' := fun w h1 h2 ho => by
            have h := implRun_any (some ⟨gl, 0, none⟩) A1 m c0 n1 c1 xs ⟨L, 0, zo, false⟩ 20 w (Reads.of_own h1) (by omega) (Reads.of_own h2) (by omega) ho ⟨y, yp, yz, ys⟩ cnt2 ok2 hri
            rw [show (Regs.mk y yp yz ys).r.length = l2 from hll] at h
            exact h
          have HhRJ := Lib.hid hRJ
          clear hRJ
          obtain ⟨rfl, h20, hin⟩ : ok2 = true ∧ cnt2 ≤ 20 ∧ yp ∈ Y := by
            have hs := okG_start HOK.out
            rcases hri with ⟨h, _⟩ | ⟨_, _, _, N2, h4, h5, h6, h7⟩
            · exact absurd ⟨hs, by omega, by omega⟩ h
            · refine ⟨h7, by have := h4.1; omega, ?_⟩
              have h8 := place_in hs rfl HYR.out N2
              rw [← h5] at h8
              exact h8
          clear hri hrl hll
          have pBS0 := BS.out.cell 0 _ rfl
          have pBS1 := BS.out.cell 1 _ rfl
          have pBS2 := BS.out.cell 2 _ rfl
          have pBS3 := BS.out.cell 3 _ rfl
          go_wp2_with fail
          refine (HhRJ.out _ PR.out RG.out (ops_below HW.out HO.out)).mono ?_
          rintro e w23 ⟨A5, c5, rfl, hown, hb⟩
          have NR := Lib.hid (own_mono hown HW.out.size)
          clear hown
          replace HW := Lib.hid (pass HW.out hb)
          replace PR := Lib.hid (own_below PR.out hb)
          replace RG := Lib.hid (own_below RG.out hb)
          replace RA := Lib.hid (own_below RA.out hb)
          replace BS := Lib.hid (Blk.kept hb BS.out)
          clear hb
          clear pBS0 pBS1 pBS2 pBS3
          have RL := NR
          clear NR
          clear BS RL
          have BL := Lib.hid (Blk.new w23 #[.slice A5 l2 c5, .int .i64 yp, .bool yz, .bool ys] 40)
          obtain ⟨gBL, hg⟩ : ∃ g, w23.heap.size = g := ⟨_, rfl⟩
          obtain ⟨w24, hwa⟩ : ∃ wa, w23.alloc (.cells #[.slice A5 l2 c5, .int .i64 yp, .bool yz, .bool ys] 40) = wa := ⟨_, rfl⟩
          have hba : Below w23.heap.size w23 w24 := by rw [← hwa]; exact below_more (Below.refl _ _) _
          have lBL : W.heap.size ≤ gBL := by rw [← hg]; exact HW.out.size
          rw [hwa, hg] at BL
          have HWA := Lib.hid hwa
          have HG := Lib.hid hg
          clear hwa hg
          replace HW := Lib.hid (pass HW.out hba)
          replace PR := Lib.hid (own_below PR.out hba)
          replace RG := Lib.hid (own_below RG.out hba)
          replace RA := Lib.hid (own_below RA.out hba)
          clear hba
          go_upto_region 24 with fail
          rw [HWA.out, HG.out]
          clear HWA HG
          have h21 : ¬ (20 : Int) < cnt2 := by omega
          have pBL0 := BL.out.cell 0 _ rfl
          have pBL1 := BL.out.cell 1 _ rfl
          have pBL2 := BL.out.cell 2 _ rfl
          have pBL3 := BL.out.cell 3 _ rfl
          go_wp2_with fail
          refine (rHas_any A7 ly c7 _ Y yp _ (Reads.of_own RA.out) (by omega) true (decide_eq_true hin)).mono ?_
          rintro e wq ⟨rfl, rfl⟩
          clear pBL0 pBL1 pBL2 pBL3
          clear h21 h20 hin HhRJ HQI HYR HOK
          clear BL PR RG RA
          go_wp2_with fail
          refine (drawStepGuest_any _ A n c zs HZ.out (HR.out _ HW.out) hn).mono ?_
          rintro e w25 ⟨gl, m, c0, xs, A1, n1, c1, L, p, zo, st, rfl, ⟨hm, ho1, hb⟩, hk1, ho2⟩
          have PR := Lib.hid (own_mono ho1 HW.out.size)
          have RG := Lib.hid (own_mono ho2 HW.out.size)
          replace HW := Lib.hid (pass HW.out hb)
          clear hb ho1 ho2
          have BG := Lib.hid (Blk.new w25 #[.slice A1 n1 c1, .int .i64 p, .bool zo, .bool st] 40)
          obtain ⟨gBG, hg⟩ : ∃ g, w25.heap.size = g := ⟨_, rfl⟩
          obtain ⟨w26, hwa⟩ : ∃ wa, w25.alloc (.cells #[.slice A1 n1 c1, .int .i64 p, .bool zo, .bool st] 40) = wa := ⟨_, rfl⟩
          have hba : Below w25.heap.size w25 w26 := by rw [← hwa]; exact below_more (Below.refl _ _) _
          have lBG : W.heap.size ≤ gBG := by rw [← hg]; exact HW.out.size
          rw [hwa, hg] at BG
          have HWA := Lib.hid hwa
          have HG := Lib.hid hg
          clear hwa hg
          replace HW := Lib.hid (pass HW.out hba)
          replace PR := Lib.hid (own_below PR.out hba)
          replace RG := Lib.hid (own_below RG.out hba)
          clear hba
          go_upto_region 27 with fail
          rw [HWA.out, HG.out]
          clear HWA HG
          obtain ⟨⟨r, rp, rz, rs⟩, ok, hres⟩ : ∃ (g : Regs) (ok : Bool), resOf xs ⟨L, p, zo, st⟩ = (g, ok) := ⟨_, _, rfl⟩
          obtain ⟨l, hll⟩ : ∃ l, r.length = l := ⟨_, rfl⟩
          have HSI := Lib.hid (implStep_any (some ⟨gl, 0, none⟩) A1 m c0 n1 c1 xs ⟨L, p, zo, st⟩)
          have HSS := Lib.hid (specStep_any (some ⟨gl, 0, none⟩) A1 m c0 n1 c1 xs ⟨L, p, zo, st⟩)
          rw [hres] at HSI HSS
          simp only [hll] at HSI HSS
          have hl4 : l ≤ 4 := by
            by_cases hh : OkG xs ⟨L, p, zo, st⟩ ∧ st = false
            · have h5 := len_step hh.1
              have h6 : resOf xs ⟨L, p, zo, st⟩ = (stepOf xs ⟨L, p, zo, st⟩, true) := by unfold resOf; rw [if_pos hh]
              rw [h6] at hres
              injection hres with e1 e2
              rw [e1] at h5
              simp only at h5
              omega
            · have h6 : resOf xs ⟨L, p, zo, st⟩ = (⟨[], 0, false, false⟩, false) := by unfold resOf; rw [if_neg hh]
              rw [h6] at hres
              injection hres with e1 e2
              injection e1 with e3
              rw [← hll, ← e3]; simp
          clear hres hll
          have pBG0 := BG.out.cell 0 _ rfl
          have pBG1 := BG.out.cell 1 _ rfl
          have pBG2 := BG.out.cell 2 _ rfl
          have pBG3 := BG.out.cell 3 _ rfl
          go_wp2_with fail
          refine (HSI.out _ (Reads.of_own PR.out) (by omega) (Reads.of_own RG.out) (by omega) (ops_below HW.out HO.out)).mono ?_
          rintro e w27 ⟨A0, c9, rfl, hown, hb⟩
          have NR := Lib.hid (own_mono hown HW.out.size)
          clear hown
          replace HW := Lib.hid (pass HW.out hb)
          replace PR := Lib.hid (own_below PR.out hb)
          replace RG := Lib.hid (own_below RG.out hb)
          replace BG := Lib.hid (Blk.kept hb BG.out)
          clear hb
          clear pBG0 pBG1 pBG2 pBG3
          have RO := NR
          clear NR
          have BO := Lib.hid (Blk.new w27 #[.slice A0 l c9, .int .i64 rp, .bool rz, .bool rs] 40)
          obtain ⟨gBO, hg⟩ : ∃ g, w27.heap.size = g := ⟨_, rfl⟩
          obtain ⟨w28, hwa⟩ : ∃ wa, w27.alloc (.cells #[.slice A0 l c9, .int .i64 rp, .bool rz, .bool rs] 40) = wa := ⟨_, rfl⟩
          have hba : Below w27.heap.size w27 w28 := by rw [← hwa]; exact below_more (Below.refl _ _) _
          have lBG_BO : gBG < gBO := by rw [← hg]; exact BG.out.lt
          have lBO : W.heap.size ≤ gBO := by rw [← hg]; exact HW.out.size
          rw [hwa, hg] at BO
          have HWA := Lib.hid hwa
          have HG := Lib.hid hg
          clear hwa hg
          replace HW := Lib.hid (pass HW.out hba)
          replace PR := Lib.hid (own_below PR.out hba)
          replace RG := Lib.hid (own_below RG.out hba)
          replace RO := Lib.hid (own_below RO.out hba)
          replace BG := Lib.hid (Blk.kept hba BG.out)
          clear hba
          go_upto_region 28 with fail
          rw [HWA.out, HG.out]
          clear HWA HG
          have pBG0 := BG.out.cell 0 _ rfl
          have pBG1 := BG.out.cell 1 _ rfl
          have pBG2 := BG.out.cell 2 _ rfl
          have pBG3 := BG.out.cell 3 _ rfl
          go_wp2_with fail
          refine (HSS.out _ (Reads.of_own PR.out) (by omega) (Reads.of_own RG.out) (by omega)).mono ?_
          rintro e w29 ⟨A2, c2, rfl, hown, hb⟩
          have NR := Lib.hid (own_mono hown HW.out.size)
          clear hown
          replace HW := Lib.hid (pass HW.out hb)
          replace PR := Lib.hid (own_below PR.out hb)
          replace RG := Lib.hid (own_below RG.out hb)
          replace RO := Lib.hid (own_below RO.out hb)
          replace BG := Lib.hid (Blk.kept hb BG.out)
          replace BO := Lib.hid (Blk.kept hb BO.out)
          clear hb
          clear pBG0 pBG1 pBG2 pBG3
          have RT := NR
          clear NR
          have BT := Lib.hid (Blk.new w29 #[.slice A2 l c2, .int .i64 rp, .bool rz, .bool rs] 40)
          obtain ⟨gBT, hg⟩ : ∃ g, w29.heap.size = g := ⟨_, rfl⟩
          obtain ⟨w30, hwa⟩ : ∃ wa, w29.alloc (.cells #[.slice A2 l c2, .int .i64 rp, .bool rz, .bool rs] 40) = wa := ⟨_, rfl⟩
          have hba : Below w29.heap.size w29 w30 := by rw [← hwa]; exact below_more (Below.refl _ _) _
          have lBG_BT : gBG < gBT := by rw [← hg]; exact BG.out.lt
          have lBO_BT : gBO < gBT := by rw [← hg]; exact BO.out.lt
          have lBT : W.heap.size ≤ gBT := by rw [← hg]; exact HW.out.size
          rw [hwa, hg] at BT
          have HWA := Lib.hid hwa
          have HG := Lib.hid hg
          clear hwa hg
          replace HW := Lib.hid (pass HW.out hba)
          replace PR := Lib.hid (own_below PR.out hba)
          replace RG := Lib.hid (own_below RG.out hba)
          replace RO := Lib.hid (own_below RO.out hba)
          replace RT := Lib.hid (own_below RT.out hba)
          replace BG := Lib.hid (Blk.kept hba BG.out)
          replace BO := Lib.hid (Blk.kept hba BO.out)
          clear hba
          go_upto_region 29 with fail
          rw [HWA.out, HG.out]
          clear HWA HG
          have e1 : (ok != ok) = false := by simp
          clear HSI HSS
          have pBO0 := BO.out.cell 0 _ rfl
          have pBO1 := BO.out.cell 1 _ rfl
          have pBO2 := BO.out.cell 2 _ rfl
          have pBO3 := BO.out.cell 3 _ rfl
          have pBT0 := BT.out.cell 0 _ rfl
          have pBT1 := BT.out.cell 1 _ rfl
          have pBT2 := BT.out.cell 2 _ rfl
          have pBT3 := BT.out.cell 3 _ rfl
          go_wp2_with fail
          refine (rRegisters_same A0 A2 l c9 c2 r rp rz rs _ (by omega) (Reads.of_own RO.out) (Reads.of_own RT.out)).mono ?_
          rintro e w31 ⟨rfl, hb⟩
          replace HW := Lib.hid (pass HW.out hb)
          replace PR := Lib.hid (own_below PR.out hb)
          replace RG := Lib.hid (own_below RG.out hb)
          replace RO := Lib.hid (own_below RO.out hb)
          replace RT := Lib.hid (own_below RT.out hb)
          replace BG := Lib.hid (Blk.kept hb BG.out)
          replace BO := Lib.hid (Blk.kept hb BO.out)
          replace BT := Lib.hid (Blk.kept hb BT.out)
          clear hb
          clear pBO0 pBO1 pBO2 pBO3 pBT0 pBT1 pBT2 pBT3
          clear e1
          clear BG BO BT PR RG RO RT
          go_wp2_with fail
          refine (drawReachedBy_any _ A n c zs HZ.out (HR.out _ HW.out) hn).mono ?_
          rintro e w32 ⟨gl, m, c0, xs, rfl, ⟨hm, ho1, hb⟩⟩
          have PR := Lib.hid (own_mono ho1 HW.out.size)
          replace HW := Lib.hid (pass HW.out hb)
          clear hb ho1
          obtain ⟨Y, b9, hy1, hy2, hyl⟩ := reach_ex xs
          have hbd : decide (OkP xs) = b9 := by
            by_cases hh : OkP xs
            · rw [decide_eq_true hh, (hy1 hh).2]
            · rw [decide_eq_false hh, (hy2 hh).2]
          obtain ⟨ly, hly⟩ : ∃ ly, Y.length = ly := ⟨_, rfl⟩
          have HQI := Lib.hid fun w h ho => implReach_any (some ⟨gl, 0, none⟩) m c0 xs w h (by omega) ho Y b9 hy1 hy2
          have HQS := Lib.hid fun w h => specReach_any (some ⟨gl, 0, none⟩) m c0 xs w h (by omega) Y b9 hy1 hy2
          have HPG := Lib.hid fun w h ho => implProg_any (some ⟨gl, 0, none⟩) m c0 xs w h (by omega) ho b9 hbd
          rw [hly] at HQI HQS hyl
          clear hy1 hy2 hbd hly
          go_wp2_with fail
          refine (HQI.out _ (Reads.of_own PR.out) (ops_below HW.out HO.out)).mono ?_
          rintro e w33 ⟨A7, c7, rfl, hown, hb⟩
          have NR := Lib.hid (own_mono hown HW.out.size)
          clear hown
          replace HW := Lib.hid (pass HW.out hb)
          replace PR := Lib.hid (own_below PR.out hb)
          clear hb
          have RA := NR
          clear NR
          go_wp2_with fail
          refine (HQS.out _ (Reads.of_own PR.out)).mono ?_
          rintro e w34 ⟨A8, c8, rfl, hown, hb⟩
          have NR := Lib.hid (own_mono hown HW.out.size)
          clear hown
          replace HW := Lib.hid (pass HW.out hb)
          replace PR := Lib.hid (own_below PR.out hb)
          replace RA := Lib.hid (own_below RA.out hb)
          clear hb
          have RB := NR
          clear NR
          have e1 : (b9 == b9) = true := by simp
          go_wp2_with fail
          refine (rInts_same A7 A8 ly c7 c8 Y _ (by omega) (Reads.of_own RA.out) (Reads.of_own RB.out)).mono ?_
          rintro e w35 ⟨rfl, hb⟩
          replace HW := Lib.hid (pass HW.out hb)
          replace PR := Lib.hid (own_below PR.out hb)
          replace RA := Lib.hid (own_below RA.out hb)
          replace RB := Lib.hid (own_below RB.out hb)
          clear hb
          go_wp2_with fail
          refine (HPG.out _ (Reads.of_own PR.out) (ops_below HW.out HO.out)).mono ?_
          rintro e w36 ⟨rfl, hb⟩
          replace HW := Lib.hid (pass HW.out hb)
          replace PR := Lib.hid (own_below PR.out hb)
          replace RA := Lib.hid (own_below RA.out hb)
          replace RB := Lib.hid (own_below RB.out hb)
          clear hb
          go_wp2_with fail
          go_ret
          exact ⟨rfl, HW.out⟩
        · clear hsp
          have pBO0 := BO.out.cell 0 _ rfl
          have pBO1 := BO.out.cell 1 _ rfl
          have pBO2 := BO.out.cell 2 _ rfl
          have pBO3 := BO.out.cell 3 _ rfl
          go_wp2_with fail
          refine (HAI.out _ (Reads.of_own PR.out) (by omega) (Reads.of_own RO.out) (by omega) (ops_below HW.out HO.out) true (decide_eq_true HOKO.out)).mono ?_
          rintro e w37 ⟨rfl, hb⟩
          replace HW := Lib.hid (pass HW.out hb)
          replace PR := Lib.hid (own_below PR.out hb)
          replace RG := Lib.hid (own_below RG.out hb)
          replace RO := Lib.hid (own_below RO.out hb)
          replace BG := Lib.hid (Blk.kept hb BG.out)
          replace BO := Lib.hid (Blk.kept hb BO.out)
          clear hb
          clear pBO0 pBO1 pBO2 pBO3
          clear BO RO
          obtain ⟨Y, b9, hy1, hy2, hyl⟩ := reach_ex xs
          obtain ⟨hyr, rfl⟩ := hy1 HOK.out.1
          obtain ⟨ly, hly⟩ : ∃ ly, Y.length = ly := ⟨_, rfl⟩
          have HQI := Lib.hid fun w h ho => implReach_any (some ⟨gl, 0, none⟩) m c0 xs w h (by omega) ho Y true hy1 hy2
          rw [hly] at HQI hyl
          have HYR := Lib.hid hyr
          clear hy1 hy2 hyr hly HAI HOKO
          go_wp2_with fail
          refine (HQI.out _ (Reads.of_own PR.out) (ops_below HW.out HO.out)).mono ?_
          rintro e w38 ⟨A7, c7, rfl, hown, hb⟩
          have NR := Lib.hid (own_mono hown HW.out.size)
          clear hown
          replace HW := Lib.hid (pass HW.out hb)
          replace PR := Lib.hid (own_below PR.out hb)
          replace RG := Lib.hid (own_below RG.out hb)
          replace BG := Lib.hid (Blk.kept hb BG.out)
          clear hb
          have RA := NR
          clear NR
          have pBG0 := BG.out.cell 0 _ rfl
          have pBG1 := BG.out.cell 1 _ rfl
          have pBG2 := BG.out.cell 2 _ rfl
          have pBG3 := BG.out.cell 3 _ rfl
          have BS0 := Lib.hid (Blk.new w38 #[.slice A1 n1 c1, .int .i64 p, .bool zo, .bool st] 40)
          obtain ⟨gS, hg⟩ : ∃ g, w38.heap.size = g := ⟨_, rfl⟩
          obtain ⟨ws, hwa⟩ : ∃ wa, w38.alloc (.cells #[.slice A1 n1 c1, .int .i64 p, .bool zo, .bool st] 40) = wa := ⟨_, rfl⟩
          have hba : Below w38.heap.size w38 ws := by rw [← hwa]; exact below_more (Below.refl _ _) _
          have lS : W.heap.size ≤ gS := by rw [← hg]; exact HW.out.size
          rw [hwa, hg] at BS0
          have HWA := Lib.hid hwa
          have HG := Lib.hid hg
          clear hwa hg
          replace HW := Lib.hid (pass HW.out hba)
          replace PR := Lib.hid (own_below PR.out hba)
          replace RG := Lib.hid (own_below RG.out hba)
          replace RA := Lib.hid (own_below RA.out hba)
          replace BG := Lib.hid (Blk.kept hba BG.out)
          clear hba
          go_upto_region 21 with fail
          rw [HWA.out, HG.out]
          clear HWA HG
          clear pBG0 pBG1 pBG2 pBG3
          clear BG
          have f1 := BS0.out.free 1
          have f3 := BS0.out.free 3
          have k1 := BS0.out.cell 1 _ rfl
          have k3 := BS0.out.cell 3 _ rfl
          go_upto_region 23 with fail
          have BS := Lib.hid ((BS0.out.set 1 (.int .i64 0)).set 3 (.bool false))
          have HW2 := Lib.hid (below_set (below_set HW.out lS (j := 1) (.int .i64 0)) lS (j := 3) (.bool false))
          have PR2 := Lib.hid (own_set (own_set PR.out (g := gS) (j := 1) (.int .i64 0) (own_farI PR.out BS0.out)) (g := gS) (j := 3) (.bool false) (own_farI PR.out BS0.out))
          have RG2 := Lib.hid (own_set (own_set RG.out (g := gS) (j := 1) (.int .i64 0) (own_far RG.out BS0.out)) (g := gS) (j := 3) (.bool false) (own_far RG.out BS0.out))
          have RA2 := Lib.hid (own_set (own_set RA.out (g := gS) (j := 1) (.int .i64 0) (own_far RA.out BS0.out)) (g := gS) (j := 3) (.bool false) (own_far RA.out BS0.out))
          clear f1 f3 k1 k3 BS0 HW PR RG RA
          revert BS HW2 PR2 RG2 RA2
          generalize (World.setCell (World.setCell _ _ _) _ _) = wt
          intro BS HW PR RG RA
          obtain ⟨res, cnt2, ok2, hri, hrl⟩ := runIs_ex xs ⟨L, 0, zo, false⟩ 20
          obtain ⟨y, yp, yz, ys⟩ := res
          obtain ⟨l2, hll⟩ : ∃ l2, y.length = l2 := ⟨_, rfl⟩
          have hRJ : ∀ w, w.ownsRow W.heap.size 25 4 (.slice (some ⟨gl, 0, none⟩) m c0) m (FL xs) → w.ownsRow W.heap.size 3 1 (.slice A1 n1 c1) n1 (I L) → OpsIs w → Calls Tryd.prog 20 #[.slice (some ⟨gl, 0, none⟩) m c0, .agg #[.slice A1 n1 c1, .int .i64 0, .bool zo, .bool false], .int .i64 20] w fun e w' => ∃ A0 c9, e = .returned (.tuple #[.agg #[.slice A0 l2 c9, .int .i64 yp, .bool yz, .bool ys], .int .i64 cnt2, .bool ok2]) ∧ w'.ownsRow w.heap.size 3 1 (.slice A0 l2 c9) l2 (I y) ∧ Below w.heap.size w w' := fun w h1 h2 ho => by
            have h := implRun_any (some ⟨gl, 0, none⟩) A1 m c0 n1 c1 xs ⟨L, 0, zo, false⟩ 20 w (Reads.of_own h1) (by omega) (Reads.of_own h2) (by omega) ho ⟨y, yp, yz, ys⟩ cnt2 ok2 hri
            rw [show (Regs.mk y yp yz ys).r.length = l2 from hll] at h
            exact h
          have HhRJ := Lib.hid hRJ
          clear hRJ
          obtain ⟨rfl, h20, hin⟩ : ok2 = true ∧ cnt2 ≤ 20 ∧ yp ∈ Y := by
            have hs := okG_start HOK.out
            rcases hri with ⟨h, _⟩ | ⟨_, _, _, N2, h4, h5, h6, h7⟩
            · exact absurd ⟨hs, by omega, by omega⟩ h
            · refine ⟨h7, by have := h4.1; omega, ?_⟩
              have h8 := place_in hs rfl HYR.out N2
              rw [← h5] at h8
              exact h8
          clear hri hrl hll
          have pBS0 := BS.out.cell 0 _ rfl
          have pBS1 := BS.out.cell 1 _ rfl
          have pBS2 := BS.out.cell 2 _ rfl
          have pBS3 := BS.out.cell 3 _ rfl
          go_wp2_with fail
          refine (HhRJ.out _ PR.out RG.out (ops_below HW.out HO.out)).mono ?_
          rintro e w39 ⟨A5, c5, rfl, hown, hb⟩
          have NR := Lib.hid (own_mono hown HW.out.size)
          clear hown
          replace HW := Lib.hid (pass HW.out hb)
          replace PR := Lib.hid (own_below PR.out hb)
          replace RG := Lib.hid (own_below RG.out hb)
          replace RA := Lib.hid (own_below RA.out hb)
          replace BS := Lib.hid (Blk.kept hb BS.out)
          clear hb
          clear pBS0 pBS1 pBS2 pBS3
          have RL := NR
          clear NR
          clear BS RL
          have BL := Lib.hid (Blk.new w39 #[.slice A5 l2 c5, .int .i64 yp, .bool yz, .bool ys] 40)
          obtain ⟨gBL, hg⟩ : ∃ g, w39.heap.size = g := ⟨_, rfl⟩
          obtain ⟨w40, hwa⟩ : ∃ wa, w39.alloc (.cells #[.slice A5 l2 c5, .int .i64 yp, .bool yz, .bool ys] 40) = wa := ⟨_, rfl⟩
          have hba : Below w39.heap.size w39 w40 := by rw [← hwa]; exact below_more (Below.refl _ _) _
          have lBL : W.heap.size ≤ gBL := by rw [← hg]; exact HW.out.size
          rw [hwa, hg] at BL
          have HWA := Lib.hid hwa
          have HG := Lib.hid hg
          clear hwa hg
          replace HW := Lib.hid (pass HW.out hba)
          replace PR := Lib.hid (own_below PR.out hba)
          replace RG := Lib.hid (own_below RG.out hba)
          replace RA := Lib.hid (own_below RA.out hba)
          clear hba
          go_upto_region 24 with fail
          rw [HWA.out, HG.out]
          clear HWA HG
          have h21 : ¬ (20 : Int) < cnt2 := by omega
          have pBL0 := BL.out.cell 0 _ rfl
          have pBL1 := BL.out.cell 1 _ rfl
          have pBL2 := BL.out.cell 2 _ rfl
          have pBL3 := BL.out.cell 3 _ rfl
          go_wp2_with fail
          refine (rHas_any A7 ly c7 _ Y yp _ (Reads.of_own RA.out) (by omega) true (decide_eq_true hin)).mono ?_
          rintro e wq ⟨rfl, rfl⟩
          clear pBL0 pBL1 pBL2 pBL3
          clear h21 h20 hin HhRJ HQI HYR HOK
          clear BL PR RG RA
          go_wp2_with fail
          refine (drawStepGuest_any _ A n c zs HZ.out (HR.out _ HW.out) hn).mono ?_
          rintro e w41 ⟨gl, m, c0, xs, A1, n1, c1, L, p, zo, st, rfl, ⟨hm, ho1, hb⟩, hk1, ho2⟩
          have PR := Lib.hid (own_mono ho1 HW.out.size)
          have RG := Lib.hid (own_mono ho2 HW.out.size)
          replace HW := Lib.hid (pass HW.out hb)
          clear hb ho1 ho2
          have BG := Lib.hid (Blk.new w41 #[.slice A1 n1 c1, .int .i64 p, .bool zo, .bool st] 40)
          obtain ⟨gBG, hg⟩ : ∃ g, w41.heap.size = g := ⟨_, rfl⟩
          obtain ⟨w42, hwa⟩ : ∃ wa, w41.alloc (.cells #[.slice A1 n1 c1, .int .i64 p, .bool zo, .bool st] 40) = wa := ⟨_, rfl⟩
          have hba : Below w41.heap.size w41 w42 := by rw [← hwa]; exact below_more (Below.refl _ _) _
          have lBG : W.heap.size ≤ gBG := by rw [← hg]; exact HW.out.size
          rw [hwa, hg] at BG
          have HWA := Lib.hid hwa
          have HG := Lib.hid hg
          clear hwa hg
          replace HW := Lib.hid (pass HW.out hba)
          replace PR := Lib.hid (own_below PR.out hba)
          replace RG := Lib.hid (own_below RG.out hba)
          clear hba
          go_upto_region 27 with fail
          rw [HWA.out, HG.out]
          clear HWA HG
          obtain ⟨⟨r, rp, rz, rs⟩, ok, hres⟩ : ∃ (g : Regs) (ok : Bool), resOf xs ⟨L, p, zo, st⟩ = (g, ok) := ⟨_, _, rfl⟩
          obtain ⟨l, hll⟩ : ∃ l, r.length = l := ⟨_, rfl⟩
          have HSI := Lib.hid (implStep_any (some ⟨gl, 0, none⟩) A1 m c0 n1 c1 xs ⟨L, p, zo, st⟩)
          have HSS := Lib.hid (specStep_any (some ⟨gl, 0, none⟩) A1 m c0 n1 c1 xs ⟨L, p, zo, st⟩)
          rw [hres] at HSI HSS
          simp only [hll] at HSI HSS
          have hl4 : l ≤ 4 := by
            by_cases hh : OkG xs ⟨L, p, zo, st⟩ ∧ st = false
            · have h5 := len_step hh.1
              have h6 : resOf xs ⟨L, p, zo, st⟩ = (stepOf xs ⟨L, p, zo, st⟩, true) := by unfold resOf; rw [if_pos hh]
              rw [h6] at hres
              injection hres with e1 e2
              rw [e1] at h5
              simp only at h5
              omega
            · have h6 : resOf xs ⟨L, p, zo, st⟩ = (⟨[], 0, false, false⟩, false) := by unfold resOf; rw [if_neg hh]
              rw [h6] at hres
              injection hres with e1 e2
              injection e1 with e3
              rw [← hll, ← e3]; simp
          clear hres hll
          have pBG0 := BG.out.cell 0 _ rfl
          have pBG1 := BG.out.cell 1 _ rfl
          have pBG2 := BG.out.cell 2 _ rfl
          have pBG3 := BG.out.cell 3 _ rfl
          go_wp2_with fail
          refine (HSI.out _ (Reads.of_own PR.out) (by omega) (Reads.of_own RG.out) (by omega) (ops_below HW.out HO.out)).mono ?_
          rintro e w43 ⟨A0, c9, rfl, hown, hb⟩
          have NR := Lib.hid (own_mono hown HW.out.size)
          clear hown
          replace HW := Lib.hid (pass HW.out hb)
          replace PR := Lib.hid (own_below PR.out hb)
          replace RG := Lib.hid (own_below RG.out hb)
          replace BG := Lib.hid (Blk.kept hb BG.out)
          clear hb
          clear pBG0 pBG1 pBG2 pBG3
          have RO := NR
          clear NR
          have BO := Lib.hid (Blk.new w43 #[.slice A0 l c9, .int .i64 rp, .bool rz, .bool rs] 40)
          obtain ⟨gBO, hg⟩ : ∃ g, w43.heap.size = g := ⟨_, rfl⟩
          obtain ⟨w44, hwa⟩ : ∃ wa, w43.alloc (.cells #[.slice A0 l c9, .int .i64 rp, .bool rz, .bool rs] 40) = wa := ⟨_, rfl⟩
          have hba : Below w43.heap.size w43 w44 := by rw [← hwa]; exact below_more (Below.refl _ _) _
          have lBG_BO : gBG < gBO := by rw [← hg]; exact BG.out.lt
          have lBO : W.heap.size ≤ gBO := by rw [← hg]; exact HW.out.size
          rw [hwa, hg] at BO
          have HWA := Lib.hid hwa
          have HG := Lib.hid hg
          clear hwa hg
          replace HW := Lib.hid (pass HW.out hba)
          replace PR := Lib.hid (own_below PR.out hba)
          replace RG := Lib.hid (own_below RG.out hba)
          replace RO := Lib.hid (own_below RO.out hba)
          replace BG := Lib.hid (Blk.kept hba BG.out)
          clear hba
          go_upto_region 28 with fail
          rw [HWA.out, HG.out]
          clear HWA HG
          have pBG0 := BG.out.cell 0 _ rfl
          have pBG1 := BG.out.cell 1 _ rfl
          have pBG2 := BG.out.cell 2 _ rfl
          have pBG3 := BG.out.cell 3 _ rfl
          go_wp2_with fail
          refine (HSS.out _ (Reads.of_own PR.out) (by omega) (Reads.of_own RG.out) (by omega)).mono ?_
          rintro e w45 ⟨A2, c2, rfl, hown, hb⟩
          have NR := Lib.hid (own_mono hown HW.out.size)
          clear hown
          replace HW := Lib.hid (pass HW.out hb)
          replace PR := Lib.hid (own_below PR.out hb)
          replace RG := Lib.hid (own_below RG.out hb)
          replace RO := Lib.hid (own_below RO.out hb)
          replace BG := Lib.hid (Blk.kept hb BG.out)
          replace BO := Lib.hid (Blk.kept hb BO.out)
          clear hb
          clear pBG0 pBG1 pBG2 pBG3
          have RT := NR
          clear NR
          have BT := Lib.hid (Blk.new w45 #[.slice A2 l c2, .int .i64 rp, .bool rz, .bool rs] 40)
          obtain ⟨gBT, hg⟩ : ∃ g, w45.heap.size = g := ⟨_, rfl⟩
          obtain ⟨w46, hwa⟩ : ∃ wa, w45.alloc (.cells #[.slice A2 l c2, .int .i64 rp, .bool rz, .bool rs] 40) = wa := ⟨_, rfl⟩
          have hba : Below w45.heap.size w45 w46 := by rw [← hwa]; exact below_more (Below.refl _ _) _
          have lBG_BT : gBG < gBT := by rw [← hg]; exact BG.out.lt
          have lBO_BT : gBO < gBT := by rw [← hg]; exact BO.out.lt
          have lBT : W.heap.size ≤ gBT := by rw [← hg]; exact HW.out.size
          rw [hwa, hg] at BT
          have HWA := Lib.hid hwa
          have HG := Lib.hid hg
          clear hwa hg
          replace HW := Lib.hid (pass HW.out hba)
          replace PR := Lib.hid (own_below PR.out hba)
          replace RG := Lib.hid (own_below RG.out hba)
          replace RO := Lib.hid (own_below RO.out hba)
          replace RT := Lib.hid (own_below RT.out hba)
          replace BG := Lib.hid (Blk.kept hba BG.out)
          replace BO := Lib.hid (Blk.kept hba BO.out)
          clear hba
          go_upto_region 29 with fail
          rw [HWA.out, HG.out]
          clear HWA HG
          have e1 : (ok != ok) = false := by simp
          clear HSI HSS
          have pBO0 := BO.out.cell 0 _ rfl
          have pBO1 := BO.out.cell 1 _ rfl
          have pBO2 := BO.out.cell 2 _ rfl
          have pBO3 := BO.out.cell 3 _ rfl
          have pBT0 := BT.out.cell 0 _ rfl
          have pBT1 := BT.out.cell 1 _ rfl
          have pBT2 := BT.out.cell 2 _ rfl
          have pBT3 := BT.out.cell 3 _ rfl
          go_wp2_with fail
          refine (rRegisters_same A0 A2 l c9 c2 r rp rz rs _ (by omega) (Reads.of_own RO.out) (Reads.of_own RT.out)).mono ?_
          rintro e w47 ⟨rfl, hb⟩
          replace HW := Lib.hid (pass HW.out hb)
          replace PR := Lib.hid (own_below PR.out hb)
          replace RG := Lib.hid (own_below RG.out hb)
          replace RO := Lib.hid (own_below RO.out hb)
          replace RT := Lib.hid (own_below RT.out hb)
          replace BG := Lib.hid (Blk.kept hb BG.out)
          replace BO := Lib.hid (Blk.kept hb BO.out)
          replace BT := Lib.hid (Blk.kept hb BT.out)
          clear hb
          clear pBO0 pBO1 pBO2 pBO3 pBT0 pBT1 pBT2 pBT3
          clear e1
          clear BG BO BT PR RG RO RT
          go_wp2_with fail
          refine (drawReachedBy_any _ A n c zs HZ.out (HR.out _ HW.out) hn).mono ?_
          rintro e w48 ⟨gl, m, c0, xs, rfl, ⟨hm, ho1, hb⟩⟩
          have PR := Lib.hid (own_mono ho1 HW.out.size)
          replace HW := Lib.hid (pass HW.out hb)
          clear hb ho1
          obtain ⟨Y, b9, hy1, hy2, hyl⟩ := reach_ex xs
          have hbd : decide (OkP xs) = b9 := by
            by_cases hh : OkP xs
            · rw [decide_eq_true hh, (hy1 hh).2]
            · rw [decide_eq_false hh, (hy2 hh).2]
          obtain ⟨ly, hly⟩ : ∃ ly, Y.length = ly := ⟨_, rfl⟩
          have HQI := Lib.hid fun w h ho => implReach_any (some ⟨gl, 0, none⟩) m c0 xs w h (by omega) ho Y b9 hy1 hy2
          have HQS := Lib.hid fun w h => specReach_any (some ⟨gl, 0, none⟩) m c0 xs w h (by omega) Y b9 hy1 hy2
          have HPG := Lib.hid fun w h ho => implProg_any (some ⟨gl, 0, none⟩) m c0 xs w h (by omega) ho b9 hbd
          rw [hly] at HQI HQS hyl
          clear hy1 hy2 hbd hly
          go_wp2_with fail
          refine (HQI.out _ (Reads.of_own PR.out) (ops_below HW.out HO.out)).mono ?_
          rintro e w49 ⟨A7, c7, rfl, hown, hb⟩
          have NR := Lib.hid (own_mono hown HW.out.size)
          clear hown
          replace HW := Lib.hid (pass HW.out hb)
          replace PR := Lib.hid (own_below PR.out hb)
          clear hb
          have RA := NR
          clear NR
          go_wp2_with fail
          refine (HQS.out _ (Reads.of_own PR.out)).mono ?_
          rintro e w50 ⟨A8, c8, rfl, hown, hb⟩
          have NR := Lib.hid (own_mono hown HW.out.size)
          clear hown
          replace HW := Lib.hid (pass HW.out hb)
          replace PR := Lib.hid (own_below PR.out hb)
          replace RA := Lib.hid (own_below RA.out hb)
          clear hb
          have RB := NR
          clear NR
          have e1 : (b9 == b9) = true := by simp
          go_wp2_with fail
          refine (rInts_same A7 A8 ly c7 c8 Y _ (by omega) (Reads.of_own RA.out) (Reads.of_own RB.out)).mono ?_
          rintro e w51 ⟨rfl, hb⟩
          replace HW := Lib.hid (pass HW.out hb)
          replace PR := Lib.hid (own_below PR.out hb)
          replace RA := Lib.hid (own_below RA.out hb)
          replace RB := Lib.hid (own_below RB.out hb)
          clear hb
          go_wp2_with fail
          refine (HPG.out _ (Reads.of_own PR.out) (ops_below HW.out HO.out)).mono ?_
          rintro e w52 ⟨rfl, hb⟩
          replace HW := Lib.hid (pass HW.out hb)
          replace PR := Lib.hid (own_below PR.out hb)
          replace RA := Lib.hid (own_below RA.out hb)
          replace RB := Lib.hid (own_below RB.out hb)
          clear hb
          go_wp2_with fail
          go_ret
          exact ⟨rfl, HW.out⟩

set_option maxHeartbeats 4000000 in
set_option maxRecDepth 100000 in
/-- the law's Go text returns true, and nothing that was there has turned -/
theorem walk {H : Type} {enc : TypeId × Value → H} (W : World) (base : Nat) (v0 : Value) (d0 : DataW H) (p0 : List MemPlace) (q0 : Value.okWide Tryd.prog W .any base 22 v0) (h0 : DataW.Trod enc Tryd.prog W 0 (fun _ => true) true 22 v0 d0 p0) (l0 : ∀ x ∈ p0, x.block < W.heap.size) (hL : laidMetH Tryd.prog Rows.fnGuestRunsRow.laid W) (hsh : W.ShapedOpen Tryd.prog) :
    Calls Tryd.prog 4 #[v0] W fun e W' => e = .returned (.bool true) ∧ Below W.heap.size W W' := by
  have ho := tab hL
  clear hsh hL
  obtain ⟨A, n, c, zs, rfl, hc, hcm, hl, hwf, hr⟩ := open_nums Tryd.underlying22 Tryd.underlying5 (by kernel_rfl) q0 h0
  exact walk0 W A n c zs (fun z hz => bounds_u8 (hwf z hz)) hr ho
noncomputable def laidWorld (os : Os) : World := { World.holding Tryd.prog os ⟨#[], #[], []⟩ with heap := ((World.holding Tryd.prog os ⟨#[], #[], []⟩).heap).modify 0 (Fr.lay #[.string ⟨#[104, 97, 108, 116]⟩, .int .i64 1, .int .i64 1, .int .i64 1, .string ⟨#[115, 101, 116]⟩, .int .i64 4, .int .i64 1, .int .i64 65536, .string ⟨#[109, 111, 118, 101]⟩, .int .i64 4, .int .i64 4, .int .i64 1, .string ⟨#[97, 100, 100]⟩, .int .i64 4, .int .i64 4, .int .i64 1, .string ⟨#[115, 117, 98]⟩, .int .i64 4, .int .i64 4, .int .i64 1, .string ⟨#[97, 110, 100]⟩, .int .i64 4, .int .i64 4, .int .i64 1, .string ⟨#[115, 104, 105, 102, 116]⟩, .int .i64 4, .int .i64 1, .int .i64 16, .string ⟨#[106, 117, 109, 112]⟩, .int .i64 1, .int .i64 1, .int .i64 16, .string ⟨#[106, 117, 109, 112, 122, 101, 114, 111]⟩, .int .i64 1, .int .i64 1, .int .i64 16, .string ⟨#[116, 114, 97, 112]⟩, .int .i64 1, .int .i64 1, .int .i64 256]) }
theorem laid_met (os : Os) : laidMetH Tryd.prog Rows.fnGuestRunsRow.laid ((laidWorld os).forCall (fun _ _ => 0) ⟨#[], #[(.slice none 0 0 : Value)], []⟩).memory := laidMet_of_run' 8 (by kernel_rfl) (by kernel_rfl)
theorem reads (os : Os) {H : Type} (enc : TypeId × Value → H) : (DataW.whole enc Tryd.prog ((laidWorld os).forCall (fun _ _ => 0) ⟨#[], #[(.slice none 0 0 : Value)], []⟩).memory Tryd.f4.params.toList Rows.fnGuestRunsSpec.vars false #[(.slice none 0 0 : Value)].toList 8).isSome = true := by kernel_rfl
set_option maxRecDepth 100000 in
theorem lifted (os : Os) (started : os.Started) (H : Type) (enc : TypeId × Value → H) (F : Stop.Interp) :
    ReturnsInHanded {} Tryd.checked os 4 .any ((OpenSpec.ofChange Rows.fnGuestRunsSpec).preRow enc Tryd.prog Tryd.f4 Rows.fnGuestRunsRow.domain false Rows.fnGuestRunsRow.laid) (((OpenSpec.ofChange Rows.fnGuestRunsSpec).at F).post enc Tryd.prog Tryd.f4 false true false false) := by
  obtain ⟨x, hx⟩ := Option.isSome_iff_exists.1 (reads os enc)
  refine returnsInHanded_of_row (C := Tryd.checked) (s := OpenSpec.ofChange Rows.fnGuestRunsSpec) own started (by kernel_rfl) Tryd.func4
    (witness_row_at (enc := enc) (C := Tryd.checked) false (laidWorld os) #[(.slice none 0 0 : Value)] rfl (by kernel_rfl) (by kernel_rfl) (by kernel_rfl)
      (OpenSpec.preRow_of_cond 8 hx (by rfl) (fun k hk => by cases hk) (by kernel_rfl) (laid_met os))) ?_
  intro W base args ds gs before hval0 hW _ hcond hsz hL hsh _
  have hval : ∀ (j : Nat) t v, Tryd.f4.params[j]? = some t → args[j]? = some v → Value.okWide Tryd.prog W .any base t v := hval0
  have hW' := hW
  obtain ⟨p, q, hA0, hV, rfl, hfz, hnd⟩ := hW
  have hA : DataW.TrodAll enc Tryd.prog W 0 (fun _ => true) true Tryd.f4.params.toList args.toList ds p := hA0
  rw [Tryd.params4] at hA hval
  obtain ⟨v0, vs0, d0, ds0, p0, q0, hargs, rfl, rfl, h0, r0⟩ := trodAll_cons hA
  obtain ⟨rfl, rfl, rfl⟩ := trodAll_nil r0
  obtain rfl : args = #[v0] := by cases args; simp_all
  clear hA0 hval0
  try simp only [List.append_nil] at hW'
  refine (walk (enc := enc) W base v0 d0 p0 (hval 0 22 v0 rfl rfl) h0 (fun x hx => hW'.lt x (by simp [hx])) hL hsh).mono fun e W' ⟨he, hb⟩ => ⟨_, he, Fr.post_true_v laidOut (by kernel_rfl) (by kernel_rfl) Tryd.underlying4 (by kernel_rfl) hW' (fun xs ys hx hy => by match xs, ys, hx, hy with | [x0], [y0], _, _ => rfl) hb⟩
theorem said : Rows.FnGuestRunsSaid :=
  OpenClaim.holds_of_cond 4 Tryd.f4 rfl rfl rfl rfl rfl rfl rfl ⟨rfl, rfl, rfl, rfl, rfl⟩ rfl rfl rfl rfl rfl (by kernel_rfl) Tryd.func4 (by kernel_rfl)
    (of_decide_eq_true (by kernel_rfl)) (by unfold Func.isWrapper; first | (rw [if_pos (by decide +kernel)]; kernel_rfl) | (rw [if_neg (by decide +kernel)]; exact ⟨rfl, rfl⟩))
    (fun os started H enc _ F => by rw [OpenClaim.pre_eq_preRow]; exact lifted os started H enc F)
theorem plain (f : FuncId) (fn : Func) (hf : Tryd.pinned.checked.prog.funcNamed "loop.example/g00843/laws.FnGuestRuns" = some f) (hfn : Tryd.pinned.checked.prog.funcs[f]? = some fn) :
    true = Tryd.pinned.checked.prog.looks [] ∧ ∀ (j : Nat) t, fn.params[j]? = some t → Tryd.pinned.checked.prog.wantsStandIn t = false := by
  obtain rfl : f = 4 := Option.some.inj ((show Tryd.prog.funcNamed "loop.example/g00843/laws.FnGuestRuns" = some 4 by kernel_rfl).symm.trans hf) |>.symm
  obtain rfl : fn = Tryd.f4 := (Option.some.inj (Tryd.func4.symm.trans hfn)).symm
  refine ⟨by kernel_rfl, fun j t ht => ?_⟩
  have hall : Tryd.f4.params.toList.all (fun t => !Tryd.prog.wantsStandIn t) = true := by kernel_rfl
  have := List.all_eq_true.1 hall t (by simpa using Array.mem_of_getElem? ht)
  show Tryd.prog.wantsStandIn t = false
  simpa using this
theorem card : Rows.FnGuestRunsCardSaid :=
  Claim7.holds_tied_plain_at .later [] _ _ _ _ said (fun _ h => by cases h) (by kernel_rfl) (fun _ h => by cases h) fnGuestRuns_row_tie rfl ⟨rfl, rfl⟩ (by kernel_rfl) rfl plain (by kernel_rfl)
#print axioms card
end Go.Proofs.YtfdbnolifimnhabDoor.fnGuestRuns
