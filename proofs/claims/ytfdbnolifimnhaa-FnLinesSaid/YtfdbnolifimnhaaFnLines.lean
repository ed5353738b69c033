/- For every code the law FnLines returns true. -/
import Derived.Test.YtfdbnolifimnhaaRows
import Derived.Test.YtfdbnolifimnhaaFrame
import Derived.Test.YtfdbnolifimnhaaDr7
import Derived.Test.YtfdbnolifimnhaaRLn
import Derived.Test.YtfdbnolifimnhaaRInt
import Derived.Test.YtfdbnolifimnhaaLnDa
import Derived.Test.YtfdbnolifimnhaaLnEa
import Derived.Test.YtfdbnolifimnhaaLnDc
import Derived.Test.YtfdbnolifimnhaaLnEc
import Derived.Deep.Cut
namespace Go.Proofs.Ytfdbnolifimnhaa.fnLines
open Go.ChangeShapes Go.WideShapes Go.ChangeAt Go.RowKit
open Go.ChangeMaps (open_string shut_string)
open Go Go.Proofs.Ytfdbnolifimnhaa.L7 Go.Proofs.Ytfdbnolifimnhaa.Mem Go.Proofs.Ytfdbnolifimnhaa.Own Go.Proofs.Ytfdbnolifimnhaa.Draw
set_option linter.unusedVariables false
theorem own : ownKnob Try.prog.godebug = none := by kernel_rfl
theorem laidOut : laidOutB Try.prog = true := by kernel_rfl
theorem pass {w w1 w2 : World} (h : Below w.heap.size w w1) (k : Below w1.heap.size w1 w2) : Below w.heap.size w w2 := h.trans (k.mono h.size)
theorem dr_ok (x : Lin) (g : Bool) : ∃ y, drAns x g = (y, decide (Ok x)) := by
  by_cases h : Ok x
  · exact ⟨drv x g, by unfold drAns; rw [if_pos h, decide_eq_true h]⟩
  · exact ⟨noLin, by unfold drAns; rw [if_neg h, decide_eq_false h]⟩
theorem tk_ok (x : Lin) : ∃ y r, tkAns x = (y, r, decide (Ok x)) := by
  by_cases h : Ok x
  · exact ⟨tak x, x.ra, by unfold tkAns; rw [if_pos h, decide_eq_true h]⟩
  · exact ⟨noLin, false, by unfold tkAns; rw [if_neg h, decide_eq_false h]⟩
theorem again {x : Lin} {g : Bool} (h : Ok x) : drAns (drv x g) g = (drv x g, true) := by
  unfold drAns
  rw [if_pos (drv_ok h)]
  unfold drv
  simp only
  by_cases h1 : x.ki = 1
  · simp [h1]
  · simp only [if_neg h1]
    cases x.ra <;> cases g <;> cases x.hi <;> rfl
theorem edge_once {x : Lin} (h : x.ki = 0) (k : Nat) : (pulN x k).1.ki = 0 ∧ (pulN x k).2 ≤ 1 ∧ ((pulN x k).2 = 1 → (pulN x k).1.ra = true) := by
  induction k with
  | zero => exact ⟨h, by simp [pulN], by simp [pulN]⟩
  | succ k ih =>
    obtain ⟨i1, i2, i3⟩ := ih
    have e1 : (pulN x (k + 1)).1 = pulse (pulN x k).1 := rfl
    have e2 : (pulN x (k + 1)).2 = (pulN x k).2 + rose (pulN x k).1 := rfl
    rw [e1, e2]
    generalize pulN x k = q at *
    obtain ⟨⟨y0, y1, y2, y3⟩, m⟩ := q
    simp only at i1 i2 i3 ⊢
    subst i1
    refine ⟨rfl, ?_, ?_⟩
    · unfold rose drv
      simp only
      cases y3
      · have hm : m = 0 := by
          rcases Nat.lt_or_ge m 1 with h1 | h1
          · omega
          · have := i3 (by omega); cases this
        subst hm
        cases y2 <;> decide
      · simp; omega
    · unfold rose pulse drv
      simp only
      cases y3
      · have hm : m = 0 := by
          rcases Nat.lt_or_ge m 1 with h1 | h1
          · omega
          · have := i3 (by omega); cases this
        subst hm
        cases y2 <;> decide
      · intro _; cases y2 <;> decide
theorem pl_known {xs : List Lin} {i t : Int} {l : List Lin} {z : Int} (h : plAns xs i t = (l, z, true)) : OkL xs ∧ (0 ≤ i ∧ i < (xs.length : Int)) ∧ z = ((pulN (xs.getD i.toNat default) t.toNat).2 : Int) := by
  unfold plAns at h
  split at h
  · rename_i hh
    simp only [Prod.mk.injEq] at h
    exact ⟨hh.1, hh.2.1, h.2.1.symm⟩
  · simp at h
set_option maxRecDepth 100000 in
set_option maxHeartbeats 4000000 in
theorem walk0 (W : World) (A : Option Addr) (n c : Nat) (zs : List Int) (hz : ∀ z ∈ zs, 0 ≤ z ∧ z ≤ 255) (hr : Reads W W.heap.size 1 A n (zs.map (Value.int .u8))) :
    Calls Try.prog 5 #[.slice A n c] W fun e W' => e = .returned (.bool true) ∧ Below W.heap.size W W' := by
  by_cases h1 : (65536 : Int) < n
  · have hv := rBig_any A n c W
    rw [decide_eq_true h1] at hv
    have HV := Lib.hid hv
    clear hv hr
    go_enter Try.func5, Try.ntmps5
    go_wp2_with fail
    refine HV.out.mono ?_
    rintro e w1 ⟨rfl, rfl⟩
    go_wp2_with fail
    go_ret
    exact ⟨rfl, Below.refl _ _⟩
  have hv := rBig_any A n c W
  rw [decide_eq_false h1] at hv
  have HV := Lib.hid hv
  have hn : n ≤ 1000000 := by omega
  have HR := Lib.hid fun (w : World) (hb : Below W.heap.size W w) => (show Reads w w.heap.size 1 A n (zs.map (Value.int .u8)) from (hr.below hb).more hb.size)
  have HZ := Lib.hid hz
  have HW := Lib.hid (Below.refl W.heap.size W)
  clear hv hr hz h1
  go_enter Try.func5, Try.ntmps5
  go_wp2_with fail
  refine HV.out.mono ?_
  rintro e w0 ⟨rfl, rfl⟩
  clear HV
  go_wp2_with fail
  refine (drawDriveLine_any _ A n c zs HZ.out (HR.out _ HW.out) hn).mono ?_
  rintro e w1 ⟨x0, x1, x2, x3, q, rfl, hb⟩
  replace HW := Lib.hid (pass HW.out hb)
  clear hb
  have BX := Lib.hid (Blk.new w1 #[.int .i64 x0, .int .i64 x1, .bool x2, .bool x3] 58)
  obtain ⟨gBX, hg⟩ : ∃ g, w1.heap.size = g := ⟨_, rfl⟩
  obtain ⟨w2, hwa⟩ : ∃ wa, w1.alloc (.cells #[.int .i64 x0, .int .i64 x1, .bool x2, .bool x3] 58) = wa := ⟨_, rfl⟩
  have hba : Below w1.heap.size w1 w2 := by rw [← hwa]; exact below_more (Below.refl _ _) _
  rw [hwa, hg] at BX
  have HWA := Lib.hid hwa
  have HG := Lib.hid hg
  clear hwa hg
  replace HW := Lib.hid (pass HW.out hba)
  clear hba
  go_upto_region 4 with fail
  rw [HWA.out, HG.out]
  clear HWA HG
  obtain ⟨Y, hY⟩ := dr_ok ⟨x0, x1, x2, x3⟩ q
  obtain ⟨b, hb_⟩ : ∃ b, decide (Ok ⟨x0, x1, x2, x3⟩) = b := ⟨_, rfl⟩
  rw [hb_] at hY
  have HOK := Lib.hid hb_
  clear hb_
  have HYV : Hid (b = true → Y = drv ⟨x0, x1, x2, x3⟩ q) := Lib.hid (fun h => by subst h; exact (drAns_yes hY (of_decide_eq_true HOK.out)).1)
  obtain ⟨y0, y1, y2, y3⟩ := Y
  have HD := Lib.hid hY
  clear hY
  have pBX0 := BX.out.cell 0 _ rfl
  have pBX1 := BX.out.cell 1 _ rfl
  have pBX2 := BX.out.cell 2 _ rfl
  have pBX3 := BX.out.cell 3 _ rfl
  go_wp2_with fail
  refine (implDrive_any x0 x1 x2 x3 q y0 y1 y2 y3 b _ HD.out).mono ?_
  rintro e w3 ⟨rfl, hb⟩
  replace HW := Lib.hid (pass HW.out hb)
  replace BX := Lib.hid (Blk.kept hb BX.out)
  clear hb
  clear pBX0 pBX1 pBX2 pBX3
  have BY := Lib.hid (Blk.new w3 #[.int .i64 y0, .int .i64 y1, .bool y2, .bool y3] 58)
  obtain ⟨gBY, hg⟩ : ∃ g, w3.heap.size = g := ⟨_, rfl⟩
  obtain ⟨w4, hwa⟩ : ∃ wa, w3.alloc (.cells #[.int .i64 y0, .int .i64 y1, .bool y2, .bool y3] 58) = wa := ⟨_, rfl⟩
  have hba : Below w3.heap.size w3 w4 := by rw [← hwa]; exact below_more (Below.refl _ _) _
  rw [hwa, hg] at BY
  have HWA := Lib.hid hwa
  have HG := Lib.hid hg
  clear hwa hg
  replace HW := Lib.hid (pass HW.out hba)
  replace BX := Lib.hid (Blk.kept hba BX.out)
  clear hba
  go_upto_region 5 with fail
  rw [HWA.out, HG.out]
  clear HWA HG
  have pBX0 := BX.out.cell 0 _ rfl
  have pBX1 := BX.out.cell 1 _ rfl
  have pBX2 := BX.out.cell 2 _ rfl
  have pBX3 := BX.out.cell 3 _ rfl
  go_wp2_with fail
  refine (specDrive_any x0 x1 x2 x3 q y0 y1 y2 y3 b _ HD.out).mono ?_
  rintro e w5 ⟨rfl, hb⟩
  replace HW := Lib.hid (pass HW.out hb)
  replace BX := Lib.hid (Blk.kept hb BX.out)
  replace BY := Lib.hid (Blk.kept hb BY.out)
  clear hb
  clear pBX0 pBX1 pBX2 pBX3
  have BZ := Lib.hid (Blk.new w5 #[.int .i64 y0, .int .i64 y1, .bool y2, .bool y3] 58)
  obtain ⟨gBZ, hg⟩ : ∃ g, w5.heap.size = g := ⟨_, rfl⟩
  obtain ⟨w6, hwa⟩ : ∃ wa, w5.alloc (.cells #[.int .i64 y0, .int .i64 y1, .bool y2, .bool y3] 58) = wa := ⟨_, rfl⟩
  have hba : Below w5.heap.size w5 w6 := by rw [← hwa]; exact below_more (Below.refl _ _) _
  rw [hwa, hg] at BZ
  have HWA := Lib.hid hwa
  have HG := Lib.hid hg
  clear hwa hg
  replace HW := Lib.hid (pass HW.out hba)
  replace BX := Lib.hid (Blk.kept hba BX.out)
  replace BY := Lib.hid (Blk.kept hba BY.out)
  clear hba
  go_upto_region 6 with fail
  rw [HWA.out, HG.out]
  clear HWA HG
  have pBX0 := BX.out.cell 0 _ rfl
  have pBX1 := BX.out.cell 1 _ rfl
  have pBX2 := BX.out.cell 2 _ rfl
  have pBX3 := BX.out.cell 3 _ rfl
  have pBY0 := BY.out.cell 0 _ rfl
  have pBY1 := BY.out.cell 1 _ rfl
  have pBY2 := BY.out.cell 2 _ rfl
  have pBY3 := BY.out.cell 3 _ rfl
  have pBZ0 := BZ.out.cell 0 _ rfl
  have pBZ1 := BZ.out.cell 1 _ rfl
  have pBZ2 := BZ.out.cell 2 _ rfl
  have pBZ3 := BZ.out.cell 3 _ rfl
  have hbb : (b != b) = false := by simp
  go_wp2_with fail
  refine (isLine_c x0 x1 x2 x3 b HOK.out _).mono ?_
  rintro e w7 ⟨rfl, hb⟩
  replace HW := Lib.hid (pass HW.out hb)
  replace BX := Lib.hid (Blk.kept hb BX.out)
  replace BY := Lib.hid (Blk.kept hb BY.out)
  replace BZ := Lib.hid (Blk.kept hb BZ.out)
  clear hb
  clear pBX0 pBX1 pBX2 pBX3 pBY0 pBY1 pBY2 pBY3 pBZ0 pBZ1 pBZ2 pBZ3
  clear BZ
  go_upto_if 66 with fail
  clear hbb HD
  go_cut [9, 10] from 33 (fun _ _ wx => Hid (Below W.heap.size W wx))
  case first =>
    cases b with
    | false =>
      go_wp2_with fail
      go_meet
      exact HW
    | true =>
      have hxo := of_decide_eq_true HOK.out
      have HAG := Lib.hid (again (g := q) hxo)
      have hyv := HYV.out rfl
      have hki := hxo.1
      simp only at hki
      clear hxo HOK HYV
      rcases hki with rfl | rfl
      · simp only [drv, Lin.mk.injEq] at hyv
        rw [if_neg (by decide)] at hyv
        obtain ⟨rfl, rfl, rfl, hy3⟩ := hyv
        have HY3 : Hid (x3 = true → y3 = true) := Lib.hid (fun h => by rw [hy3, h]; rfl)
        have hag := HAG.out
        rw [show drv ⟨0, y1, x2, x3⟩ y2 = ⟨0, y1, y2, y3⟩ by unfold drv; simp only; rw [if_neg (by decide), hy3]] at hag
        have HAG2 := Lib.hid hag
        clear hag hy3 HAG
        have pBY0 := BY.out.cell 0 _ rfl
        have pBY1 := BY.out.cell 1 _ rfl
        have pBY2 := BY.out.cell 2 _ rfl
        have pBY3 := BY.out.cell 3 _ rfl
        go_wp2_with fail
        refine (implDrive_any 0 y1 y2 y3 y2 0 y1 y2 y3 true _ HAG2.out).mono ?_
        rintro e w8 ⟨rfl, hb⟩
        replace HW := Lib.hid (pass HW.out hb)
        replace BX := Lib.hid (Blk.kept hb BX.out)
        replace BY := Lib.hid (Blk.kept hb BY.out)
        clear hb
        clear pBY0 pBY1 pBY2 pBY3
        have BA := Lib.hid (Blk.new w8 #[.int .i64 0, .int .i64 y1, .bool y2, .bool y3] 58)
        obtain ⟨gBA, hg⟩ : ∃ g, w8.heap.size = g := ⟨_, rfl⟩
        obtain ⟨w9, hwa⟩ : ∃ wa, w8.alloc (.cells #[.int .i64 0, .int .i64 y1, .bool y2, .bool y3] 58) = wa := ⟨_, rfl⟩
        have hba : Below w8.heap.size w8 w9 := by rw [← hwa]; exact below_more (Below.refl _ _) _
        rw [hwa, hg] at BA
        have HWA := Lib.hid hwa
        have HG := Lib.hid hg
        clear hwa hg
        replace HW := Lib.hid (pass HW.out hba)
        replace BX := Lib.hid (Blk.kept hba BX.out)
        replace BY := Lib.hid (Blk.kept hba BY.out)
        clear hba
        go_upto_region 10 with fail
        rw [HWA.out, HG.out]
        clear HWA HG
        have pBX0 := BX.out.cell 0 _ rfl
        have pBX1 := BX.out.cell 1 _ rfl
        have pBX2 := BX.out.cell 2 _ rfl
        have pBX3 := BX.out.cell 3 _ rfl
        have pBY0 := BY.out.cell 0 _ rfl
        have pBY1 := BY.out.cell 1 _ rfl
        have pBY2 := BY.out.cell 2 _ rfl
        have pBY3 := BY.out.cell 3 _ rfl
        have pBA0 := BA.out.cell 0 _ rfl
        have pBA1 := BA.out.cell 1 _ rfl
        have pBA2 := BA.out.cell 2 _ rfl
        have pBA3 := BA.out.cell 3 _ rfl
        cases x3 with
        | false =>
          go_wp2_with fail
          go_meet
          exact HW
        | true =>
          have hy3 := HY3.out rfl
          subst hy3
          go_wp2_with fail
          go_meet
          exact HW
      · simp only [drv, Lin.mk.injEq] at hyv
        rw [if_pos trivial] at hyv
        obtain ⟨rfl, rfl, rfl, rfl⟩ := hyv
        have hag := HAG.out
        rw [show drv ⟨1, y1, x2, x3⟩ y3 = ⟨1, y1, y3, y3⟩ by unfold drv; simp] at hag
        have HAG2 := Lib.hid hag
        clear hag HAG
        have pBY0 := BY.out.cell 0 _ rfl
        have pBY1 := BY.out.cell 1 _ rfl
        have pBY2 := BY.out.cell 2 _ rfl
        have pBY3 := BY.out.cell 3 _ rfl
        go_wp2_with fail
        refine (implDrive_any 1 y1 y3 y3 y3 1 y1 y3 y3 true _ HAG2.out).mono ?_
        rintro e w10 ⟨rfl, hb⟩
        replace HW := Lib.hid (pass HW.out hb)
        replace BX := Lib.hid (Blk.kept hb BX.out)
        replace BY := Lib.hid (Blk.kept hb BY.out)
        clear hb
        clear pBY0 pBY1 pBY2 pBY3
        have BA := Lib.hid (Blk.new w10 #[.int .i64 1, .int .i64 y1, .bool y3, .bool y3] 58)
        obtain ⟨gBA, hg⟩ : ∃ g, w10.heap.size = g := ⟨_, rfl⟩
        obtain ⟨w11, hwa⟩ : ∃ wa, w10.alloc (.cells #[.int .i64 1, .int .i64 y1, .bool y3, .bool y3] 58) = wa := ⟨_, rfl⟩
        have hba : Below w10.heap.size w10 w11 := by rw [← hwa]; exact below_more (Below.refl _ _) _
        rw [hwa, hg] at BA
        have HWA := Lib.hid hwa
        have HG := Lib.hid hg
        clear hwa hg
        replace HW := Lib.hid (pass HW.out hba)
        replace BX := Lib.hid (Blk.kept hba BX.out)
        replace BY := Lib.hid (Blk.kept hba BY.out)
        clear hba
        go_upto_region 10 with fail
        rw [HWA.out, HG.out]
        clear HWA HG
        have pBX0 := BX.out.cell 0 _ rfl
        have pBX1 := BX.out.cell 1 _ rfl
        have pBX2 := BX.out.cell 2 _ rfl
        have pBX3 := BX.out.cell 3 _ rfl
        have pBY0 := BY.out.cell 0 _ rfl
        have pBY1 := BY.out.cell 1 _ rfl
        have pBY2 := BY.out.cell 2 _ rfl
        have pBY3 := BY.out.cell 3 _ rfl
        have pBA0 := BA.out.cell 0 _ rfl
        have pBA1 := BA.out.cell 1 _ rfl
        have pBA2 := BA.out.cell 2 _ rfl
        have pBA3 := BA.out.cell 3 _ rfl
        have hqq : (y3 != y3) = false := by simp
        go_wp2_with fail
        go_meet
        exact HW
  case rest =>
    replace HW := hcut
    clear hcut BX BY HOK HYV
    go_wp2_with fail
    refine (drawTakeLine_any _ A n c zs HZ.out (HR.out _ HW.out) hn).mono ?_
    rintro e w12 ⟨t0, t1, t2, t3, rfl, hb⟩
    replace HW := Lib.hid (pass HW.out hb)
    clear hb
    have BX := Lib.hid (Blk.new w12 #[.int .i64 t0, .int .i64 t1, .bool t2, .bool t3] 58)
    obtain ⟨gBX, hg⟩ : ∃ g, w12.heap.size = g := ⟨_, rfl⟩
    obtain ⟨w13, hwa⟩ : ∃ wa, w12.alloc (.cells #[.int .i64 t0, .int .i64 t1, .bool t2, .bool t3] 58) = wa := ⟨_, rfl⟩
    have hba : Below w12.heap.size w12 w13 := by rw [← hwa]; exact below_more (Below.refl _ _) _
    rw [hwa, hg] at BX
    have HWA := Lib.hid hwa
    have HG := Lib.hid hg
    clear hwa hg
    replace HW := Lib.hid (pass HW.out hba)
    clear hba
    go_upto_region 13 with fail
    rw [HWA.out, HG.out]
    clear HWA HG
    obtain ⟨Y, r, hY⟩ := tk_ok ⟨t0, t1, t2, t3⟩
    obtain ⟨b, hb_⟩ : ∃ b, decide (Ok ⟨t0, t1, t2, t3⟩) = b := ⟨_, rfl⟩
    rw [hb_] at hY
    have HOK := Lib.hid hb_
    clear hb_
    obtain ⟨y0, y1, y2, y3⟩ := Y
    have HYV : Hid (b = true → t0 = 0 → y3 = false) := Lib.hid (fun h h0 => by
      subst h
      have h2 := (tkAns_yes hY (of_decide_eq_true HOK.out)).1
      simp only [tak, Lin.mk.injEq] at h2
      rw [h2.2.2.2, h0]
      simp)
    have HD := Lib.hid hY
    clear hY
    have pBX0 := BX.out.cell 0 _ rfl
    have pBX1 := BX.out.cell 1 _ rfl
    have pBX2 := BX.out.cell 2 _ rfl
    have pBX3 := BX.out.cell 3 _ rfl
    go_wp2_with fail
    refine (implTake_any t0 t1 t2 t3 y0 y1 y2 y3 r b _ HD.out).mono ?_
    rintro e w14 ⟨rfl, hb⟩
    replace HW := Lib.hid (pass HW.out hb)
    replace BX := Lib.hid (Blk.kept hb BX.out)
    clear hb
    clear pBX0 pBX1 pBX2 pBX3
    have BY := Lib.hid (Blk.new w14 #[.int .i64 y0, .int .i64 y1, .bool y2, .bool y3] 58)
    obtain ⟨gBY, hg⟩ : ∃ g, w14.heap.size = g := ⟨_, rfl⟩
    obtain ⟨w15, hwa⟩ : ∃ wa, w14.alloc (.cells #[.int .i64 y0, .int .i64 y1, .bool y2, .bool y3] 58) = wa := ⟨_, rfl⟩
    have hba : Below w14.heap.size w14 w15 := by rw [← hwa]; exact below_more (Below.refl _ _) _
    rw [hwa, hg] at BY
    have HWA := Lib.hid hwa
    have HG := Lib.hid hg
    clear hwa hg
    replace HW := Lib.hid (pass HW.out hba)
    replace BX := Lib.hid (Blk.kept hba BX.out)
    clear hba
    go_upto_region 14 with fail
    rw [HWA.out, HG.out]
    clear HWA HG
    have pBX0 := BX.out.cell 0 _ rfl
    have pBX1 := BX.out.cell 1 _ rfl
    have pBX2 := BX.out.cell 2 _ rfl
    have pBX3 := BX.out.cell 3 _ rfl
    go_wp2_with fail
    refine (specTake_any t0 t1 t2 t3 y0 y1 y2 y3 r b _ HD.out).mono ?_
    rintro e w16 ⟨rfl, hb⟩
    replace HW := Lib.hid (pass HW.out hb)
    replace BX := Lib.hid (Blk.kept hb BX.out)
    replace BY := Lib.hid (Blk.kept hb BY.out)
    clear hb
    clear pBX0 pBX1 pBX2 pBX3
    have BZ := Lib.hid (Blk.new w16 #[.int .i64 y0, .int .i64 y1, .bool y2, .bool y3] 58)
    obtain ⟨gBZ, hg⟩ : ∃ g, w16.heap.size = g := ⟨_, rfl⟩
    obtain ⟨w17, hwa⟩ : ∃ wa, w16.alloc (.cells #[.int .i64 y0, .int .i64 y1, .bool y2, .bool y3] 58) = wa := ⟨_, rfl⟩
    have hba : Below w16.heap.size w16 w17 := by rw [← hwa]; exact below_more (Below.refl _ _) _
    rw [hwa, hg] at BZ
    have HWA := Lib.hid hwa
    have HG := Lib.hid hg
    clear hwa hg
    replace HW := Lib.hid (pass HW.out hba)
    replace BX := Lib.hid (Blk.kept hba BX.out)
    replace BY := Lib.hid (Blk.kept hba BY.out)
    clear hba
    go_upto_region 15 with fail
    rw [HWA.out, HG.out]
    clear HWA HG
    clear HD
    obtain ⟨s, hs⟩ : ∃ s, (t0 == 0) = s := ⟨_, rfl⟩
    have HS : Hid (b = true → s = true → y3 = false) := Lib.hid (fun h1 h2 => HYV.out h1 (by rw [← hs] at h2; simpa using h2))
    clear HYV HOK
    have hrr : (r != r) = false := by simp
    have hbb : (b != b) = false := by simp
    go_cut [143] from 119 to 142 (fun u143 wx => u143 = .bool false ∧ Hid (Below W.heap.size W wx))
    case first =>
      have pBX0 := BX.out.cell 0 _ rfl
      have pBX1 := BX.out.cell 1 _ rfl
      have pBX2 := BX.out.cell 2 _ rfl
      have pBX3 := BX.out.cell 3 _ rfl
      have pBY0 := BY.out.cell 0 _ rfl
      have pBY1 := BY.out.cell 1 _ rfl
      have pBY2 := BY.out.cell 2 _ rfl
      have pBY3 := BY.out.cell 3 _ rfl
      have pBZ0 := BZ.out.cell 0 _ rfl
      have pBZ1 := BZ.out.cell 1 _ rfl
      have pBZ2 := BZ.out.cell 2 _ rfl
      have pBZ3 := BZ.out.cell 3 _ rfl
      cases b with
      | false =>
        go_wp2_with fail
        go_meet
        exact ⟨rfl, HW⟩
      | true =>
        cases s with
        | false =>
          go_wp2_with fail
          go_meet
          exact ⟨rfl, HW⟩
        | true =>
          have hy3 := HS.out rfl rfl
          subst hy3
          go_wp2_with fail
          go_meet
          exact ⟨rfl, HW⟩
    case rest =>
      obtain ⟨rfl, hh⟩ := hcut
      replace HW := hh
      clear hh BX BY BZ HS hs hrr hbb
      go_wp2_with fail
      refine (drawDriveLines_any _ A n c zs HZ.out (HR.out _ HW.out) hn).mono ?_
      rintro e w18 ⟨gl, m, cl, gb, mb, cb, xs, hs, rfl, ⟨hm, hown, hb⟩, hmb, hob⟩
      replace HW := Lib.hid (pass HW.out hb)
      have RL := Lib.hid (own_reads hown)
      have RB := Lib.hid (own_reads hob)
      clear hown hob hb
      obtain ⟨ya, hy⟩ : ∃ ya, dlAns xs hs = ya := ⟨_, rfl⟩
      obtain ⟨l1, b1⟩ := ya
      have r1_len := dlAns_len hy
      obtain ⟨r1, hr1⟩ : ∃ r, l1.length = r := ⟨_, rfl⟩
      rw [hr1] at r1_len
      have r1_H := Lib.hid hr1
      have H1 := Lib.hid hy
      clear hr1 hy
      go_wp2_with fail
      refine (implDriveLines_any (some ⟨gl, 0, none⟩) m cl xs (some ⟨gb, 0, none⟩) mb cb hs _ RL.out (by simp) (by omega) RB.out (by omega) l1 b1 H1.out).mono ?_
      rintro e w19 ⟨A_RA, c_RA, rfl, hown, hb⟩
      rw [r1_H.out] at hown ⊢
      replace HW := Lib.hid (pass HW.out hb)
      replace RL := Lib.hid ((RL.out.below hb).more hb.size)
      replace RB := Lib.hid ((RB.out.below hb).more hb.size)
      have RA := Lib.hid (own_reads hown)
      clear hown hb
      go_wp2_with fail
      refine (specDriveLines_any (some ⟨gl, 0, none⟩) m cl xs (some ⟨gb, 0, none⟩) mb cb hs _ RL.out (by simp) (by omega) RB.out (by omega) l1 b1 H1.out).mono ?_
      rintro e w20 ⟨A_RC, c_RC, rfl, hown, hb⟩
      rw [r1_H.out] at hown ⊢
      replace HW := Lib.hid (pass HW.out hb)
      replace RL := Lib.hid ((RL.out.below hb).more hb.size)
      replace RB := Lib.hid ((RB.out.below hb).more hb.size)
      replace RA := Lib.hid ((RA.out.below hb).more hb.size)
      have RC := Lib.hid (own_reads hown)
      clear hown hb
      have hnb : (b1 != b1) = false := by simp
      go_wp2_with fail
      refine (rLines_same A_RA A_RC r1 c_RA c_RC l1 _ (by omega) RA.out RC.out).mono ?_
      rintro e w21 ⟨rfl, hb⟩
      replace HW := Lib.hid (pass HW.out hb)
      replace RL := Lib.hid ((RL.out.below hb).more hb.size)
      replace RB := Lib.hid ((RB.out.below hb).more hb.size)
      replace RA := Lib.hid ((RA.out.below hb).more hb.size)
      replace RC := Lib.hid ((RC.out.below hb).more hb.size)
      clear hb hnb H1 r1_H r1_len hm hmb
      clear RL RB RA RC
      go_wp2_with fail
      refine (drawPulseLine_any _ A n c zs HZ.out (HR.out _ HW.out) hn).mono ?_
      rintro e w22 ⟨gl, m, cl, xs, i, t, rfl, hm, hown, hb⟩
      replace HW := Lib.hid (pass HW.out hb)
      have RL := Lib.hid (own_reads hown)
      clear hown hb
      obtain ⟨ya, hy⟩ : ∃ ya, plAns xs i t = ya := ⟨_, rfl⟩
      obtain ⟨l1, z, b1⟩ := ya
      have r1_len := plAns_len hy
      obtain ⟨r1, hr1⟩ : ∃ r, l1.length = r := ⟨_, rfl⟩
      rw [hr1] at r1_len
      have r1_H := Lib.hid hr1
      have H1 := Lib.hid hy
      clear hr1 hy
      go_wp2_with fail
      refine (implPulse_any (some ⟨gl, 0, none⟩) m cl xs i t _ RL.out (by simp) (by omega) l1 z b1 H1.out).mono ?_
      rintro e w23 ⟨A_RA, c_RA, rfl, hown, hb⟩
      rw [r1_H.out] at hown ⊢
      replace HW := Lib.hid (pass HW.out hb)
      replace RL := Lib.hid ((RL.out.below hb).more hb.size)
      have RA := Lib.hid (own_reads hown)
      clear hown hb
      go_wp2_with fail
      refine (specPulse_any (some ⟨gl, 0, none⟩) m cl xs i t _ RL.out (by simp) (by omega) l1 z b1 H1.out).mono ?_
      rintro e w24 ⟨A_RC, c_RC, rfl, hown, hb⟩
      rw [r1_H.out] at hown ⊢
      replace HW := Lib.hid (pass HW.out hb)
      replace RL := Lib.hid ((RL.out.below hb).more hb.size)
      replace RA := Lib.hid ((RA.out.below hb).more hb.size)
      have RC := Lib.hid (own_reads hown)
      clear hown hb
      have hnb : (b1 != b1) = false := by simp
      have hnz : (z != z) = false := by simp
      go_wp2_with fail
      refine (rLines_same A_RA A_RC r1 c_RA c_RC l1 _ (by omega) RA.out RC.out).mono ?_
      rintro e w25 ⟨rfl, hb⟩
      replace HW := Lib.hid (pass HW.out hb)
      replace RL := Lib.hid ((RL.out.below hb).more hb.size)
      replace RA := Lib.hid ((RA.out.below hb).more hb.size)
      replace RC := Lib.hid ((RC.out.below hb).more hb.size)
      clear hb hnb hnz
      cases b1 with
      | false =>
        go_wp2_with fail
        go_ret
        exact ⟨rfl, HW.out⟩
      | true =>
        obtain ⟨_, hi, hz1⟩ := pl_known H1.out
        obtain ⟨j, rfl⟩ : ∃ j : Nat, i = j := ⟨i.toNat, by omega⟩
        have hml := reads_len RL.out
        have hjm : j < m := by omega
        obtain ⟨b9, o9, x, e9, _, hu, c0, c1, c2, c3⟩ := lin_at RL.out hjm
        simp only [Option.some.injEq, Addr.mk.injEq, and_true] at e9
        obtain ⟨rfl, rfl⟩ := e9
        simp only [Nat.zero_add] at c0 c1 c2 c3
        rw [show ((j : Int)).toNat = j by omega, getD_at hu] at hz1
        obtain ⟨x0, x1, x2, x3⟩ := x
        simp only at c0 c1 c2 c3
        have hjz : (j : Int) < m := by omega
        by_cases h0 : x0 = 0
        · subst h0
          have he := (edge_once (x := ⟨0, x1, x2, x3⟩) rfl t.toNat).2.1
          have hz2 : decide (z ≤ 1) = true := decide_eq_true (by omega)
          clear hz1 he hu hi hml H1 c1 c2 c3
          go_wp2_with fail
          go_ret
          exact ⟨by simp, HW.out⟩
        · have t0 : (x0 != 0) = true := by simpa using h0
          clear hz1 hu hi hml H1 h0 c1 c2 c3
          go_wp2_with fail
          go_ret
          exact ⟨rfl, HW.out⟩

set_option maxHeartbeats 4000000 in
set_option maxRecDepth 100000 in
/-- the law's Go text returns true, and nothing that was there has turned -/
theorem walk {H : Type} {enc : TypeId × Value → H} (W : World) (base : Nat) (v0 : Value) (d0 : DataW H) (p0 : List MemPlace) (q0 : Value.okWide Try.prog W .any base 22 v0) (h0 : DataW.Trod enc Try.prog W 0 (fun _ => true) true 22 v0 d0 p0) (l0 : ∀ x ∈ p0, x.block < W.heap.size) (hL : laidMetH Try.prog Rows.fnLinesRow.laid W) (hsh : W.ShapedOpen Try.prog) :
    Calls Try.prog 5 #[v0] W fun e W' => e = .returned (.bool true) ∧ Below W.heap.size W W' := by
  clear hsh
  obtain ⟨A, n, c, zs, rfl, hc, hcm, hl, hwf, hr⟩ := open_nums Try.underlying22 Try.underlying5 (by kernel_rfl) q0 h0
  exact walk0 W A n c zs (fun z hz => bounds_u8 (hwf z hz)) hr
theorem laid_met (os : Os) : laidMetH Try.prog Rows.fnLinesRow.laid ((World.holding Try.prog os ⟨#[], #[], []⟩).forCall (fun _ _ => 0) ⟨#[], #[(.slice none 0 0 : Value)], []⟩).memory := ⟨[], rfl, List.nodup_nil, fun _ _ h => by cases h⟩
theorem reads (os : Os) {H : Type} (enc : TypeId × Value → H) : (DataW.whole enc Try.prog ((World.holding Try.prog os ⟨#[], #[], []⟩).forCall (fun _ _ => 0) ⟨#[], #[(.slice none 0 0 : Value)], []⟩).memory Try.f5.params.toList Rows.fnLinesSpec.vars false #[(.slice none 0 0 : Value)].toList 8).isSome = true := by kernel_rfl
set_option maxRecDepth 100000 in
theorem lifted (os : Os) (started : os.Started) (H : Type) (enc : TypeId × Value → H) (F : Stop.Interp) :
    ReturnsInHanded {} Try.checked os 5 .any ((OpenSpec.ofChange Rows.fnLinesSpec).preRow enc Try.prog Try.f5 Rows.fnLinesRow.domain false Rows.fnLinesRow.laid) (((OpenSpec.ofChange Rows.fnLinesSpec).at F).post enc Try.prog Try.f5 false true false false) := by
  obtain ⟨x, hx⟩ := Option.isSome_iff_exists.1 (reads os enc)
  refine returnsInHanded_of_row (C := Try.checked) (s := OpenSpec.ofChange Rows.fnLinesSpec) own started (by kernel_rfl) Try.func5
    (witness_row_at (enc := enc) (C := Try.checked) false (World.holding Try.prog os ⟨#[], #[], []⟩) #[(.slice none 0 0 : Value)] rfl (by kernel_rfl) (by kernel_rfl) (by kernel_rfl)
      (OpenSpec.preRow_of_cond 8 hx (by rfl) (fun k hk => by cases hk) (by kernel_rfl) (laid_met os))) ?_
  intro W base args ds gs before hval0 hW _ hcond hsz hL hsh _
  have hval : ∀ (j : Nat) t v, Try.f5.params[j]? = some t → args[j]? = some v → Value.okWide Try.prog W .any base t v := hval0
  have hW' := hW
  obtain ⟨p, q, hA0, hV, rfl, hfz, hnd⟩ := hW
  have hA : DataW.TrodAll enc Try.prog W 0 (fun _ => true) true Try.f5.params.toList args.toList ds p := hA0
  rw [Try.params5] at hA hval
  obtain ⟨v0, vs0, d0, ds0, p0, q0, hargs, rfl, rfl, h0, r0⟩ := trodAll_cons hA
  obtain ⟨rfl, rfl, rfl⟩ := trodAll_nil r0
  obtain rfl : args = #[v0] := by cases args; simp_all
  obtain ⟨rfl, rfl⟩ := trodVars_none hV
  clear hA0 hval0
  simp only [List.append_nil] at hW'
  refine (walk (enc := enc) W base v0 d0 p0 (hval 0 22 v0 rfl rfl) h0 (fun x hx => hW'.lt x (by simp [hx])) hL hsh).mono fun e W' ⟨he, hb⟩ => ⟨_, he, Fr.post_true laidOut (by kernel_rfl) (by kernel_rfl) Try.underlying4 rfl hW' (fun xs hx => by match xs, hx with | [x0], _ => rfl) hb⟩
theorem said : Rows.FnLinesSaid :=
  OpenClaim.holds_of_cond 5 Try.f5 rfl rfl rfl rfl rfl rfl rfl ⟨rfl, rfl, rfl, rfl, rfl⟩ rfl rfl rfl rfl rfl (by kernel_rfl) Try.func5 (by kernel_rfl)
    (of_decide_eq_true (by kernel_rfl)) (by unfold Func.isWrapper; first | (rw [if_pos (by decide +kernel)]; kernel_rfl) | (rw [if_neg (by decide +kernel)]; exact ⟨rfl, rfl⟩))
    (fun os started H enc _ F => by rw [OpenClaim.pre_eq_preRow]; exact lifted os started H enc F)
#print axioms said
end Go.Proofs.Ytfdbnolifimnhaa.fnLines
