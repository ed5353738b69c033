/- What impl.AreSlots answers. -/
import Derived.Test.YtadpjkghfgnbbaaDoorSlI
import Derived.Lib.QuietBelow
import Derived.BigQuiet
namespace Go.Proofs.YtadpjkghfgnbbaaDoor.L8
open Go Go.RowKit Go.Proofs.YtadpjkghfgnbbaaDoor.Mem Go.Proofs.YtadpjkghfgnbbaaDoor.Own Go.Proofs.YtadpjkghfgnbbaaDoor.L6
theorem okB_no1 {xs : List Slt} {k : Nat} {x : Slt} (hx : xs[k]? = some x) (h : decide (Ok x) = false) : okB xs = false := by
  unfold okB
  rw [upB_le (by rw [atB_eq hx, h]; rfl) (List.getElem?_eq_some_iff.1 hx).1]
  simp
theorem okB_no2 {xs : List Slt} {k : Nat} {x : Slt} (hx : xs[k]? = some x) (h0 : x.st ≠ 0) (h : (xs.take k).any (has x.iq) = true) : okB xs = false := by
  unfold okB
  rw [upB_le (by rw [atB_eq hx, h]; simp [h0]) (List.getElem?_eq_some_iff.1 hx).1]
  simp
theorem fnd_ge (xs : List Slt) (q : Int) : decide (fnd xs q ≥ 0) = xs.any (has q) := by
  rcases ixOf_cases (has q) xs with ⟨h1, h2⟩ | ⟨j, y, h1, _, hy, hp, _⟩
  · rw [show fnd xs q = -1 from h1, h2]; rfl
  · rw [show fnd xs q = j from h1, List.any_eq_true.2 ⟨y, List.mem_of_getElem? hy, hp⟩]
    exact decide_eq_true (by omega)
set_option maxRecDepth 100000 in
set_option maxHeartbeats 4000000 in
theorem implAre_any (A : Option Addr) (n c B : Nat) (xs : List Slt) (w : World) (hr : Reads w B 3 A n (FL xs)) (hB : B ≤ w.heap.size) (hc : n ≤ c) (b : Bool) (h : okB xs = b) :
    Calls Tryd.prog 17 #[.slice A n c] w fun e w' => e = .returned (.bool b) ∧ Below w.heap.size w w' := by
  have HL : Hid (xs.length = n) := Lib.hid (reads_len hr)
  have HR := Lib.hid hr
  have HB := Lib.hid h
  clear h hr
  by_cases h4 : n = 4
  · subst h4
    go_enter Tryd.func17, Tryd.ntmps17
    go_wp2_with fail
    go_loopw [10] (fun i wr => ∃ (k : Nat), i = .int .i64 k ∧ k ≤ 4 ∧ Hid (upB xs k = true) ∧ Hid (Below w.heap.size w wr)) (fun i _ => 4 - (intOf i).toNat)
    case atStart => exact ⟨0, rfl, Nat.zero_le _, Lib.hid rfl, Lib.hid (Below.refl _ _)⟩
    case round =>
      obtain ⟨k, rfl, hk, HK, HW⟩ := hrel
      by_cases hlt : k < 4
      · obtain ⟨b1, o1, x, rfl, hbB, hu, c0, c1, c2⟩ := slt_at (HR.out.below (HW.out.mono hB)) hlt
        have HU := Lib.hid hu
        have HS : Hid (upB xs (k + 1) = (decide (Ok x) && (x.st == 0 || !(xs.take k).any (has x.iq)))) := Lib.hid (by rw [upB_succ, HK.out, atB_eq hu]; rfl)
        have hge := fnd_ge (xs.take k) x.iq
        obtain ⟨q, hq⟩ : ∃ q, decide (Ok x) = q := ⟨_, rfl⟩
        obtain ⟨d, hd⟩ : ∃ d, (xs.take k).any (has x.iq) = d := ⟨_, rfl⟩
        obtain ⟨f, hf⟩ : ∃ f, fnd (xs.take k) x.iq = f := ⟨_, rfl⟩
        rw [hd, hf] at hge
        rw [hq, hd] at HS
        have HQ := Lib.hid hq
        have HD := Lib.hid hd
        have HF := Lib.hid hf
        clear hu hq hd hf HK
        obtain ⟨x0, x1, x2⟩ := x
        simp only at c0 c1 c2 HS HQ HD HF
        obtain ⟨wx, hwx⟩ : ∃ wx, wr.alloc (.cells #[.int .i64 x0, .int .i64 x1, .int .i64 x2] 37) = wx := ⟨_, rfl⟩
        have HX : Hid (Blk wx wr.heap.size 37 #[.int .i64 x0, .int .i64 x1, .int .i64 x2]) := Lib.hid (by rw [← hwx]; exact Blk.new _ _ _)
        have HW2 : Hid (Below w.heap.size w wx) := Lib.hid (by rw [← hwx]; exact below_more HW.out _)
        have HWX := Lib.hid hwx
        have hkc : k ≤ c := by omega
        clear hwx
        go_upto_region 6 with fail
        rw [HWX.out]
        clear c0 c1 c2 HWX HW
        have k0 : ∀ d os, (Sort.grow (redrawn wx d) os).cell? ⟨wr.heap.size, 0, none⟩ = some (.int .i64 x0) := cell_regrown (HX.out.cell 0 _ rfl)
        have k1 : ∀ d os, (Sort.grow (redrawn wx d) os).cell? ⟨wr.heap.size, 1, none⟩ = some (.int .i64 x1) := cell_regrown (HX.out.cell 1 _ rfl)
        have k2 : ∀ d os, (Sort.grow (redrawn wx d) os).cell? ⟨wr.heap.size, 2, none⟩ = some (.int .i64 x2) := cell_regrown (HX.out.cell 2 _ rfl)
        have cI : ∀ d os, Calls Tryd.prog 30 #[.agg #[.int .i64 x0, .int .i64 x1, .int .i64 x2]] (Sort.grow (redrawn wx d) os) fun e w'' => e = .returned (.bool q) ∧ ∃ p : Regrown, w'' = Sort.grow (redrawn wx p.d) p.os := fun d os => Calls.regrown_of (isSlot_c x0 x1 x2 q HQ.out (Sort.grow (redrawn wx d) os))
        have cS : ∀ d os, Calls Tryd.prog 31 #[.slice (some ⟨b1, o1, none⟩) k c, .int .i64 x1] (Sort.grow (redrawn wx d) os) fun e w'' => e = .returned (.int .i64 f) ∧ ∃ p : Regrown, w'' = Sort.grow (redrawn wx p.d) p.os := fun d os => Calls.regrown_of (by
          have hb := below_regrown wx d os
          have hr2 := reads_takeS (HR.out.below (HW2.out.mono hB)) (Nat.le_of_lt hlt)
          have h := slotWith_any (some ⟨b1, o1, none⟩) k c x1 (xs.take k) (Sort.grow (redrawn wx d) os) ((hr2.below (hb.mono (Nat.le_trans hB HW2.out.size))).more (Nat.le_trans hB (Nat.le_trans HW2.out.size hb.size))) (by omega)
          rw [HF.out] at h
          exact h)
        cases q with
        | false =>
          have HZ : Hid (false = b) := Lib.hid (by rw [← HB.out]; exact (okB_no1 HU.out HQ.out).symm)
          clear HS HB
          refine wp_region_quiet_below (by kernel_rfl) (by kernel_rfl) ?_
          repeat (go_big_quiet_step (exact cI _ _))
          refine wpQuiet_nil ?_
          intro _ hw'
          obtain ⟨⟨dq, osq⟩, hw''⟩ := hw'
          subst hw''
          have hb2 := below_then HW2.out (below_regrown wx dq osq)
          clear k0 k1 k2 cI cS
          go_wp2_with fail
          go_ret
          exact ⟨by rw [← HZ.out]; rfl, hb2⟩
        | true =>
          by_cases h0 : x0 = 0
          · have HZ : Hid (upB xs (k + 1) = true) := Lib.hid (by rw [HS.out, h0]; rfl)
            subst h0
            clear HS HB
            refine wp_region_quiet_below (by kernel_rfl) (by kernel_rfl) ?_
            repeat (go_big_quiet_step (exact cI _ _))
            refine wpQuiet_nil ?_
            intro _ hw'
            obtain ⟨⟨dq, osq⟩, hw''⟩ := hw'
            subst hw''
            have hb2 := Lib.hid (below_then HW2.out (below_regrown wx dq osq))
            clear k0 k1 k2 cI cS
            go_wp2_with fail
            go_roundw
            case rel => exact ⟨k + 1, by go_num, by omega, HZ, hb2⟩
            case measure => simp [intOf]; omega
          · have t0 : (x0 != 0) = true := by simpa using h0
            have t1 : (x0 == 0) = false := by simpa using h0
            cases d with
            | false =>
              have HZ : Hid (upB xs (k + 1) = true) := Lib.hid (by rw [HS.out]; simp)
              clear HS HB h0
              refine wp_region_quiet_below (by kernel_rfl) (by kernel_rfl) ?_
              repeat (go_big_quiet_step (first | exact cI _ _ | exact cS _ _))
              refine wpQuiet_nil ?_
              intro _ hw'
              obtain ⟨⟨dq, osq⟩, hw''⟩ := hw'
              subst hw''
              have hb2 := Lib.hid (below_then HW2.out (below_regrown wx dq osq))
              clear k0 k1 k2 cI cS
              go_wp2_with fail
              go_roundw
              case rel => exact ⟨k + 1, by go_num, by omega, HZ, hb2⟩
              case measure => simp [intOf]; omega
            | true =>
              have HZ : Hid (false = b) := Lib.hid (by rw [← HB.out]; exact (okB_no2 HU.out h0 HD.out).symm)
              clear HS HB h0
              refine wp_region_quiet_below (by kernel_rfl) (by kernel_rfl) ?_
              repeat (go_big_quiet_step (first | exact cI _ _ | exact cS _ _))
              refine wpQuiet_nil ?_
              intro _ hw'
              obtain ⟨⟨dq, osq⟩, hw''⟩ := hw'
              subst hw''
              have hb2 := below_then HW2.out (below_regrown wx dq osq)
              clear k0 k1 k2 cI cS
              go_wp2_with fail
              go_ret
              exact ⟨by rw [← HZ.out]; rfl, hb2⟩
      · have hkn : k = 4 := by omega
        subst hkn
        have HZ : Hid (true = b) := Lib.hid (by rw [← HB.out, okB, HL.out, HK.out]; rfl)
        clear HK HB
        go_wp2_with fail
        go_ret
        exact ⟨by rw [← HZ.out]; rfl, HW.out⟩
  · have HZ : Hid (false = b) := Lib.hid (by rw [← HB.out, okB, HL.out, decide_eq_false h4]; rfl)
    have h9 : ((n : Int) != 4) = true := by simp; omega
    clear HB
    go_enter Tryd.func17, Tryd.ntmps17
    go_wp2_with fail
    go_ret
    exact ⟨by rw [← HZ.out]; rfl, Below.refl _ _⟩
end Go.Proofs.YtadpjkghfgnbbaaDoor.L8
