/- What impl.ActiveIrqs answers. -/
import Derived.Test.YtadpjkghfgnbbaaSlG
import Derived.Test.YtadpjkghfgnbbaaSlAc
import Derived.Test.YtadpjkghfgnbbaaLaySo
import Derived.Test.YtadpjkghfgnbbaaSrt
import Derived.Test.YtadpjkghfgnbbaaInf
import Derived.Laws.AppendOwnNone
namespace Go.Proofs.Ytadpjkghfgnbbaa.L8
open Go Go.RowKit Go.Proofs.Ytadpjkghfgnbbaa.Mem Go.Proofs.Ytadpjkghfgnbbaa.Own Go.Proofs.Ytadpjkghfgnbbaa.L6 Go.Sort Go.Lib
theorem holdsI {w : World} {base g n cc : Nat} {zs : List Int} (h : w.ownsRow base 3 1 (.slice (some ⟨g, 0, none⟩) n cc) n (I zs)) : Holds (Value.int .i64) w g 0 zs.toArray := holds_of_own (enc := Value.int .i64) h
theorem sortI_some (g n cc base : Nat) (zs : List Int) (w : World) (hown : w.ownsRow base 3 1 (.slice (some ⟨g, 0, none⟩) n cc) n (I zs)) (hn : n ≤ 1048576) :
    Calls Try.prog 62 #[.slice (some ⟨g, 0, none⟩) n cc] w fun e w' => e = .returned (.tuple #[]) ∧ w'.ownsRow base 3 1 (.slice (some ⟨g, 0, none⟩) n cc) n (I (zs.mergeSort leZ)) ∧ w.grownBy w' (some g) := by
  have hlen : zs.length = n := by have := hown.1; rw [I_len] at this; omega
  have hH := holdsI hown
  have hg := hown.lt g rfl
  have hcon := Go.Proofs.AnyG.slices_Sort_int (P := Try.prog) (ρ := soLays_ren) soLays g 0 cc zs w hH hg.2 (by omega)
  rw [hlen] at hcon
  refine hcon.mono ?_
  rintro e w' ⟨rfl, q, os, rfl⟩
  have h1 := own_sorted (enc := Value.int .i64) hown zs.toArray hH (by simpa using hlen) (zs.mergeSort fun x y => decide (x ≤ y)) (by rw [List.length_mergeSort, hlen]) q os
  exact ⟨rfl, h1⟩
theorem sortI_none (p : Option Addr) (cap : Nat) (w : World) : Calls Try.prog 62 #[.slice p 0 cap] w fun e w' => e = .returned (.tuple #[]) ∧ w' = w :=
  Go.Proofs.AnyG.slices_Sort_int_none (P := Try.prog) (ρ := soLays_ren) soLays p cap w
set_option maxRecDepth 100000 in
set_option maxHeartbeats 1600000 in
theorem implActive_any (A : Option Addr) (n c : Nat) (xs : List Slt) (w : World) (hr : Reads w w.heap.size 3 A n (FL xs)) (hc : n ≤ c) :
    Calls Try.prog 26 #[.slice A n c] w (AcPost w (acAns xs)) := by
  obtain ⟨i0, hi, hz0, hz1, hz2⟩ := info_parts intInfo
  have HR := Lib.hid hr
  obtain ⟨b, hb⟩ : ∃ b, okB xs = b := ⟨_, rfl⟩
  have HG := Lib.hid hb
  have HI := Lib.hid (fun w hr => implAre_any A n c _ xs w hr (Nat.le_refl _) hc b HG.out)
  clear hr hb
  cases b
  · have HZ : Hid (acAns xs = ([], false)) := Lib.hid (by unfold acAns; rw [if_neg (by rw [HG.out]; simp)])
    rw [HZ.out]
    clear HZ
    go_enter Try.func26, Try.ntmps26
    go_wp2_with fail
    refine (HI.out _ HR.out).mono ?_
    rintro e w1 ⟨rfl, hb1⟩
    have HB1 := Lib.hid hb1
    clear hb1
    go_wp2_with fail
    go_ret2
    exact acPost_no HB1.out
  have HZ : Hid (acAns xs = (act xs 4, true)) := Lib.hid (by unfold acAns; rw [if_pos HG.out])
  rw [HZ.out]
  clear HZ
  have hl : xs.length = 4 := okB_len HG.out
  have h4 : n = 4 := by have h1 : xs.length = n := reads_len HR.out; omega
  subst h4
  clear hl
  go_enter Try.func26, Try.ntmps26
  go_wp2_with fail
  refine (HI.out _ HR.out).mono ?_
  rintro e w1 ⟨rfl, hb1⟩
  have HB1 := Lib.hid hb1
  clear hb1
  go_wp2_with fail
  go_loopw [4, 12] (fun u4 i wr => ∃ (k : Nat), i = .int .i64 k ∧ k ≤ 4 ∧ Hid (wr.ownsRow w.heap.size 3 1 u4 (acs xs k).length (I (acs xs k))) ∧ Hid (Below w.heap.size w wr)) (fun _ i _ => 4 - (intOf i).toNat)
  case atStart => exact ⟨0, rfl, Nat.zero_le _, Lib.hid (World.ownsRow_nil _ _ _ _), HB1⟩
  case round =>
    obtain ⟨k, rfl, hk, HO, HB⟩ := hrel
    by_cases hlt : k < 4
    · obtain ⟨b1, o1, x, rfl, hbB, hu, c0, c1, c2⟩ := slt_at ((HR.out.below HB.out).more HB.out.size) hlt
      have HCS := Lib.hid (acs_succ hu)
      have HST := Lib.hid (st_of (okB_ok HG.out hu))
      clear hu
      obtain ⟨q, hq⟩ : ∃ q, isAc x = q := ⟨_, rfl⟩
      rw [hq] at HCS
      have HQ := Lib.hid hq
      clear hq
      obtain ⟨x0, x1, x2⟩ := x
      simp only at c0 c1 c2 HCS HST
      obtain ⟨wx, hwx⟩ : ∃ wx, wr.alloc (.cells #[.int .i64 x0, .int .i64 x1, .int .i64 x2] 33) = wx := ⟨_, rfl⟩
      have hbx : Below wr.heap.size wr wx := by rw [← hwx]; exact below_more (Below.refl _ _) _
      have HXB : Hid (Blk wx wr.heap.size 33 #[.int .i64 x0, .int .i64 x1, .int .i64 x2]) := Lib.hid (by rw [← hwx]; exact Blk.new _ _ _)
      have d0 : wx.cell? ⟨wr.heap.size, 0, none⟩ = some (.int .i64 x0) := HXB.out.cell 0 _ rfl
      have d1 : wx.cell? ⟨wr.heap.size, 1, none⟩ = some (.int .i64 x1) := HXB.out.cell 1 _ rfl
      have d2 : wx.cell? ⟨wr.heap.size, 2, none⟩ = some (.int .i64 x2) := HXB.out.cell 2 _ rfl
      have HB3 := Lib.hid (below_then HB.out hbx)
      have HO3 := Lib.hid (own_below HO.out hbx)
      have HWX := Lib.hid hwx
      have hlen := acs_len xs k
      obtain ⟨m, hm⟩ : ∃ m, (acs xs k).length = m := ⟨_, rfl⟩
      rw [hm] at hlen HO3
      have HM := Lib.hid hm
      clear hwx hbx HO HB hm
      go_upto_region 7 with fail
      rw [HWX.out]
      clear HWX c0 c1 c2
      go_wp2_with fail
      refine (isActive_c x0 x1 x2 HST.out q HQ.out _).mono ?_
      rintro e w3 ⟨rfl, hb3⟩
      have e1 : w3.cell? ⟨wr.heap.size, 1, none⟩ = some (.int .i64 x1) := (Blk.kept hb3 HXB.out).cell 1 _ rfl
      have HB4 := Lib.hid (below_then HB3.out hb3)
      have HO4 := Lib.hid (own_below HO3.out hb3)
      clear hb3 HB3 HO3 d0 d1 d2 HXB
      cases q with
      | true =>
        have HN : Hid (acs xs (k + 1) = acs xs k ++ [x1]) := Lib.hid (by rw [HCS.out]; rfl)
        have hown := HO4.out
        have hbel := HB4.out
        have hsz := hbel.size
        clear HCS
        go_wp2_with (at_builtin; refine wpList_append_own _ rfl _ _ 39 rfl w.heap.size 3 i0 (.int .i64 0) 1 8 Try.underlying39 hi hz0 hz1 hz2 rfl (by decide) _ _ _ rfl (hown.alloc _) ⟨w3.heap.size, 0, none⟩ 1 1 [.int .i64 x1] rfl rfl (cell_one_new _ _ _) (fun x hx => by simp at hx; subst hx; rfl) (by unfold maxLen; omega) (by omega) (by simp; omega) ?_; intro v' w4 hown1 hgrow1 _)
        have HB5 := Lib.hid ((hbel.alloc hsz (.cells #[.int .i64 x1] 3)).grown hgrow1 (by simp; omega) (fun q hq => (hown.lt q hq).1))
        have HO5 : Hid (w4.ownsRow w.heap.size 3 1 v' (acs xs (k + 1)).length (I (acs xs (k + 1)))) := Lib.hid (by rw [HN.out, List.length_append, HM.out, ← snocI]; exact hown1)
        clear hown hbel hsz hown1 hgrow1 e1
        go_roundw
        case rel => exact ⟨k + 1, by go_num, by omega, HO5, HB5⟩
        case measure => simp [intOf]; omega
      | false =>
        have HO5 : Hid (w3.ownsRow w.heap.size 3 1 u4 (acs xs (k + 1)).length (I (acs xs (k + 1)))) := Lib.hid (by rw [HCS.out]; simpa [HM.out] using HO4.out)
        clear HCS
        go_wp2_with fail
        go_roundw
        case rel => exact ⟨k + 1, by go_num, by omega, HO5, HB4⟩
        case measure => simp [intOf]; omega
    · have hkn : k = 4 := by omega
      subst hkn
      have hown := HO.out
      have hml := acs_len xs 4
      obtain ⟨m, hm⟩ : ∃ m, (acs xs 4).length = m := ⟨_, rfl⟩
      rw [hm] at hown hml
      obtain ⟨A', c', rfl, _, _⟩ := own_form hown
      have HO' := Lib.hid hown
      have HAL : Hid ((act xs 4).length = m) := Lib.hid (by rw [act_len, hm])
      have HM := Lib.hid hm
      clear HO hown hm
      by_cases h0 : m = 0
      · subst h0
        have HNIL : Hid (act xs 4 = []) := Lib.hid (List.length_eq_zero_iff.1 HAL.out)
        go_wp2_with (go_at_call 62; (with_reducible refine (sortI_none A' c' _).mono ?_); rintro e w5 ⟨rfl, rfl⟩)
        go_ret2
        rw [HNIL.out]
        exact acPost_of rfl (by have h := HO'.out; rw [show acs xs 4 = [] from List.length_eq_zero_iff.1 HM.out] at h; exact h) HB.out
      · obtain ⟨g, rfl⟩ := own_head HO'.out (by omega)
        go_wp2_with (go_at_call 62; (with_reducible refine (sortI_some g m c' w.heap.size (acs xs 4) _ HO'.out (by omega)).mono ?_); rintro e w5 ⟨rfl, hown5, hgrow5⟩)
        have HO5 := Lib.hid hown5
        have HB5 := Lib.hid (HB.out.grown hgrow5 HB.out.size (fun q hq => by injection hq with hq; subst hq; exact (HO'.out.lt g rfl).1))
        clear hown5 hgrow5
        go_wp2_with fail
        go_ret2
        exact acPost_of HAL.out HO5.out HB5.out
end Go.Proofs.Ytadpjkghfgnbbaa.L8
