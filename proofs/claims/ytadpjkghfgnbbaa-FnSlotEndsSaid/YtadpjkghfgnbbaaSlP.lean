/- What impl.pendingSlots answers. -/
import Derived.Test.YtadpjkghfgnbbaaSlD
import Derived.Deep.Cut
import Derived.Laws.AppendOwnNone
namespace Go.Proofs.Ytadpjkghfgnbbaa.L8
open Go Go.RowKit Go.Proofs.Ytadpjkghfgnbbaa.Mem Go.Proofs.Ytadpjkghfgnbbaa.Own Go.Proofs.Ytadpjkghfgnbbaa.L6
/-- places of the call's own -/
def PnPost (w : World) (l : List Nat) (e : Ending) (w' : World) : Prop :=
  ∃ A' c', e = .returned (.slice A' l.length c') ∧ w'.ownsRow w.heap.size 3 1 (.slice A' l.length c') l.length (I (ints l)) ∧ Below w.heap.size w w'
theorem pnPost_of {w w' : World} {l : List Nat} {A : Option Addr} {n cc : Nat} (hl : l.length = n) (ho : w'.ownsRow w.heap.size 3 1 (.slice A n cc) n (I (ints l))) (hb : Below w.heap.size w w') : PnPost w l (.returned (.slice A n cc)) w' := by
  subst hl
  exact ⟨_, cc, rfl, ho, hb⟩
set_option maxRecDepth 100000 in
set_option maxHeartbeats 4000000 in
theorem pendingSlots_any (A : Option Addr) (c : Nat) (xs : List Slt) (w : World) (hr : Reads w w.heap.size 3 A 4 (FL xs)) (ho : okB xs = true) :
    Calls Try.prog 56 #[.slice A 4 c] w (PnPost w (pnd xs)) := by
  obtain ⟨i0, hi, hz0, hz1, hz2⟩ := info_parts intInfo
  obtain ⟨wb, hwb⟩ : ∃ wb, w.alloc (.cells #[.slice A 4 c] 24) = wb := ⟨_, rfl⟩
  have hb0 : Below w.heap.size w wb := by rw [← hwb]; exact below_more (Below.refl _ _) _
  have hx : Blk wb w.heap.size 24 #[.slice A 4 c] := by rw [← hwb]; exact Blk.new _ _ _
  have hsz : wb.heap.size = w.heap.size + 1 := by rw [← hwb, size1]
  have HR := Lib.hid ((hr.below hb0).more (Nat.le_of_lt (by rw [hsz]; exact Nat.lt_succ_self _) : w.heap.size ≤ wb.heap.size))
  have HX := Lib.hid hx
  have HB0 := Lib.hid hb0
  have HWB := Lib.hid hwb
  have HSZ := Lib.hid hsz
  have HO0 := Lib.hid ho
  have k0 := hx.cell 0 _ rfl
  clear hr ho hx hb0 hwb hsz
  go_enter Try.func56, Try.ntmps56
  go_upto_region 1 with fail
  rw [HWB.out]
  clear HWB
  go_wp2_with fail
  go_loopw [3, 8] (fun u3 i wr => ∃ (k : Nat), i = .int .i64 k ∧ k ≤ 4 ∧ Hid (wr.ownsRow wb.heap.size 3 1 u3 (pend xs k).length (I (ints (pend xs k)))) ∧ Hid (Below wb.heap.size wb wr)) (fun _ i _ => 4 - (intOf i).toNat)
  case atStart => exact ⟨0, rfl, Nat.zero_le _, Lib.hid (World.ownsRow_nil _ _ _ _), Lib.hid (Below.refl _ _)⟩
  case round =>
    clear k0
    obtain ⟨k, rfl, hk, HO, HB⟩ := hrel
    by_cases hlt : k < 4
    · obtain ⟨b1, o1, x, rfl, hbB, hu, c0, c1, c2⟩ := slt_at (HR.out.below HB.out) hlt
      have HCS : Hid (pend xs (k + 1) = pend xs k ++ (if x.st = 1 then [k] else [])) := Lib.hid (by rw [pend_succ, getD_atS hu])
      clear hu
      obtain ⟨x0, x1, x2⟩ := x
      simp only at c0 c1 c2 HCS
      obtain ⟨wx, hwx⟩ : ∃ wx, wr.alloc (.cells #[.int .i64 x0, .int .i64 x1, .int .i64 x2] 33) = wx := ⟨_, rfl⟩
      have hbx : Below wr.heap.size wr wx := by rw [← hwx]; exact below_more (Below.refl _ _) _
      have d0 : wx.cell? ⟨wr.heap.size, 0, none⟩ = some (.int .i64 x0) := by rw [← hwx]; exact (Blk.new _ _ _).cell 0 _ rfl
      have HB3 := Lib.hid (below_then HB.out hbx)
      have HO3 := Lib.hid (own_below HO.out hbx)
      have HWX := Lib.hid hwx
      have hlen := pend_len xs k
      obtain ⟨m, hm⟩ : ∃ m, (pend xs k).length = m := ⟨_, rfl⟩
      rw [hm] at hlen HO3
      have HM := Lib.hid hm
      clear hwx hbx HO HB hm
      go_upto_region 5 with fail
      rw [HWX.out]
      clear HWX c0 c1 c2
      by_cases h1 : x0 = 1
      · have HN : Hid (pend xs (k + 1) = pend xs k ++ [k]) := Lib.hid (by rw [HCS.out, if_pos h1])
        subst h1
        have hown := HO3.out
        have hbel := HB3.out
        have hsz := hbel.size
        clear HCS
        go_wp2_with (at_builtin; refine wpList_append_own _ rfl _ _ 39 rfl wb.heap.size 3 i0 (.int .i64 0) 1 8 Try.underlying39 hi hz0 hz1 hz2 rfl (by decide) _ _ _ rfl (hown.alloc _) ⟨wx.heap.size, 0, none⟩ 1 1 [.int .i64 k] rfl rfl (cell_one_new _ _ _) (fun x hx => by simp at hx; subst hx; rfl) (by unfold maxLen; omega) (by omega) (by simp; omega) ?_; intro v' w4 hown1 hgrow1 _)
        have HB4 := Lib.hid ((hbel.alloc hsz (.cells #[.int .i64 (k : Int)] 3)).grown hgrow1 (by simp; omega) (fun q hq => (hown.lt q hq).1))
        have HO4 : Hid (w4.ownsRow wb.heap.size 3 1 v' (pend xs (k + 1)).length (I (ints (pend xs (k + 1))))) := Lib.hid (by rw [HN.out, List.length_append, HM.out]; simpa [I, ints] using hown1)
        clear hown hbel hsz hown1 hgrow1 d0
        go_roundw
        case rel => exact ⟨k + 1, by go_num, by omega, HO4, HB4⟩
        case measure => simp [intOf]; omega
      · have t1 : (x0 == 1) = false := by simpa using h1
        have HO4 : Hid (wx.ownsRow wb.heap.size 3 1 u3 (pend xs (k + 1)).length (I (ints (pend xs (k + 1))))) := Lib.hid (by rw [HCS.out, if_neg h1]; simpa [HM.out] using HO3.out)
        clear HCS h1
        go_wp2_with fail
        go_roundw
        case rel => exact ⟨k + 1, by go_num, by omega, HO4, HB3⟩
        case measure => simp [intOf]; omega
    · have hkn : k = 4 := by omega
      subst hkn
      have k2 := (Blk.kept HB.out HX.out).cell 0 _ rfl
      have hown := HO.out
      obtain ⟨m, hm⟩ : ∃ m, (pend xs 4).length = m := ⟨_, rfl⟩
      rw [hm] at hown
      obtain ⟨A', c', rfl, _, _⟩ := own_form hown
      have HO' := Lib.hid hown
      have hrl : (pnd xs).length = m := by rw [pnd_len_eq, hm]
      have HRL := Lib.hid hrl
      have HM := Lib.hid hm
      clear HO hown hrl hm
      by_cases h0 : m = 0
      · subst h0
        have hnil : pnd xs = [] := List.length_eq_zero_iff.1 HRL.out
        have HNIL := Lib.hid hnil
        clear hnil
        go_wp2_with (go_at_call 76; (with_reducible refine (sortS_none A' c' _ _).mono ?_); rintro e w5 ⟨rfl, rfl⟩)
        go_ret
        rw [HNIL.out]
        exact ⟨A', c', rfl, by have h := HO'.out; rw [show pend xs 4 = [] from List.length_eq_zero_iff.1 HM.out] at h; exact own_mono h HB0.out.size, below_then HB0.out HB.out⟩
      · obtain ⟨g, rfl⟩ := own_head HO'.out (by omega)
        have hgs := HSZ.out
        go_wp2_with (go_at_call 76; (with_reducible refine (sortS_some g w.heap.size A c m c' wb.heap.size xs HO0.out _ k2 (by omega) (HR.out.below HB.out) (by omega) HO'.out).mono ?_); rintro e w5 ⟨rfl, hown5, hgrow5⟩)
        have HO5 := Lib.hid (own_mono hown5 HB0.out.size)
        have HB5 := Lib.hid (below_then HB0.out (HB.out.grown hgrow5 HB.out.size (fun q hq => by injection hq with hq; subst hq; exact (HO'.out.lt g rfl).1)))
        clear hown5 hgrow5 k2
        go_wp2_with fail
        go_ret
        exact pnPost_of HRL.out HO5.out HB5.out
end Go.Proofs.Ytadpjkghfgnbbaa.L8
