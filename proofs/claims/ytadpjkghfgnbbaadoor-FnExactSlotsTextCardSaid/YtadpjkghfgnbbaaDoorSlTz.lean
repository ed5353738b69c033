/- What spec.SlotsText and impl.SlotsText answer. -/
import Derived.Test.YtadpjkghfgnbbaaDoorSlTy
import Derived.Test.YtadpjkghfgnbbaaDoorSlS
import Derived.Test.YtadpjkghfgnbbaaDoorSlA
import Derived.Test.YtadpjkghfgnbbaaDoorJoinC
namespace Go.Proofs.YtadpjkghfgnbbaaDoor.L8
open Go Go.RowKit Go.Proofs.YtadpjkghfgnbbaaDoor.Mem Go.Proofs.YtadpjkghfgnbbaaDoor.Own Go.Proofs.YtadpjkghfgnbbaaDoor.L1
def stAns (xs : List Slt) : ByteArray × Bool := if okB xs = true then (txs xs, true) else (ByteArray.empty, false)
theorem stAns_no {xs : List Slt} (h : okB xs = false) : stAns xs = (ByteArray.empty, false) := by unfold stAns; rw [h]; rfl
theorem stAns_yes {xs : List Slt} (h : okB xs = true) : stAns xs = (txs xs, true) := by unfold stAns; rw [if_pos h]
theorem own_blk1 {w : World} {g base : Nat} {t : TypeId} {l : List Value} (h : Blk w g t l.toArray) (h4 : l.length = 4) (hb : base ≤ g) : w.ownsRow base t 1 (.slice (some ⟨g, 0, none⟩) 4 4) 4 l := by
  have ht : (l.toArray.toList).take (4 * 1) = l := by
    rw [List.toList_toArray]
    exact List.take_of_length_le (by rw [h4]; exact Nat.le_refl _)
  exact ⟨h4, .inr ⟨g, 4, l.toArray, rfl, hb, h, Nat.le_refl _, by unfold maxLen; omega, by simp [h4], ht⟩⟩
/-- four texts joined are short -/
theorem txs_size {xs : List Slt} (h : xs.length = 4) (ho : ∀ (j : Nat) (x : Slt), xs[j]? = some x → Ok x) : (txs xs).size ≤ 1048576 := by
  match xs, h with
  | [a, b, c, d], _ =>
    have ha := tx_size (ho 0 a rfl)
    have hb := tx_size (ho 1 b rfl)
    have hc := tx_size (ho 2 c rfl)
    have hd := tx_size (ho 3 d rfl)
    have h1 := jb_one ([a, b, c, d].map tx) spc (tx a) rfl
    have h2 := jb_succ ([a, b, c, d].map tx) spc (tx b) 1 (by omega) rfl
    have h3 := jb_succ ([a, b, c, d].map tx) spc (tx c) 2 (by omega) rfl
    have h4 := jb_succ ([a, b, c, d].map tx) spc (tx d) 3 (by omega) rfl
    have hs : spc.size = 1 := rfl
    have he : txs [a, b, c, d] = JB (([a, b, c, d].map tx).take 4) spc := rfl
    rw [he, show (4 : Nat) = 3 + 1 from rfl, h4, show (3 : Nat) = 2 + 1 from rfl, h3, show (2 : Nat) = 1 + 1 from rfl, h2, h1]
    simp only [ByteArray.size_append]
    omega
set_option maxRecDepth 100000 in
set_option maxHeartbeats 1600000 in
theorem specText_any (A : Option Addr) (n c : Nat) (xs : List Slt) (w : World) (hr : Reads w w.heap.size 3 A n (FL xs)) (hn : n ≤ 1048576) (s : ByteArray) (d : Bool) (h : stAns xs = (s, d)) :
    Calls Tryd.prog 6 #[.slice A n c] w fun e w' => e = .returned (.tuple #[.string s, .bool d]) ∧ Below w.heap.size w w' := by
  have HR := Lib.hid hr
  obtain ⟨b, hb⟩ : ∃ b, okB xs = b := ⟨_, rfl⟩
  have HG := Lib.hid hb
  have HI := Lib.hid (fun w hr => l8Good_any A n c _ xs w hr (Nat.le_refl _) hn b HG.out)
  clear hr hb
  cases b
  · rw [stAns_no HG.out] at h
    obtain ⟨e1, e2⟩ := Prod.mk.inj h; subst e1 e2
    clear h
    go_enter Tryd.func6, Tryd.ntmps6
    go_wp2_with fail
    refine (HI.out _ HR.out).mono ?_
    rintro e w1 ⟨rfl, hb1⟩
    have HB1 := Lib.hid hb1
    clear hb1
    go_wp2_with fail
    go_ret2
    exact ⟨rfl, HB1.out⟩
  rw [stAns_yes HG.out] at h
  obtain ⟨e1, e2⟩ := Prod.mk.inj h; subst e1 e2
  clear h
  have h4 : n = 4 := by have h1 : xs.length = n := reads_len HR.out; have h2 := okB_len HG.out; omega
  subst h4
  go_enter Tryd.func6, Tryd.ntmps6
  go_wp2_with fail
  refine (HI.out _ HR.out).mono ?_
  rintro e w1 ⟨rfl, hb1⟩
  have HB1 := Lib.hid hb1
  clear hb1
  go_wp2_with fail
  refine (l8Text_any A c xs _ ((HR.out.below HB1.out).more HB1.out.size) (fun j x h => okB_ok HG.out h)).mono ?_
  rintro e w2 ⟨rfl, hb2⟩
  have HB2 := Lib.hid (below_then HB1.out hb2)
  clear hb2
  go_wp2_with fail
  go_ret2
  exact ⟨rfl, HB2.out⟩
set_option maxRecDepth 100000 in
set_option maxHeartbeats 1600000 in
theorem implText_any (A : Option Addr) (n c : Nat) (xs : List Slt) (w : World) (hr : Reads w w.heap.size 3 A n (FL xs)) (hc : n ≤ c) (ht : TbIs w) (s : ByteArray) (d : Bool) (h : stAns xs = (s, d)) :
    Calls Tryd.prog 8 #[.slice A n c] w fun e w' => e = .returned (.tuple #[.string s, .bool d]) ∧ Below w.heap.size w w' := by
  have HR := Lib.hid hr
  have HT := Lib.hid ht
  obtain ⟨b, hb⟩ : ∃ b, okB xs = b := ⟨_, rfl⟩
  have HG := Lib.hid hb
  have HI := Lib.hid (fun w hr => implAre_any A n c _ xs w hr (Nat.le_refl _) hc b HG.out)
  clear hr hb ht
  cases b
  · rw [stAns_no HG.out] at h
    obtain ⟨e1, e2⟩ := Prod.mk.inj h; subst e1 e2
    clear h
    go_enter Tryd.func8, Tryd.ntmps8
    go_wp2_with fail
    refine (HI.out _ HR.out).mono ?_
    rintro e w1 ⟨rfl, hb1⟩
    have HB1 := Lib.hid hb1
    clear hb1
    go_wp2_with fail
    go_ret2
    exact ⟨rfl, HB1.out⟩
  rw [stAns_yes HG.out] at h
  obtain ⟨e1, e2⟩ := Prod.mk.inj h; subst e1 e2
  clear h
  have HL : Hid (xs.length = 4) := Lib.hid (okB_len HG.out)
  have h4 : n = 4 := by have h1 : xs.length = n := reads_len HR.out; have h2 := okB_len HG.out; omega
  subst h4
  go_enter Tryd.func8, Tryd.ntmps8
  go_wp2_with fail
  refine (HI.out _ HR.out).mono ?_
  rintro e w1 ⟨rfl, hb1⟩
  obtain ⟨wb, hwb⟩ : ∃ wb, w1.alloc (.cells #[.string { data := #[] }, .string { data := #[] }, .string { data := #[] }, .string { data := #[] }] 40) = wb := ⟨_, rfl⟩
  obtain ⟨g, hg⟩ : ∃ g, w1.heap.size = g := ⟨_, rfl⟩
  have HO0 : Hid (wb.ownsRow w.heap.size 40 1 (.slice (some ⟨g, 0, none⟩) 4 4) 4 ([ByteArray.empty, ByteArray.empty, ByteArray.empty, ByteArray.empty].map Value.string)) := Lib.hid (by rw [← hwb, ← hg]; exact own_blk1 (Blk.new _ _ _) rfl hb1.size)
  have HB0 : Hid (Below w.heap.size w wb) := Lib.hid (by rw [← hwb]; exact below_more hb1 _)
  have hgw : w.heap.size ≤ g := by rw [← hg]; exact hb1.size
  have HWB := Lib.hid hwb
  clear hb1 hwb
  go_upto_region 4 with fail
  rw [HWB.out]
  clear HWB hg
  go_wp2_with fail
  go_loopw [12] (fun i wr => ∃ (k : Nat) (ys : List ByteArray), i = .int .i64 k ∧ k ≤ 4 ∧ Hid (ys.length = 4) ∧ Hid (ys.take k = (xs.take k).map tx) ∧ Hid (wr.ownsRow w.heap.size 40 1 (.slice (some ⟨g, 0, none⟩) 4 4) 4 (ys.map Value.string)) ∧ Hid (Below w.heap.size w wr)) (fun i _ => 4 - (intOf i).toNat)
  case atStart => exact ⟨0, _, rfl, Nat.zero_le _, Lib.hid rfl, Lib.hid rfl, HO0, HB0⟩
  case round =>
    obtain ⟨k, ys, rfl, hk, HY, HYT, HO, HB⟩ := hrel
    by_cases hlt : k < 4
    · obtain ⟨b1, o1, x, rfl, _, hx, c0, c1, c2⟩ := slt_at ((HR.out.below HB.out).more HB.out.size) hlt
      have HX := Lib.hid hx
      have HOK := Lib.hid (okB_ok HG.out hx)
      have HT2 : Hid ((ys.set k (tx x)).take (k + 1) = (xs.take (k + 1)).map tx) := Lib.hid (by
        rw [List.take_add_one (l := xs), hx, List.map_append, ← HYT.out, List.take_add_one, List.take_set_of_le (Nat.le_refl _), List.getElem?_set_self (by rw [HY.out]; exact hlt)]
        rfl)
      have HY2 : Hid ((ys.set k (tx x)).length = 4) := Lib.hid (by rw [List.length_set]; exact HY.out)
      obtain ⟨T, hT⟩ : ∃ T, tx x = T := ⟨_, rfl⟩
      rw [hT] at HT2 HY2
      have HTX := Lib.hid hT
      clear hx hT
      obtain ⟨x0, x1, x2⟩ := x
      simp only at c0 c1 c2
      obtain ⟨wx, hwx⟩ : ∃ wx, wr.alloc (.cells #[.int .i64 x0, .int .i64 x1, .int .i64 x2] 37) = wx := ⟨_, rfl⟩
      have d0 : wx.cell? ⟨wr.heap.size, 0, none⟩ = some (.int .i64 x0) := by rw [← hwx]; exact (Blk.new _ _ _).cell 0 _ rfl
      have d1 : wx.cell? ⟨wr.heap.size, 1, none⟩ = some (.int .i64 x1) := by rw [← hwx]; exact (Blk.new _ _ _).cell 1 _ rfl
      have d2 : wx.cell? ⟨wr.heap.size, 2, none⟩ = some (.int .i64 x2) := by rw [← hwx]; exact (Blk.new _ _ _).cell 2 _ rfl
      have hbx : Below wr.heap.size wr wx := by rw [← hwx]; exact below_more (Below.refl _ _) _
      have HB2 := Lib.hid (below_then HB.out hbx)
      have HO2 := Lib.hid (own_below HO.out hbx)
      have HWX := Lib.hid hwx
      clear hwx hbx HB HO HYT
      go_upto_region 7 with fail
      rw [HWX.out]
      clear HWX c0 c1 c2
      go_wp2_with fail
      refine (slotText_c x0 x1 x2 HOK.out _ (tb_below HB2.out HT.out)).mono ?_
      rintro e w3 ⟨rfl, hb3⟩
      rw [HTX.out]
      have HB3 := Lib.hid (below_then HB2.out hb3)
      have HO3 := Lib.hid (own_below HO2.out hb3)
      have f0 := HO3.out.frozenAt k
      obtain ⟨y0, e0⟩ : ∃ z, w3.cell? ⟨g, k, none⟩ = some z := ⟨_, (HO3.out.cellAt k (by omega)).trans (List.getElem?_eq_getElem (by rw [List.length_map, HY.out]; exact hlt))⟩
      have HO4 : Hid ((w3.setCell ⟨g, k, none⟩ (.string T)).ownsRow w.heap.size 40 1 (.slice (some ⟨g, 0, none⟩) 4 4) 4 ((ys.set k T).map Value.string)) := Lib.hid (by rw [List.map_set]; exact (HO3.out.stored k (.string T)).1)
      have HB4 := Lib.hid (below_set HB3.out hgw (j := k) (.string T))
      have hkz : (k : Int) < 4 := by omega
      clear hb3 HB2 HO2 HB3 HO3 d0 d1 d2 HTX
      go_wp2_with fail
      go_roundw
      case rel => exact ⟨k + 1, _, by go_num, by omega, HY2, HT2, HO4, HB4⟩
      case measure => simp [intOf]; omega
    · have hkn : k = 4 := by omega
      subst hkn
      have hys : ys = xs.map tx := by
        have h := HYT.out
        rwa [List.take_of_length_le (by rw [HY.out]; exact Nat.le_refl _), List.take_of_length_le (by rw [HL.out]; exact Nat.le_refl _)] at h
      subst hys
      have hsz := txs_size HL.out (fun j x h => okB_ok HG.out h)
      have hj := joinCall (some ⟨g, 0, none⟩) 4 4 _ (xs.map tx) spc wr (Reads.of_own HO.out) (Nat.le_refl _) (Nat.le_refl _) (by omega) (by omega) hsz
      have HJ := Lib.hid hj
      clear hj hsz
      go_wp2_with fail
      refine HJ.out.mono ?_
      rintro e w5 ⟨rfl, hb5⟩
      have HB5 := Lib.hid (below_then HB.out hb5)
      clear hb5
      go_wp2_with fail
      go_ret2
      exact ⟨rfl, HB5.out⟩
end Go.Proofs.YtadpjkghfgnbbaaDoor.L8
