/- What the draws of a device's trap and of words answer. -/
import Derived.Test.YtaamjnpknmimmaaDrTrp
import Derived.Test.YtaamjnpknmimmaaInf
import Derived.Deep.LoopGhost
namespace Go.Proofs.Ytaamjnpknmimmaa.Draw
open Go Go.RowKit Go.Proofs.Ytaamjnpknmimmaa.Mem Go.Proofs.Ytaamjnpknmimmaa.Own
set_option linter.unusedVariables false
def AnyTrap2 (w : World) (g B : Nat) (A : Option Addr) (n cp : Nat) (zs : List Int) (t : Nat) (e : Ending) (w' : World) : Prop :=
  ∃ (c wd : Int) (s : Bool) (r i : Int), e = .returned (.agg #[.int .i64 c, .int .i64 wd, .bool s, .int .i64 r, .int .i64 i]) ∧ (∃ t', t' ≤ t + 40 ∧ Cur w' g B A n cp zs t') ∧ w.grownBy w' (some g)
set_option maxRecDepth 100000 in
set_option maxHeartbeats 1500000 in
theorem devTrap_any (w : World) (g B : Nat) (A : Option Addr) (n cp : Nat) (zs : List Int) (t : Nat) (hz : ∀ z ∈ zs, 0 ≤ z ∧ z ≤ 255) (hc : Cur w g B A n cp zs t) (ht : t ≤ 700000) (hn : n ≤ 1000000) :
    Calls Try.prog 60 #[.pointer (some ⟨g, 0, none⟩)] w (AnyTrap2 w g B A n cp zs t) := by
  have HZ := Lib.hid hz
  have hgl := hc.lt
  have HC := Lib.hid (hc.alloc (.cells #[.int .i64 0, .int .i64 0, .bool false, .int .i64 0, .int .i64 0] 25))
  clear hz hc
  go_enter Try.func60, Try.ntmps60
  go_wp2_with fail
  refine (trap_any _ g B A n cp zs t HZ.out HC.out (by omega) hn).mono ?_
  rintro e w1 ⟨c, wd, s, r, i, rfl, ⟨t1, ht1, hc1⟩, hg1⟩
  have H := Lib.hid (DSt.start hc1 hg1 hgl #[.int .i64 c, .int .i64 wd, .bool s, .int .i64 r, .int .i64 i])
  obtain ⟨T, hT⟩ : ∃ T, w1.heap.size = T := ⟨_, rfl⟩
  obtain ⟨wa, hwa⟩ : ∃ wa, w1.alloc (.cells #[.int .i64 c, .int .i64 wd, .bool s, .int .i64 r, .int .i64 i] 25) = wa := ⟨_, rfl⟩
  rw [hwa, hT] at H
  have HW := Lib.hid hwa
  have HT := Lib.hid hT
  clear HC hc1 hg1 hwa hT
  go_upto_region 2 with fail
  rw [HW.out, HT.out]
  clear HW HT
  go_cut [13] from 14 (fun p wx => ∃ (q : Bool) (t' : Nat), p = .bool q ∧ t' ≤ t + 32 ∧ Hid (DSt w wx g B A n cp zs t' 25 w.heap.size T #[.int .i64 0, .int .i64 0, .bool false, .int .i64 0, .int .i64 0] #[.int .i64 c, .int .i64 wd, .bool s, .int .i64 r, .int .i64 i]))
  case first =>
    have k0 := H.out.loc.cell 0 _ rfl
    by_cases h3 : c = 3
    · subst h3
      go_wp2_with fail
      go_meet
      exact ⟨_, t1, rfl, by omega, H⟩
    · have e1 : (c == 3) = false := by simpa using h3
      go_wp2_with fail
      refine (one_any _ g B A n cp zs _ HZ.out H.out.cur (by omega) hn 4 (by omega) (by omega)).mono ?_
      rintro e v1 ⟨y1, rfl, ⟨u1, hu1, hc⟩, hg⟩
      replace H := Lib.hid (H.out.draw hg hc)
      clear hc hg
      go_wp2_with fail
      go_meet
      exact ⟨_, u1, rfl, by omega, H⟩
  case rest =>
    clear H
    obtain ⟨q, t2, rfl, ht2, H⟩ := hcut
    cases q
    · skip
      have k0 := H.out.loc.cell 0 _ rfl
      have k1 := H.out.loc.cell 1 _ rfl
      have k2 := H.out.loc.cell 2 _ rfl
      have k3 := H.out.loc.cell 3 _ rfl
      have k4 := H.out.loc.cell 4 _ rfl
      have q0 := H.out.res.cell 0 _ rfl
      have f0 := H.out.res.free 0
      have q1 := H.out.res.cell 1 _ rfl
      have f1 := H.out.res.free 1
      have q2 := H.out.res.cell 2 _ rfl
      have f2 := H.out.res.free 2
      have q3 := H.out.res.cell 3 _ rfl
      have f3 := H.out.res.free 3
      have q4 := H.out.res.cell 4 _ rfl
      have f4 := H.out.res.free 4
      replace H := Lib.hid (((((H.out.put 0 (.int .i64 c)).put 1 (.int .i64 wd)).put 2 (.bool s)).put 3 (.int .i64 r)).put 4 (.int .i64 i))
      go_wp2_with fail
      clear q0 f0 q1 f1 q2 f2 q3 f3 q4 f4
      revert H
      generalize (World.setCell (World.setCell (World.setCell (World.setCell (World.setCell _ _ _) _ _) _ _) _ _) _ _) = wz
      intro H
      have z0 := H.out.res.cell 0 _ rfl
      have z1 := H.out.res.cell 1 _ rfl
      have z2 := H.out.res.cell 2 _ rfl
      have z3 := H.out.res.cell 3 _ rfl
      have z4 := H.out.res.cell 4 _ rfl
      exact bodyPost_ret (v := .agg #[.int .i64 c, .int .i64 wd, .bool s, .int .i64 r, .int .i64 i]) (by simp [results, Try.results60, go_sem, z0, z1, z2, z3, z4]) rfl ⟨c, wd, s, r, i, rfl, ⟨_, by omega, H.out.cur⟩, H.out.gr⟩
    · go_wp2_with fail
      refine (among_list _ g B A n cp zs _ HZ.out H.out.cur (by omega) hn [1, 2, 4] _ rfl 3 3 rfl (by omega) (by omega)).mono ?_
      rintro e v1 ⟨y1, rfl, _, ⟨u1, hu1, hc⟩, hg⟩
      replace H := Lib.hid (H.out.draw hg hc)
      clear hc hg
      go_wp2_with fail
      refine (pick_any _ g B A n cp zs _ HZ.out H.out.cur (by omega) hn 4 (by omega) (by omega)).mono ?_
      rintro e v2 ⟨y2, rfl, hy0, hy1, ⟨u2, hu2, hc⟩, hg⟩
      replace H := Lib.hid (H.out.draw hg hc)
      clear hc hg
      go_wp2_with fail
      refine (one_any _ g B A n cp zs _ HZ.out H.out.cur (by omega) hn 2 (by omega) (by omega)).mono ?_
      rintro e v3 ⟨y3, rfl, ⟨u3, hu3, hc⟩, hg⟩
      replace H := Lib.hid (H.out.draw hg hc)
      clear hc hg
      have q0 := H.out.res.cell 0 _ rfl
      have f0 := H.out.res.free 0
      have q1 := H.out.res.cell 1 _ rfl
      have f1 := H.out.res.free 1
      have q2 := H.out.res.cell 2 _ rfl
      have f2 := H.out.res.free 2
      have q3 := H.out.res.cell 3 _ rfl
      have f3 := H.out.res.free 3
      have q4 := H.out.res.cell 4 _ rfl
      have f4 := H.out.res.free 4
      replace H := Lib.hid (((((H.out.put 0 (.int .i64 3)).put 1 (.int .i64 y1)).put 2 (.bool y3)).put 3 (.int .i64 y2)).put 4 (.int .i64 8))
      go_wp2_with fail
      clear q0 f0 q1 f1 q2 f2 q3 f3 q4 f4
      revert H
      generalize (World.setCell (World.setCell (World.setCell (World.setCell (World.setCell _ _ _) _ _) _ _) _ _) _ _) = wz
      intro H
      have z0 := H.out.res.cell 0 _ rfl
      have z1 := H.out.res.cell 1 _ rfl
      have z2 := H.out.res.cell 2 _ rfl
      have z3 := H.out.res.cell 3 _ rfl
      have z4 := H.out.res.cell 4 _ rfl
      exact bodyPost_ret (v := .agg #[.int .i64 3, .int .i64 y1, .bool y3, .int .i64 y2, .int .i64 8]) (by simp [results, Try.results60, go_sem, z0, z1, z2, z3, z4]) rfl ⟨3, y1, y3, y2, 8, rfl, ⟨_, by omega, H.out.cur⟩, H.out.gr⟩
set_option maxRecDepth 100000 in
set_option maxHeartbeats 1500000 in
theorem words5_any (w : World) (g B : Nat) (A : Option Addr) (n cp : Nat) (zs : List Int) (t : Nat) (hz : ∀ z ∈ zs, 0 ≤ z ∧ z ≤ 255) (hc : Cur w g B A n cp zs t) (ht : t ≤ 700000) (hn : n ≤ 1000000) :
    Calls Try.prog 61 #[.pointer (some ⟨g, 0, none⟩)] w fun e w' => ∃ (v : Value) (L : List Int), e = .returned v ∧ L.length ≤ 4 ∧ w'.ownsRow w.heap.size 3 1 v L.length (I L) ∧ (∃ t', t' ≤ t + 14 ∧ Cur w' g B A n cp zs t') ∧ w.grownBy w' (some g) := by
  obtain ⟨i0, hi, hz0, hz1, hz2⟩ := info_parts intInfo
  have HZ := Lib.hid hz
  have hgl := hc.lt
  have HC := Lib.hid (hc.alloc (.cells #[] 3))
  have hown0 : (w.alloc (.cells #[] 3)).ownsRow w.heap.size 3 1 (.slice (some ⟨w.heap.size, 0, none⟩) 0 0) 0 [] := World.ownsRow_made w #[] 0 (Nat.le_refl _) (Nat.zero_le _) rfl
  have HO0 := Lib.hid hown0
  have HG0 := Lib.hid (World.grownBy_alloc w (.cells #[] 3) (some g))
  clear hz hc hown0
  go_enter Try.func61, Try.ntmps61
  go_wp2_with fail
  go_loopw [3, 4] (fun v i wr => ∃ (k : Nat) (L : List Int) (t' : Nat), i = .int .i64 k ∧ L.length = k ∧ k ≤ 4 ∧ t' ≤ t + 2 * k ∧ wr.ownsRow w.heap.size 3 1 v L.length (I L) ∧ Hid (Cur wr g B A n cp zs t') ∧ w.grownBy wr (some g)) (fun _ i _ => (4 - intOf i).toNat)
  case atStart => exact ⟨0, [], t, by go_num, rfl, by omega, by omega, HO0.out, HC, HG0.out⟩
  case round =>
    clear HO0 HC HG0
    obtain ⟨k, L, t', rfl, hk, hk4, ht', hown, HC, hgr⟩ := hrel
    have hsz := hgr.size
    by_cases h0 : (k : Int) < 4
    · have HA := Lib.hid (among_list wr g B A n cp zs t' HZ.out HC.out (by omega) hn [0, 1, 255, 256, 513, 65535] _ rfl 3 6 rfl (by omega) (by omega))
      go_wp2_with fail
      refine HA.out.mono ?_
      rintro e w2 ⟨x, rfl, _, ⟨t2, ht2, hc2⟩, hg2⟩
      have hown2 := own_cur hown hg2 hgl
      have hgr2 := grown_trans' hgr hg2
      have hsz2 := hgr2.size
      have HC2 := Lib.hid hc2
      clear HA hown hgr hg2 hc2 HC
      go_wp2_with (at_builtin; refine wpList_append_own _ rfl _ _ 38 rfl w.heap.size 3 i0 (.int .i64 0) 1 8 Try.underlying38 hi hz0 hz1 hz2 rfl (by decide) _ _ _ rfl (hown2.alloc _) ⟨w2.heap.size, 0, none⟩ 1 1 [.int .i64 x] rfl rfl (cell_one_new _ _ _) (fun x hx => by simp at hx; subst hx; rfl) (by unfold maxLen; omega) (by omega) (by simp; omega) ?_; intro v' w3 hown3 hgrow3 _)
      have hc3 : Cur w3 g B A n cp zs t2 := (HC2.out.alloc _).grown hgrow3 (fun r hr => Nat.lt_of_lt_of_le hgl (hown2.lt r hr).1)
      have hgr3 : w.grownBy w3 (some g) := grown_over (grown_trans' hgr2 (World.grownBy_alloc w2 _ (some g))) hgrow3 (fun r hr => (hown2.lt r hr).1)
      go_roundw
      case rel => exact ⟨k + 1, L ++ [x], t2, by go_num, by simp; omega, by omega, by omega, by simpa [I] using hown3, Lib.hid hc3, hgr3⟩
      case measure => simp [intOf]; omega
    · have hL4 : L.length = 4 := by omega
      go_wp2_with fail
      refine (pick_any _ g B A n cp zs t' HZ.out HC.out (by omega) hn 40 (by omega) (by omega)).mono ?_
      rintro e w2 ⟨x, rfl, hx0, hx1, ⟨t2, ht2, hc2⟩, hg2⟩
      have hown2 := own_cur hown hg2 hgl
      have hgr2 := grown_trans' hgr hg2
      have hsz2 := hgr2.size
      have HC2 := Lib.hid hc2
      clear hown hgr hg2 hc2 HC
      obtain ⟨A1, c1, rfl, hc1, hc1m⟩ := own_form hown2
      obtain ⟨g1, rfl⟩ := own_head hown2 (by omega)
      by_cases e0 : x = 0
      · subst e0
        have h3 := own_take hown2 (k := 3) (by omega)
        rw [show (I L).take 3 = I (L.take 3) by simp [I, List.map_take]] at h3
        have HX := Lib.hid h3
        clear h3 hown2
        go_wp2_with fail
        go_ret
        have hl3 : (L.take 3).length = 3 := by rw [List.length_take]; omega
        exact ⟨_, L.take 3, rfl, by omega, by rw [hl3]; exact HX.out, ⟨t2, by omega, HC2.out⟩, hgr2⟩
      have q0 : (x == 0) = false := by simpa using e0
      by_cases e1 : x = 1
      · subst e1
        have HA := Lib.hid (among_list w2 g B A n cp zs t2 HZ.out HC2.out (by omega) hn [-1, 65536] _ rfl 3 2 rfl (by omega) (by omega))
        clear HC2
        go_wp2_with fail
        refine HA.out.mono ?_
        rintro e w4 ⟨z, rfl, _, ⟨t4, ht4, hc4⟩, hg4⟩
        have hown4 := own_cur hown2 hg4 hgl
        have hgr4 := grown_trans' hgr2 hg4
        have hsz4 := hgr4.size
        have hst := hown4.stored 3 (.int .i64 z)
        have hst1 := Lib.hid hst.1
        have hfz := hown4.frozenAt 3
        obtain ⟨u, hu⟩ : ∃ u, w4.cell? ⟨g1, 3, none⟩ = some u := ⟨_, (hown4.cellAt 3 (by omega)).trans (I_at (List.getElem?_eq_getElem (by omega)))⟩
        have hg1 := (hown4.lt g1 rfl).1
        have hrow : ∀ r, some g1 = some r → w.heap.size ≤ r := fun r hr => by cases hr; exact hg1
        have HC5 := Lib.hid (hc4.grown hst.2 (fun r hr => Nat.lt_of_lt_of_le hgl (hrow r hr)))
        have HG5 := Lib.hid (grown_over hgr4 hst.2 hrow)
        clear hrow hst hown2 hown4 hgr2 hgr4 hg4 hc4 HA
        go_wp2_with fail
        go_ret
        have hx1 := hst1.out
        rw [I_set] at hx1
        subst hk
        exact ⟨_, L.set 3 z, rfl, by rw [List.length_set]; omega, by rw [List.length_set]; exact hx1, ⟨t4, by omega, HC5.out⟩, HG5.out⟩
      have q1 : (x == 1) = false := by simpa using e1
      go_wp2_with fail
      go_ret
      subst hk
      exact ⟨_, L, rfl, by omega, hown2, ⟨t2, by omega, HC2.out⟩, hgr2⟩
end Go.Proofs.Ytaamjnpknmimmaa.Draw
