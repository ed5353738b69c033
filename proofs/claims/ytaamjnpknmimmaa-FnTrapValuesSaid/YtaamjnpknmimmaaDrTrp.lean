/- What the draw of a trap answers. -/
import Derived.Test.YtaamjnpknmimmaaDSt
import Derived.Test.YtaamjnpknmimmaaOne
import Derived.Deep.Cut
import Derived.Deep.CutRange
import Derived.Deep.CutBlock
import Derived.Deep.RegionWith

namespace Go.Proofs.Ytaamjnpknmimmaa.Draw
open Go Go.RowKit Go.Proofs.Ytaamjnpknmimmaa.Mem Go.Proofs.Ytaamjnpknmimmaa.Own
set_option linter.unusedVariables false
/-- some trap that has been drawn -/
def AnyTrap (w : World) (g B : Nat) (A : Option Addr) (n cp : Nat) (zs : List Int) (t : Nat) (e : Ending) (w' : World) : Prop :=
  ∃ (c wd : Int) (s : Bool) (r i : Int), e = .returned (.agg #[.int .i64 c, .int .i64 wd, .bool s, .int .i64 r, .int .i64 i]) ∧ (∃ t', t' ≤ t + 30 ∧ Cur w' g B A n cp zs t') ∧ w.grownBy w' (some g)
/-- the draw's state, whatever the trap -/
def TrapSt (w wr : World) (g B : Nat) (A : Option Addr) (n cp : Nat) (zs : List Int) (t R T : Nat) : Prop :=
  ∃ (c wd : Int) (s : Bool) (r i : Int), DSt w wr g B A n cp zs t 25 R T #[.int .i64 0, .int .i64 0, .bool false, .int .i64 0, .int .i64 0] #[.int .i64 c, .int .i64 wd, .bool s, .int .i64 r, .int .i64 i]
set_option maxRecDepth 100000 in
set_option maxHeartbeats 2000000 in
theorem trap_any (w : World) (g B : Nat) (A : Option Addr) (n cp : Nat) (zs : List Int) (t : Nat) (hz : ∀ z ∈ zs, 0 ≤ z ∧ z ≤ 255) (hc : Cur w g B A n cp zs t) (ht : t ≤ 800000) (hn : n ≤ 1000000) :
    Calls Try.prog 66 #[.pointer (some ⟨g, 0, none⟩)] w (AnyTrap w g B A n cp zs t) := by
  have HZ := Lib.hid hz
  have hgl := hc.lt
  have HC := Lib.hid (hc.alloc (.cells #[.int .i64 0, .int .i64 0, .bool false, .int .i64 0, .int .i64 0] 25))
  clear hz hc
  go_enter Try.func66, Try.ntmps66
  go_wp2_with fail
  refine (pick_any _ g B A n cp zs t HZ.out HC.out (by omega) hn 5 (by omega) (by omega)).mono ?_
  rintro e w1 ⟨x, rfl, hx0, hx1, ⟨t1, ht1, hc1⟩, hg1⟩
  have H := Lib.hid (DSt.start hc1 hg1 hgl #[.int .i64 (1 + x), .int .i64 0, .bool false, .int .i64 0, .int .i64 0])
  obtain ⟨T, hT⟩ : ∃ T, w1.heap.size = T := ⟨_, rfl⟩
  obtain ⟨wa, hwa⟩ : ∃ wa, w1.alloc (.cells #[.int .i64 (1 + x), .int .i64 0, .bool false, .int .i64 0, .int .i64 0] 25) = wa := ⟨_, rfl⟩
  rw [hwa, hT] at H
  have HW := Lib.hid hwa
  have HT := Lib.hid hT
  clear HC hc1 hg1 hwa hT
  go_upto_region 2 with fail
  rw [HW.out, HT.out]
  clear HW HT
  have hx : x = 0 ∨ x = 1 ∨ x = 2 ∨ x = 3 ∨ x = 4 := by omega
  have k0 := H.out.loc.cell 0 _ rfl
  go_upto_block 0 with fail
  clear k0
  go_cut [] from 4 (fun wx => ∃ t', t' ≤ t + 14 ∧ Hid (TrapSt w wx g B A n cp zs t' w.heap.size T))
  case first =>
    rcases hx with rfl | rfl | rfl | rfl | rfl
    · skip
      go_wp2_with fail
      refine (pick_any _ g B A n cp zs _ HZ.out H.out.cur (by omega) hn 16 (by omega) (by omega)).mono ?_
      rintro e v1 ⟨y1, rfl, hy10, hy11, ⟨u1, hu1, hc⟩, hg⟩
      replace H := Lib.hid (H.out.draw hg hc)
      clear hc hg
      have d4 := H.out.loc.cell 4 _ rfl
      have f4 := H.out.loc.free 4
      replace H := Lib.hid (H.out.set 4 (.int .i64 y1))
      go_wp2_with fail
      clear d4 f4
      refine (one_any _ g B A n cp zs _ HZ.out H.out.cur (by omega) hn 2 (by omega) (by omega)).mono ?_
      rintro e v2 ⟨y2, rfl, ⟨u2, hu2, hc⟩, hg⟩
      replace H := Lib.hid (H.out.draw hg hc)
      clear hc hg
      have d2 := H.out.loc.cell 2 _ rfl
      have f2 := H.out.loc.free 2
      replace H := Lib.hid (H.out.set 2 (.bool y2))
      go_wp2_with fail
      go_meet
      exact ⟨_, by omega, Lib.hid ⟨_, _, _, _, _, H.out⟩⟩
    · skip
      go_wp2_with fail
      refine (among_list _ g B A n cp zs _ HZ.out H.out.cur (by omega) hn [0, 1, 7, 255] _ rfl 3 4 rfl (by omega) (by omega)).mono ?_
      rintro e v3 ⟨y3, rfl, _, ⟨u3, hu3, hc⟩, hg⟩
      replace H := Lib.hid (H.out.draw hg hc)
      clear hc hg
      have d4 := H.out.loc.cell 4 _ rfl
      have f4 := H.out.loc.free 4
      replace H := Lib.hid (H.out.set 4 (.int .i64 y3))
      go_wp2_with fail
      go_meet
      exact ⟨_, by omega, Lib.hid ⟨_, _, _, _, _, H.out⟩⟩
    · skip
      go_wp2_with fail
      refine (among_list _ g B A n cp zs _ HZ.out H.out.cur (by omega) hn [1, 2, 4] _ rfl 3 3 rfl (by omega) (by omega)).mono ?_
      rintro e v4 ⟨y4, rfl, _, ⟨u4, hu4, hc⟩, hg⟩
      replace H := Lib.hid (H.out.draw hg hc)
      clear hc hg
      have d1 := H.out.loc.cell 1 _ rfl
      have f1 := H.out.loc.free 1
      replace H := Lib.hid (H.out.set 1 (.int .i64 y4))
      go_upto_region 10 with fail
      clear d1 f1
      revert H
      generalize (World.setCell _ _ _) = wz
      intro H
      go_cut [] from 4 (fun wx => ∃ t', t' ≤ t + 8 ∧ Hid (TrapSt w wx g B A n cp zs t' w.heap.size T))
      case first =>
        have e1 := H.out.loc.cell 1 _ rfl
        have e1a := (H.out.loc.alloc (.cells #[.int .i64 0, .int .i64 1, .int .i64 10, .int .i64 16383] 3)).cell 1 _ rfl
        have e1b : wz.drew.cell? _ = _ := H.out.loc.cell 1 _ rfl
        have e1c : (wz.alloc (.cells #[.int .i64 0, .int .i64 1, .int .i64 10, .int .i64 16383] 3)).drew.cell? _ = _ := (H.out.loc.alloc (.cells #[.int .i64 0, .int .i64 1, .int .i64 10, .int .i64 16383] 3)).cell 1 _ rfl
        have H2 := Lib.hid (H.out.below (w' := (wz.alloc (.cells #[.int .i64 0, .int .i64 1, .int .i64 10, .int .i64 16383] 3)).drew) (below_then (below_more (Below.refl _ _) _) (below_drew1 _)))
        have hwz : wz.heap.size ≠ g := by have := H.out.gr.size; omega
        go_region_with ((go_at_call 62; refine (among_part (wz.alloc (.cells #[.int .i64 0, .int .i64 1, .int .i64 10, .int .i64 16383] 3)).drew g B A n cp zs _ wz.heap.size 4 4 HZ.out H2.out.cur (by omega) hn [0, 1, 10, 16383] 3 (Blk.new wz _ _) hwz (by omega) (by decide) (by decide) (by omega)).mono ?_; rintro e v9 ⟨y9, rfl, ⟨u9, hu9, hc⟩, hg⟩; replace H := Lib.hid (H2.out.draw hg hc); clear hc hg H2; have e2 := H.out.loc.cell 1 _ rfl; have d4 := H.out.loc.cell 4 _ rfl; have f4 := H.out.loc.free 4))
        all_goals
          replace H := Lib.hid (H.out.set 4 (.int .i64 (IntKind.i64.wrap (y4 * y9))))
          go_wp2_with fail
          go_meet
          exact ⟨_, by omega, Lib.hid ⟨_, _, _, _, _, H.out⟩⟩
      case rest =>
        clear H
        obtain ⟨t9, ht9, H⟩ := hcut
        obtain ⟨c, wd, s, r, i, hh⟩ := H.out
        clear H
        have H := Lib.hid hh
        clear hh
        go_wp2_with fail
        refine (pick_any _ g B A n cp zs _ HZ.out H.out.cur (by omega) hn 4 (by omega) (by omega)).mono ?_
        rintro e v5 ⟨y5, rfl, hy50, hy51, ⟨u5, hu5, hc⟩, hg⟩
        replace H := Lib.hid (H.out.draw hg hc)
        clear hc hg
        have d3 := H.out.loc.cell 3 _ rfl
        have f3 := H.out.loc.free 3
        replace H := Lib.hid (H.out.set 3 (.int .i64 y5))
        go_wp2_with fail
        clear d3 f3
        refine (one_any _ g B A n cp zs _ HZ.out H.out.cur (by omega) hn 2 (by omega) (by omega)).mono ?_
        rintro e v6 ⟨y6, rfl, ⟨u6, hu6, hc⟩, hg⟩
        replace H := Lib.hid (H.out.draw hg hc)
        clear hc hg
        have d2 := H.out.loc.cell 2 _ rfl
        have f2 := H.out.loc.free 2
        replace H := Lib.hid (H.out.set 2 (.bool y6))
        go_wp2_with fail
        go_meet
        exact ⟨_, by omega, Lib.hid ⟨_, _, _, _, _, H.out⟩⟩
    · skip
      go_wp2_with fail
      go_meet
      exact ⟨_, by omega, Lib.hid ⟨_, _, _, _, _, H.out⟩⟩
    · skip
      go_wp2_with fail
      go_meet
      exact ⟨_, by omega, Lib.hid ⟨_, _, _, _, _, H.out⟩⟩
  case rest =>
    clear H
    obtain ⟨t2, ht2, H⟩ := hcut
    obtain ⟨c, wd, s, r, i, hh⟩ := H.out
    clear H
    have H := Lib.hid hh
    clear hh
    go_wp2_with fail
    refine (pick_any _ g B A n cp zs _ HZ.out H.out.cur (by omega) hn 40 (by omega) (by omega)).mono ?_
    rintro e v7 ⟨y7, rfl, hy70, hy71, ⟨u7, hu7, hc⟩, hg⟩
    replace H := Lib.hid (H.out.draw hg hc)
    clear hc hg
    go_upto_block 1 with fail
    go_cut [] from 4 (fun wx => ∃ t', t' ≤ t + 22 ∧ Hid (TrapSt w wx g B A n cp zs t' w.heap.size T))
    case first =>
      by_cases e0 : y7 = 0
      · subst e0
        go_wp2_with fail
        refine (among_list _ g B A n cp zs _ HZ.out H.out.cur (by omega) hn [0, 4, 6] _ rfl 3 3 rfl (by omega) (by omega)).mono ?_
        rintro e v8 ⟨y8, rfl, _, ⟨u8, hu8, hc⟩, hg⟩
        replace H := Lib.hid (H.out.draw hg hc)
        clear hc hg
        have d0 := H.out.loc.cell 0 _ rfl
        have f0 := H.out.loc.free 0
        replace H := Lib.hid (H.out.set 0 (.int .i64 y8))
        go_wp2_with fail
        go_meet
        exact ⟨_, by omega, Lib.hid ⟨_, _, _, _, _, H.out⟩⟩
      replace e0 : (y7 == 0) = false := by simpa using e0
      by_cases e1 : y7 = 1
      · subst e1
        go_wp2_with fail
        refine (among_list _ g B A n cp zs _ HZ.out H.out.cur (by omega) hn [-1, 1, 16, 256, 65535, 65536] _ rfl 3 6 rfl (by omega) (by omega)).mono ?_
        rintro e v9 ⟨y9, rfl, _, ⟨u9, hu9, hc⟩, hg⟩
        replace H := Lib.hid (H.out.draw hg hc)
        clear hc hg
        have d4 := H.out.loc.cell 4 _ rfl
        have f4 := H.out.loc.free 4
        replace H := Lib.hid (H.out.set 4 (.int .i64 y9))
        go_wp2_with fail
        go_meet
        exact ⟨_, by omega, Lib.hid ⟨_, _, _, _, _, H.out⟩⟩
      replace e1 : (y7 == 1) = false := by simpa using e1
      by_cases e2 : y7 = 2
      · subst e2
        go_wp2_with fail
        refine (among_list _ g B A n cp zs _ HZ.out H.out.cur (by omega) hn [0, 3, 8, 2] _ rfl 3 4 rfl (by omega) (by omega)).mono ?_
        rintro e v10 ⟨y10, rfl, _, ⟨u10, hu10, hc⟩, hg⟩
        replace H := Lib.hid (H.out.draw hg hc)
        clear hc hg
        have d1 := H.out.loc.cell 1 _ rfl
        have f1 := H.out.loc.free 1
        replace H := Lib.hid (H.out.set 1 (.int .i64 y10))
        go_wp2_with fail
        go_meet
        exact ⟨_, by omega, Lib.hid ⟨_, _, _, _, _, H.out⟩⟩
      replace e2 : (y7 == 2) = false := by simpa using e2
      by_cases e3 : y7 = 3
      · subst e3
        go_wp2_with fail
        refine (among_list _ g B A n cp zs _ HZ.out H.out.cur (by omega) hn [-1, 1, 4] _ rfl 3 3 rfl (by omega) (by omega)).mono ?_
        rintro e v11 ⟨y11, rfl, _, ⟨u11, hu11, hc⟩, hg⟩
        replace H := Lib.hid (H.out.draw hg hc)
        clear hc hg
        have d3 := H.out.loc.cell 3 _ rfl
        have f3 := H.out.loc.free 3
        replace H := Lib.hid (H.out.set 3 (.int .i64 y11))
        go_wp2_with fail
        go_meet
        exact ⟨_, by omega, Lib.hid ⟨_, _, _, _, _, H.out⟩⟩
      replace e3 : (y7 == 3) = false := by simpa using e3
      by_cases e4 : y7 = 4
      · subst e4
        have d2 := H.out.loc.cell 2 _ rfl
        have f2 := H.out.loc.free 2
        replace H := Lib.hid (H.out.set 2 (.bool true))
        go_wp2_with fail
        go_meet
        exact ⟨_, by omega, Lib.hid ⟨_, _, _, _, _, H.out⟩⟩
      replace e4 : (y7 == 4) = false := by simpa using e4
      go_wp2_with fail
      go_meet
      exact ⟨_, by omega, Lib.hid ⟨_, _, _, _, _, H.out⟩⟩
    case rest =>
      clear H
      obtain ⟨t3, ht3, H⟩ := hcut
      obtain ⟨c, wd, s, r, i, hh⟩ := H.out
      clear H
      have k0 := hh.loc.cell 0 _ rfl
      have q0 := hh.res.cell 0 _ rfl
      have f0 := hh.res.free 0
      have k1 := hh.loc.cell 1 _ rfl
      have q1 := hh.res.cell 1 _ rfl
      have f1 := hh.res.free 1
      have k2 := hh.loc.cell 2 _ rfl
      have q2 := hh.res.cell 2 _ rfl
      have f2 := hh.res.free 2
      have k3 := hh.loc.cell 3 _ rfl
      have q3 := hh.res.cell 3 _ rfl
      have f3 := hh.res.free 3
      have k4 := hh.loc.cell 4 _ rfl
      have q4 := hh.res.cell 4 _ rfl
      have f4 := hh.res.free 4
      have H := Lib.hid (((((hh.put 0 (.int .i64 c)).put 1 (.int .i64 wd)).put 2 (.bool s)).put 3 (.int .i64 r)).put 4 (.int .i64 i))
      clear hh
      go_wp2_with fail
      clear k0 q0 f0 k1 q1 f1 k2 q2 f2 k3 q3 f3 k4 q4 f4
      revert H
      generalize (World.setCell (World.setCell (World.setCell (World.setCell (World.setCell _ _ _) _ _) _ _) _ _) _ _) = wz
      intro H
      have z0 := H.out.res.cell 0 _ rfl
      have z1 := H.out.res.cell 1 _ rfl
      have z2 := H.out.res.cell 2 _ rfl
      have z3 := H.out.res.cell 3 _ rfl
      have z4 := H.out.res.cell 4 _ rfl
      exact bodyPost_ret (v := .agg #[.int .i64 c, .int .i64 wd, .bool s, .int .i64 r, .int .i64 i]) (by simp [results, Try.results66, go_sem, z0, z1, z2, z3, z4]) rfl ⟨c, wd, s, r, i, rfl, ⟨t3, by omega, H.out.cur⟩, H.out.gr⟩
end Go.Proofs.Ytaamjnpknmimmaa.Draw
