/- What the draw of an instruction answers. -/
import Derived.Test.YtfdbnolifimnhabDoorDSt
import Derived.Test.YtfdbnolifimnhabDoorDrawO
import Derived.Test.YtfdbnolifimnhabDoorOne
import Derived.Test.YtfdbnolifimnhabDoorAmong
import Derived.Test.YtfdbnolifimnhabDoorInsS
import Derived.Deep.Cut
import Derived.Deep.CutRange
import Derived.Deep.CutBlock
namespace Go.Proofs.YtfdbnolifimnhabDoor.Draw
open Go Go.RowKit Go.Proofs.YtfdbnolifimnhabDoor.Mem Go.Proofs.YtfdbnolifimnhabDoor.Own Go.Proofs.YtfdbnolifimnhabDoor.L3
set_option linter.unusedVariables false
/-- some instruction that has been drawn -/
def AnyIns (w : World) (g B : Nat) (A : Option Addr) (n cp : Nat) (zs : List Int) (t : Nat) (e : Ending) (w' : World) : Prop :=
  ∃ (x0 x1 x2 x3 : Int), e = .returned (.agg #[.int .i64 x0, .int .i64 x1, .int .i64 x2, .int .i64 x3]) ∧ (∃ t', t' ≤ t + 20 ∧ Cur w' g B A n cp zs t') ∧ w.grownBy w' (some g)
/-- the draw's state, whatever the instruction -/
def InsSt (w wr : World) (g B : Nat) (A : Option Addr) (n cp : Nat) (zs : List Int) (t R T : Nat) : Prop :=
  ∃ (x0 x1 x2 x3 : Int), DSt w wr g B A n cp zs t 25 R T #[.int .i64 0, .int .i64 0, .int .i64 0, .int .i64 0] #[.int .i64 x0, .int .i64 x1, .int .i64 x2, .int .i64 x3]
theorem least_any (a b : Int) (w : World) : Calls Tryd.prog 67 #[.int .i64 a, .int .i64 b] w fun e w' => e = .returned (.int .i64 (if a < b then a else b)) ∧ w = w' := by
  by_cases h : a < b
  · have hd : decide (a < b) = true := decide_eq_true h
    rw [if_pos h]
    clear h
    go_enter Tryd.func67, Tryd.ntmps67
    go_wp2_with fail
    go_ret
    exact ⟨rfl, rfl⟩
  · have hd : decide (a < b) = false := decide_eq_false h
    rw [if_neg h]
    clear h
    go_enter Tryd.func67, Tryd.ntmps67
    go_wp2_with fail
    go_ret
    exact ⟨rfl, rfl⟩
set_option maxRecDepth 100000 in
set_option maxHeartbeats 4000000 in
theorem instruction_any (w : World) (g B : Nat) (A : Option Addr) (n cp : Nat) (zs : List Int) (t : Nat) (hz : ∀ z ∈ zs, 0 ≤ z ∧ z ≤ 255) (hc : Cur w g B A n cp zs t) (ht : t ≤ 850000) (hn : n ≤ 1000000) :
    Calls Tryd.prog 37 #[.pointer (some ⟨g, 0, none⟩)] w (AnyIns w g B A n cp zs t) := by
  have HZ := Lib.hid hz
  have hgl := hc.lt
  have HC := Lib.hid (hc.alloc (.cells #[.int .i64 0, .int .i64 0, .int .i64 0, .int .i64 0] 25))
  clear hz hc
  go_enter Tryd.func37, Tryd.ntmps37
  go_wp2_with fail
  refine (pick_any _ g B A n cp zs t HZ.out HC.out (by omega) hn 10 (by omega) (by omega)).mono ?_
  rintro e w1 ⟨x, rfl, hx0, hx1, ⟨t1, ht1, hc1⟩, hg1⟩
  have H := Lib.hid (DSt.start hc1 hg1 hgl #[.int .i64 x, .int .i64 0, .int .i64 0, .int .i64 0])
  obtain ⟨T, hT⟩ : ∃ T, w1.heap.size = T := ⟨_, rfl⟩
  obtain ⟨wa, hwa⟩ : ∃ wa, w1.alloc (.cells #[.int .i64 x, .int .i64 0, .int .i64 0, .int .i64 0] 25) = wa := ⟨_, rfl⟩
  rw [hwa, hT] at H
  have HW := Lib.hid hwa
  have HT := Lib.hid hT
  clear HC hc1 hg1 hwa hT
  go_upto_region 2 with fail
  rw [HW.out, HT.out]
  clear HW HT
  have k0 := H.out.loc.cell 0 _ rfl
  have k1 := H.out.loc.cell 1 _ rfl
  have k2 := H.out.loc.cell 2 _ rfl
  have k3 := H.out.loc.cell 3 _ rfl
  go_wp2_with fail
  refine (l3Uses_any x (by omega) (by omega) _).mono ?_
  rintro e w2 ⟨rfl, rfl⟩
  clear k0 k1 k2 k3
  obtain ⟨qa, hqa⟩ : ∃ q, useA x = q := ⟨_, rfl⟩
  obtain ⟨qb, hqb⟩ : ∃ q, useB x = q := ⟨_, rfl⟩
  obtain ⟨qn, hqn⟩ : ∃ q, useN x = q := ⟨_, rfl⟩
  obtain ⟨mo, hmo⟩ : ∃ q, mostN x = q := ⟨_, rfl⟩
  rw [hqa, hqb, hqn, hmo]
  have hh : InsSt w wa g B A n cp zs t1 w.heap.size T := ⟨_, _, _, _, H.out⟩
  replace H := Lib.hid hh
  clear hh hqa hqb hqn hmo
  go_upto_if 19 with fail
  go_cut [] from 8 (fun wx => ∃ t', t' ≤ t + 4 ∧ Hid (InsSt w wx g B A n cp zs t' w.heap.size T))
  case first =>
    cases qa with
    | true =>
      obtain ⟨x0, x1, x2, x3, hh⟩ := H.out
      replace H := Lib.hid hh
      clear hh
      go_wp2_with fail
      refine (pick_any _ g B A n cp zs _ HZ.out H.out.cur (by omega) hn 4 (by omega) (by omega)).mono ?_
      rintro e v2 ⟨y, rfl, hy0, hy1, ⟨u2, hu2, hc⟩, hg⟩
      replace H := Lib.hid (H.out.draw hg hc)
      clear hc hg
      have k0 := H.out.loc.cell 0 _ rfl
      have k1 := H.out.loc.cell 1 _ rfl
      have k2 := H.out.loc.cell 2 _ rfl
      have k3 := H.out.loc.cell 3 _ rfl
      have kf1 := H.out.loc.free 1
      go_wp2_with fail
      replace H := Lib.hid (H.out.set 1 (.int .i64 y))
      clear k0 k1 k2 k3 kf1
      go_meet
      exact ⟨_, by omega, Lib.hid ⟨_, _, _, _, H.out⟩⟩
    | false =>
      obtain ⟨x0, x1, x2, x3, hh⟩ := H.out
      replace H := Lib.hid hh
      clear hh
      go_wp2_with fail
      go_meet
      exact ⟨_, by omega, Lib.hid ⟨_, _, _, _, H.out⟩⟩
  case rest =>
    clear H
    obtain ⟨ta, hta, H⟩ := hcut
    go_upto_if 23 with fail
    go_cut [] from 8 (fun wx => ∃ t', t' ≤ t + 6 ∧ Hid (InsSt w wx g B A n cp zs t' w.heap.size T))
    case first =>
      cases qb with
      | true =>
        obtain ⟨x0, x1, x2, x3, hh⟩ := H.out
        replace H := Lib.hid hh
        clear hh
        go_wp2_with fail
        refine (pick_any _ g B A n cp zs _ HZ.out H.out.cur (by omega) hn 4 (by omega) (by omega)).mono ?_
        rintro e v3 ⟨y, rfl, hy0, hy1, ⟨u3, hu3, hc⟩, hg⟩
        replace H := Lib.hid (H.out.draw hg hc)
        clear hc hg
        have k0 := H.out.loc.cell 0 _ rfl
        have k1 := H.out.loc.cell 1 _ rfl
        have k2 := H.out.loc.cell 2 _ rfl
        have k3 := H.out.loc.cell 3 _ rfl
        have kf2 := H.out.loc.free 2
        go_wp2_with fail
        replace H := Lib.hid (H.out.set 2 (.int .i64 y))
        clear k0 k1 k2 k3 kf2
        go_meet
        exact ⟨_, by omega, Lib.hid ⟨_, _, _, _, H.out⟩⟩
      | false =>
        obtain ⟨x0, x1, x2, x3, hh⟩ := H.out
        replace H := Lib.hid hh
        clear hh
        go_wp2_with fail
        go_meet
        exact ⟨_, by omega, Lib.hid ⟨_, _, _, _, H.out⟩⟩
    case rest =>
      clear H
      obtain ⟨tb, htb, H⟩ := hcut
      go_upto_if 27 with fail
      go_cut [] from 8 (fun wx => ∃ t', t' ≤ t + 8 ∧ Hid (InsSt w wx g B A n cp zs t' w.heap.size T))
      case first =>
        cases qn with
        | true =>
          obtain ⟨x0, x1, x2, x3, hh⟩ := H.out
          replace H := Lib.hid hh
          clear hh
          go_wp2_with fail
          refine (among_list _ g B A n cp zs _ HZ.out H.out.cur (by omega) hn [0, 1, 2, 3, 5, 9, 15, 65535] _ rfl 3 8 rfl (by omega) (by omega)).mono ?_
          rintro e v4 ⟨y, rfl, _, ⟨u4, hu4, hc⟩, hg⟩
          replace H := Lib.hid (H.out.draw hg hc)
          clear hc hg
          go_wp2_with fail
          refine (least_any mo y _).mono ?_
          rintro e v5 ⟨rfl, rfl⟩
          obtain ⟨z, hz⟩ : ∃ z, (if mo < y then mo else y) = z := ⟨_, rfl⟩
          rw [hz]
          clear hz
          have k0 := H.out.loc.cell 0 _ rfl
          have k1 := H.out.loc.cell 1 _ rfl
          have k2 := H.out.loc.cell 2 _ rfl
          have k3 := H.out.loc.cell 3 _ rfl
          have kf3 := H.out.loc.free 3
          go_wp2_with fail
          replace H := Lib.hid (H.out.set 3 (.int .i64 z))
          clear k0 k1 k2 k3 kf3
          go_meet
          exact ⟨_, by omega, Lib.hid ⟨_, _, _, _, H.out⟩⟩
        | false =>
          obtain ⟨x0, x1, x2, x3, hh⟩ := H.out
          replace H := Lib.hid hh
          clear hh
          go_wp2_with fail
          go_meet
          exact ⟨_, by omega, Lib.hid ⟨_, _, _, _, H.out⟩⟩
      case rest =>
        clear H
        obtain ⟨tc, htc, H⟩ := hcut
        obtain ⟨x0, x1, x2, x3, hh⟩ := H.out
        replace H := Lib.hid hh
        clear hh
        go_wp2_with fail
        refine (pick_any _ g B A n cp zs _ HZ.out H.out.cur (by omega) hn 80 (by omega) (by omega)).mono ?_
        rintro e v6 ⟨sw, rfl, hsw0, hsw1, ⟨u6, hu6, hc⟩, hg⟩
        replace H := Lib.hid (H.out.draw hg hc)
        clear hc hg
        by_cases e0 : sw = 0
        · subst e0
          go_wp2_with fail
          refine (among_list _ g B A n cp zs _ HZ.out H.out.cur (by omega) hn [-1, 0, 10] _ rfl 3 3 rfl (by omega) (by omega)).mono ?_
          rintro e v7 ⟨kk, rfl, _, ⟨u7, hu7, hc⟩, hg⟩
          replace H := Lib.hid (H.out.draw hg hc)
          clear hc hg
          have k0 := H.out.loc.cell 0 _ rfl
          have k1 := H.out.loc.cell 1 _ rfl
          have k2 := H.out.loc.cell 2 _ rfl
          have k3 := H.out.loc.cell 3 _ rfl
          have kf0 := H.out.loc.free 0
          go_upto_region 18 with fail
          replace H := Lib.hid (H.out.set 0 (.int .i64 kk))
          clear k0 k1 k2 k3 kf0
          revert H
          generalize (World.setCell _ _ _) = wx
          intro H
          have k0 := H.out.loc.cell 0 _ rfl
          have k1 := H.out.loc.cell 1 _ rfl
          have k2 := H.out.loc.cell 2 _ rfl
          have k3 := H.out.loc.cell 3 _ rfl
          have q0 := H.out.res.cell 0 _ rfl
          have f0 := H.out.res.free 0
          have q1 := H.out.res.cell 1 _ rfl
          have f1 := H.out.res.free 1
          have q2 := H.out.res.cell 2 _ rfl
          have f2 := H.out.res.free 2
          have q3 := H.out.res.cell 3 _ rfl
          have f3 := H.out.res.free 3
          go_wp2_with fail
          replace H := Lib.hid ((((H.out.put 0 (.int .i64 kk)).put 1 (.int .i64 x1)).put 2 (.int .i64 x2)).put 3 (.int .i64 x3))
          clear k0 k1 k2 k3 q0 f0 q1 f1 q2 f2 q3 f3
          revert H
          generalize (World.setCell (World.setCell (World.setCell (World.setCell _ _ _) _ _) _ _) _ _) = wz
          intro H
          have z0 := H.out.res.cell 0 _ rfl
          have z1 := H.out.res.cell 1 _ rfl
          have z2 := H.out.res.cell 2 _ rfl
          have z3 := H.out.res.cell 3 _ rfl
          exact bodyPost_ret (v := .agg #[.int .i64 kk, .int .i64 x1, .int .i64 x2, .int .i64 x3]) (by simp [results, Tryd.results37, go_sem, z0, z1, z2, z3]) rfl ⟨_, _, _, _, rfl, ⟨u7, by omega, H.out.cur⟩, H.out.gr⟩
        replace e0 : (sw == 0) = false := by simpa using e0
        by_cases e1 : sw = 1
        · subst e1
          clear e0
          go_wp2_with fail
          refine (among_list _ g B A n cp zs _ HZ.out H.out.cur (by omega) hn [-1, 2, 4] _ rfl 3 3 rfl (by omega) (by omega)).mono ?_
          rintro e v7 ⟨kk, rfl, _, ⟨u7, hu7, hc⟩, hg⟩
          replace H := Lib.hid (H.out.draw hg hc)
          clear hc hg
          have k0 := H.out.loc.cell 0 _ rfl
          have k1 := H.out.loc.cell 1 _ rfl
          have k2 := H.out.loc.cell 2 _ rfl
          have k3 := H.out.loc.cell 3 _ rfl
          have kf1 := H.out.loc.free 1
          go_upto_region 18 with fail
          replace H := Lib.hid (H.out.set 1 (.int .i64 kk))
          clear k0 k1 k2 k3 kf1
          revert H
          generalize (World.setCell _ _ _) = wx
          intro H
          have k0 := H.out.loc.cell 0 _ rfl
          have k1 := H.out.loc.cell 1 _ rfl
          have k2 := H.out.loc.cell 2 _ rfl
          have k3 := H.out.loc.cell 3 _ rfl
          have q0 := H.out.res.cell 0 _ rfl
          have f0 := H.out.res.free 0
          have q1 := H.out.res.cell 1 _ rfl
          have f1 := H.out.res.free 1
          have q2 := H.out.res.cell 2 _ rfl
          have f2 := H.out.res.free 2
          have q3 := H.out.res.cell 3 _ rfl
          have f3 := H.out.res.free 3
          go_wp2_with fail
          replace H := Lib.hid ((((H.out.put 0 (.int .i64 x0)).put 1 (.int .i64 kk)).put 2 (.int .i64 x2)).put 3 (.int .i64 x3))
          clear k0 k1 k2 k3 q0 f0 q1 f1 q2 f2 q3 f3
          revert H
          generalize (World.setCell (World.setCell (World.setCell (World.setCell _ _ _) _ _) _ _) _ _) = wz
          intro H
          have z0 := H.out.res.cell 0 _ rfl
          have z1 := H.out.res.cell 1 _ rfl
          have z2 := H.out.res.cell 2 _ rfl
          have z3 := H.out.res.cell 3 _ rfl
          exact bodyPost_ret (v := .agg #[.int .i64 x0, .int .i64 kk, .int .i64 x2, .int .i64 x3]) (by simp [results, Tryd.results37, go_sem, z0, z1, z2, z3]) rfl ⟨_, _, _, _, rfl, ⟨u7, by omega, H.out.cur⟩, H.out.gr⟩
        replace e1 : (sw == 1) = false := by simpa using e1
        by_cases e2 : sw = 2
        · subst e2
          clear e0 e1
          go_wp2_with fail
          refine (among_list _ g B A n cp zs _ HZ.out H.out.cur (by omega) hn [-1, 3, 4] _ rfl 3 3 rfl (by omega) (by omega)).mono ?_
          rintro e v7 ⟨kk, rfl, _, ⟨u7, hu7, hc⟩, hg⟩
          replace H := Lib.hid (H.out.draw hg hc)
          clear hc hg
          have k0 := H.out.loc.cell 0 _ rfl
          have k1 := H.out.loc.cell 1 _ rfl
          have k2 := H.out.loc.cell 2 _ rfl
          have k3 := H.out.loc.cell 3 _ rfl
          have kf2 := H.out.loc.free 2
          go_upto_region 18 with fail
          replace H := Lib.hid (H.out.set 2 (.int .i64 kk))
          clear k0 k1 k2 k3 kf2
          revert H
          generalize (World.setCell _ _ _) = wx
          intro H
          have k0 := H.out.loc.cell 0 _ rfl
          have k1 := H.out.loc.cell 1 _ rfl
          have k2 := H.out.loc.cell 2 _ rfl
          have k3 := H.out.loc.cell 3 _ rfl
          have q0 := H.out.res.cell 0 _ rfl
          have f0 := H.out.res.free 0
          have q1 := H.out.res.cell 1 _ rfl
          have f1 := H.out.res.free 1
          have q2 := H.out.res.cell 2 _ rfl
          have f2 := H.out.res.free 2
          have q3 := H.out.res.cell 3 _ rfl
          have f3 := H.out.res.free 3
          go_wp2_with fail
          replace H := Lib.hid ((((H.out.put 0 (.int .i64 x0)).put 1 (.int .i64 x1)).put 2 (.int .i64 kk)).put 3 (.int .i64 x3))
          clear k0 k1 k2 k3 q0 f0 q1 f1 q2 f2 q3 f3
          revert H
          generalize (World.setCell (World.setCell (World.setCell (World.setCell _ _ _) _ _) _ _) _ _) = wz
          intro H
          have z0 := H.out.res.cell 0 _ rfl
          have z1 := H.out.res.cell 1 _ rfl
          have z2 := H.out.res.cell 2 _ rfl
          have z3 := H.out.res.cell 3 _ rfl
          exact bodyPost_ret (v := .agg #[.int .i64 x0, .int .i64 x1, .int .i64 kk, .int .i64 x3]) (by simp [results, Tryd.results37, go_sem, z0, z1, z2, z3]) rfl ⟨_, _, _, _, rfl, ⟨u7, by omega, H.out.cur⟩, H.out.gr⟩
        replace e2 : (sw == 2) = false := by simpa using e2
        by_cases e3 : sw = 3
        · subst e3
          clear e0 e1 e2
          go_wp2_with fail
          refine (among_list _ g B A n cp zs _ HZ.out H.out.cur (by omega) hn [-1, 16, 256, 65536] _ rfl 3 4 rfl (by omega) (by omega)).mono ?_
          rintro e v7 ⟨kk, rfl, _, ⟨u7, hu7, hc⟩, hg⟩
          replace H := Lib.hid (H.out.draw hg hc)
          clear hc hg
          have k0 := H.out.loc.cell 0 _ rfl
          have k1 := H.out.loc.cell 1 _ rfl
          have k2 := H.out.loc.cell 2 _ rfl
          have k3 := H.out.loc.cell 3 _ rfl
          have kf3 := H.out.loc.free 3
          go_upto_region 18 with fail
          replace H := Lib.hid (H.out.set 3 (.int .i64 kk))
          clear k0 k1 k2 k3 kf3
          revert H
          generalize (World.setCell _ _ _) = wx
          intro H
          have k0 := H.out.loc.cell 0 _ rfl
          have k1 := H.out.loc.cell 1 _ rfl
          have k2 := H.out.loc.cell 2 _ rfl
          have k3 := H.out.loc.cell 3 _ rfl
          have q0 := H.out.res.cell 0 _ rfl
          have f0 := H.out.res.free 0
          have q1 := H.out.res.cell 1 _ rfl
          have f1 := H.out.res.free 1
          have q2 := H.out.res.cell 2 _ rfl
          have f2 := H.out.res.free 2
          have q3 := H.out.res.cell 3 _ rfl
          have f3 := H.out.res.free 3
          go_wp2_with fail
          replace H := Lib.hid ((((H.out.put 0 (.int .i64 x0)).put 1 (.int .i64 x1)).put 2 (.int .i64 x2)).put 3 (.int .i64 kk))
          clear k0 k1 k2 k3 q0 f0 q1 f1 q2 f2 q3 f3
          revert H
          generalize (World.setCell (World.setCell (World.setCell (World.setCell _ _ _) _ _) _ _) _ _) = wz
          intro H
          have z0 := H.out.res.cell 0 _ rfl
          have z1 := H.out.res.cell 1 _ rfl
          have z2 := H.out.res.cell 2 _ rfl
          have z3 := H.out.res.cell 3 _ rfl
          exact bodyPost_ret (v := .agg #[.int .i64 x0, .int .i64 x1, .int .i64 x2, .int .i64 kk]) (by simp [results, Tryd.results37, go_sem, z0, z1, z2, z3]) rfl ⟨_, _, _, _, rfl, ⟨u7, by omega, H.out.cur⟩, H.out.gr⟩
        replace e3 : (sw == 3) = false := by simpa using e3
        go_upto_region 18 with fail
        clear e0 e1 e2 e3
        have k0 := H.out.loc.cell 0 _ rfl
        have k1 := H.out.loc.cell 1 _ rfl
        have k2 := H.out.loc.cell 2 _ rfl
        have k3 := H.out.loc.cell 3 _ rfl
        have q0 := H.out.res.cell 0 _ rfl
        have f0 := H.out.res.free 0
        have q1 := H.out.res.cell 1 _ rfl
        have f1 := H.out.res.free 1
        have q2 := H.out.res.cell 2 _ rfl
        have f2 := H.out.res.free 2
        have q3 := H.out.res.cell 3 _ rfl
        have f3 := H.out.res.free 3
        go_wp2_with fail
        replace H := Lib.hid ((((H.out.put 0 (.int .i64 x0)).put 1 (.int .i64 x1)).put 2 (.int .i64 x2)).put 3 (.int .i64 x3))
        clear k0 k1 k2 k3 q0 f0 q1 f1 q2 f2 q3 f3
        revert H
        generalize (World.setCell (World.setCell (World.setCell (World.setCell _ _ _) _ _) _ _) _ _) = wz
        intro H
        have z0 := H.out.res.cell 0 _ rfl
        have z1 := H.out.res.cell 1 _ rfl
        have z2 := H.out.res.cell 2 _ rfl
        have z3 := H.out.res.cell 3 _ rfl
        exact bodyPost_ret (v := .agg #[.int .i64 x0, .int .i64 x1, .int .i64 x2, .int .i64 x3]) (by simp [results, Tryd.results37, go_sem, z0, z1, z2, z3]) rfl ⟨_, _, _, _, rfl, ⟨u6, by omega, H.out.cur⟩, H.out.gr⟩
end Go.Proofs.YtfdbnolifimnhabDoor.Draw
