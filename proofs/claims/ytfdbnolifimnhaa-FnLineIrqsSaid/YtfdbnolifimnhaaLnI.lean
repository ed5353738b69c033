/- What chapter 7's functions on one line answer, of impl. -/
import Derived.Test.YtfdbnolifimnhaaLnJ
namespace Go.Proofs.Ytfdbnolifimnhaa.L7
open Go Go.RowKit Go.Proofs.Ytfdbnolifimnhaa.Mem Go.Proofs.Ytfdbnolifimnhaa.Own Go.Proofs.Ytfdbnolifimnhaa.L6
set_option maxRecDepth 100000 in
set_option maxHeartbeats 2000000 in
theorem driven_c (k i : Int) (h r g q : Bool) (hq : (if k = 1 then g else (r || (g && !h))) = q) (w : World) :
    Calls Try.prog 132 #[.agg #[.int .i64 k, .int .i64 i, .bool h, .bool r], .bool g] w fun e w' => e = .returned (.agg #[.int .i64 k, .int .i64 i, .bool g, .bool q]) ∧ Below w.heap.size w w' := by
  by_cases h1 : k = 1
  · subst h1
    rw [if_pos rfl] at hq
    subst hq
    cases g
    · skip
      have H0 := Lib.hid (BR.start w 58 #[.int .i64 1, .int .i64 i, .bool h, .bool r] #[.int .i64 0, .int .i64 0, .bool false, .bool false])
      obtain ⟨wb, hwb⟩ : ∃ wb, (w.alloc (.cells #[.int .i64 1, .int .i64 i, .bool h, .bool r] 58)).alloc (.cells #[.int .i64 0, .int .i64 0, .bool false, .bool false] 58) = wb := ⟨_, rfl⟩
      rw [hwb] at H0
      have H := H0
      clear H0
      have HWB := Lib.hid hwb
      clear hwb
      go_enter Try.func132, Try.ntmps132
      go_upto_region 1 with fail
      rw [HWB.out]
      clear HWB
      have p0 := H.out.bx.cell 0 _ rfl
      have p1 := H.out.bx.cell 1 _ rfl
      have p2 := H.out.bx.cell 2 _ rfl
      have p3 := H.out.bx.cell 3 _ rfl
      have pf2 := H.out.bx.free 2
      go_upto_region 3 with fail
      replace H := Lib.hid (H.out.set 2 (.bool false))
      clear p0 p1 p2 p3 pf2
      revert H
      generalize (World.setCell wb _ _) = wc
      intro H
      have p0 := H.out.bx.cell 0 _ rfl
      have p1 := H.out.bx.cell 1 _ rfl
      have p2 := H.out.bx.cell 2 _ rfl
      have p3 := H.out.bx.cell 3 _ rfl
      have pf3 := H.out.bx.free 3
      go_upto_region 7 with fail
      replace H := Lib.hid (H.out.set 3 (.bool false))
      clear p0 p1 p2 p3 pf3
      revert H
      generalize (World.setCell wc _ _) = wd
      intro H
      have p0 := H.out.bx.cell 0 _ rfl
      have p1 := H.out.bx.cell 1 _ rfl
      have p2 := H.out.bx.cell 2 _ rfl
      have p3 := H.out.bx.cell 3 _ rfl
      have q0 := H.out.rs.cell 0 _ rfl
      have qf0 := H.out.rs.free 0
      have q1 := H.out.rs.cell 1 _ rfl
      have qf1 := H.out.rs.free 1
      have q2 := H.out.rs.cell 2 _ rfl
      have qf2 := H.out.rs.free 2
      have q3 := H.out.rs.cell 3 _ rfl
      have qf3 := H.out.rs.free 3
      go_wp2_with fail
      replace H := Lib.hid ((((H.out.put 0 (.int .i64 1)).put 1 (.int .i64 i)).put 2 (.bool false)).put 3 (.bool false))
      clear q0 q1 q2 q3 qf0 qf1 qf2 qf3
      revert H
      generalize (World.setCell (World.setCell (World.setCell (World.setCell wd _ _) _ _) _ _) _ _) = wz
      intro H
      have z0 := H.out.rs.cell 0 _ rfl
      have z1 := H.out.rs.cell 1 _ rfl
      have z2 := H.out.rs.cell 2 _ rfl
      have z3 := H.out.rs.cell 3 _ rfl
      exact bodyPost_ret (v := .agg #[.int .i64 1, .int .i64 i, .bool false, .bool false]) (by simp [results, Try.results132, go_sem, z0, z1, z2, z3]) rfl ⟨rfl, H.out.bel⟩
    · skip
      have H0 := Lib.hid (BR.start w 58 #[.int .i64 1, .int .i64 i, .bool h, .bool r] #[.int .i64 0, .int .i64 0, .bool false, .bool false])
      obtain ⟨wb, hwb⟩ : ∃ wb, (w.alloc (.cells #[.int .i64 1, .int .i64 i, .bool h, .bool r] 58)).alloc (.cells #[.int .i64 0, .int .i64 0, .bool false, .bool false] 58) = wb := ⟨_, rfl⟩
      rw [hwb] at H0
      have H := H0
      clear H0
      have HWB := Lib.hid hwb
      clear hwb
      go_enter Try.func132, Try.ntmps132
      go_upto_region 1 with fail
      rw [HWB.out]
      clear HWB
      have p0 := H.out.bx.cell 0 _ rfl
      have p1 := H.out.bx.cell 1 _ rfl
      have p2 := H.out.bx.cell 2 _ rfl
      have p3 := H.out.bx.cell 3 _ rfl
      have pf2 := H.out.bx.free 2
      go_upto_region 3 with fail
      replace H := Lib.hid (H.out.set 2 (.bool true))
      clear p0 p1 p2 p3 pf2
      revert H
      generalize (World.setCell wb _ _) = wc
      intro H
      have p0 := H.out.bx.cell 0 _ rfl
      have p1 := H.out.bx.cell 1 _ rfl
      have p2 := H.out.bx.cell 2 _ rfl
      have p3 := H.out.bx.cell 3 _ rfl
      have pf3 := H.out.bx.free 3
      go_upto_region 7 with fail
      replace H := Lib.hid (H.out.set 3 (.bool true))
      clear p0 p1 p2 p3 pf3
      revert H
      generalize (World.setCell wc _ _) = wd
      intro H
      have p0 := H.out.bx.cell 0 _ rfl
      have p1 := H.out.bx.cell 1 _ rfl
      have p2 := H.out.bx.cell 2 _ rfl
      have p3 := H.out.bx.cell 3 _ rfl
      have q0 := H.out.rs.cell 0 _ rfl
      have qf0 := H.out.rs.free 0
      have q1 := H.out.rs.cell 1 _ rfl
      have qf1 := H.out.rs.free 1
      have q2 := H.out.rs.cell 2 _ rfl
      have qf2 := H.out.rs.free 2
      have q3 := H.out.rs.cell 3 _ rfl
      have qf3 := H.out.rs.free 3
      go_wp2_with fail
      replace H := Lib.hid ((((H.out.put 0 (.int .i64 1)).put 1 (.int .i64 i)).put 2 (.bool true)).put 3 (.bool true))
      clear q0 q1 q2 q3 qf0 qf1 qf2 qf3
      revert H
      generalize (World.setCell (World.setCell (World.setCell (World.setCell wd _ _) _ _) _ _) _ _) = wz
      intro H
      have z0 := H.out.rs.cell 0 _ rfl
      have z1 := H.out.rs.cell 1 _ rfl
      have z2 := H.out.rs.cell 2 _ rfl
      have z3 := H.out.rs.cell 3 _ rfl
      exact bodyPost_ret (v := .agg #[.int .i64 1, .int .i64 i, .bool true, .bool true]) (by simp [results, Try.results132, go_sem, z0, z1, z2, z3]) rfl ⟨rfl, H.out.bel⟩
  rw [if_neg h1] at hq
  subst hq
  have t1 : (k == 1) = false := by simpa using h1
  clear h1
  cases g
  · skip
    rw [show (r || (false && !h)) = r by simp]
    have H0 := Lib.hid (BR.start w 58 #[.int .i64 k, .int .i64 i, .bool h, .bool r] #[.int .i64 0, .int .i64 0, .bool false, .bool false])
    obtain ⟨wb, hwb⟩ : ∃ wb, (w.alloc (.cells #[.int .i64 k, .int .i64 i, .bool h, .bool r] 58)).alloc (.cells #[.int .i64 0, .int .i64 0, .bool false, .bool false] 58) = wb := ⟨_, rfl⟩
    rw [hwb] at H0
    have H := H0
    clear H0
    have HWB := Lib.hid hwb
    clear hwb
    go_enter Try.func132, Try.ntmps132
    go_upto_region 1 with fail
    rw [HWB.out]
    clear HWB
    have p0 := H.out.bx.cell 0 _ rfl
    have p1 := H.out.bx.cell 1 _ rfl
    have p2 := H.out.bx.cell 2 _ rfl
    have p3 := H.out.bx.cell 3 _ rfl
    have pf2 := H.out.bx.free 2
    go_upto_region 3 with fail
    replace H := Lib.hid (H.out.set 2 (.bool false))
    clear p0 p1 p2 p3 pf2
    revert H
    generalize (World.setCell wb _ _) = wc
    intro H
    have p0 := H.out.bx.cell 0 _ rfl
    have p1 := H.out.bx.cell 1 _ rfl
    have p2 := H.out.bx.cell 2 _ rfl
    have p3 := H.out.bx.cell 3 _ rfl
    have pf3 := H.out.bx.free 3
    have q0 := H.out.rs.cell 0 _ rfl
    have qf0 := H.out.rs.free 0
    have q1 := H.out.rs.cell 1 _ rfl
    have qf1 := H.out.rs.free 1
    have q2 := H.out.rs.cell 2 _ rfl
    have qf2 := H.out.rs.free 2
    have q3 := H.out.rs.cell 3 _ rfl
    have qf3 := H.out.rs.free 3
    go_wp2_with fail
    replace H := Lib.hid ((((H.out.put 0 (.int .i64 k)).put 1 (.int .i64 i)).put 2 (.bool false)).put 3 (.bool r))
    clear q0 q1 q2 q3 qf0 qf1 qf2 qf3
    revert H
    generalize (World.setCell (World.setCell (World.setCell (World.setCell wc _ _) _ _) _ _) _ _) = wz
    intro H
    have z0 := H.out.rs.cell 0 _ rfl
    have z1 := H.out.rs.cell 1 _ rfl
    have z2 := H.out.rs.cell 2 _ rfl
    have z3 := H.out.rs.cell 3 _ rfl
    exact bodyPost_ret (v := .agg #[.int .i64 k, .int .i64 i, .bool false, .bool r]) (by simp [results, Try.results132, go_sem, z0, z1, z2, z3]) rfl ⟨rfl, H.out.bel⟩
  · cases h
    · rw [show (r || (true && !false)) = true by simp]
      have H0 := Lib.hid (BR.start w 58 #[.int .i64 k, .int .i64 i, .bool false, .bool r] #[.int .i64 0, .int .i64 0, .bool false, .bool false])
      obtain ⟨wb, hwb⟩ : ∃ wb, (w.alloc (.cells #[.int .i64 k, .int .i64 i, .bool false, .bool r] 58)).alloc (.cells #[.int .i64 0, .int .i64 0, .bool false, .bool false] 58) = wb := ⟨_, rfl⟩
      rw [hwb] at H0
      have H := H0
      clear H0
      have HWB := Lib.hid hwb
      clear hwb
      go_enter Try.func132, Try.ntmps132
      go_upto_region 1 with fail
      rw [HWB.out]
      clear HWB
      have p0 := H.out.bx.cell 0 _ rfl
      have p1 := H.out.bx.cell 1 _ rfl
      have p2 := H.out.bx.cell 2 _ rfl
      have p3 := H.out.bx.cell 3 _ rfl
      have pf2 := H.out.bx.free 2
      go_upto_region 3 with fail
      replace H := Lib.hid (H.out.set 2 (.bool true))
      clear p0 p1 p2 p3 pf2
      revert H
      generalize (World.setCell wb _ _) = wc
      intro H
      have p0 := H.out.bx.cell 0 _ rfl
      have p1 := H.out.bx.cell 1 _ rfl
      have p2 := H.out.bx.cell 2 _ rfl
      have p3 := H.out.bx.cell 3 _ rfl
      have pf3 := H.out.bx.free 3
      go_upto_region 7 with fail
      replace H := Lib.hid (H.out.set 3 (.bool true))
      clear p0 p1 p2 p3 pf3
      revert H
      generalize (World.setCell wc _ _) = wd
      intro H
      have p0 := H.out.bx.cell 0 _ rfl
      have p1 := H.out.bx.cell 1 _ rfl
      have p2 := H.out.bx.cell 2 _ rfl
      have p3 := H.out.bx.cell 3 _ rfl
      have q0 := H.out.rs.cell 0 _ rfl
      have qf0 := H.out.rs.free 0
      have q1 := H.out.rs.cell 1 _ rfl
      have qf1 := H.out.rs.free 1
      have q2 := H.out.rs.cell 2 _ rfl
      have qf2 := H.out.rs.free 2
      have q3 := H.out.rs.cell 3 _ rfl
      have qf3 := H.out.rs.free 3
      go_wp2_with fail
      replace H := Lib.hid ((((H.out.put 0 (.int .i64 k)).put 1 (.int .i64 i)).put 2 (.bool true)).put 3 (.bool true))
      clear q0 q1 q2 q3 qf0 qf1 qf2 qf3
      revert H
      generalize (World.setCell (World.setCell (World.setCell (World.setCell wd _ _) _ _) _ _) _ _) = wz
      intro H
      have z0 := H.out.rs.cell 0 _ rfl
      have z1 := H.out.rs.cell 1 _ rfl
      have z2 := H.out.rs.cell 2 _ rfl
      have z3 := H.out.rs.cell 3 _ rfl
      exact bodyPost_ret (v := .agg #[.int .i64 k, .int .i64 i, .bool true, .bool true]) (by simp [results, Try.results132, go_sem, z0, z1, z2, z3]) rfl ⟨rfl, H.out.bel⟩
    · rw [show (r || (true && !true)) = r by simp]
      have H0 := Lib.hid (BR.start w 58 #[.int .i64 k, .int .i64 i, .bool true, .bool r] #[.int .i64 0, .int .i64 0, .bool false, .bool false])
      obtain ⟨wb, hwb⟩ : ∃ wb, (w.alloc (.cells #[.int .i64 k, .int .i64 i, .bool true, .bool r] 58)).alloc (.cells #[.int .i64 0, .int .i64 0, .bool false, .bool false] 58) = wb := ⟨_, rfl⟩
      rw [hwb] at H0
      have H := H0
      clear H0
      have HWB := Lib.hid hwb
      clear hwb
      go_enter Try.func132, Try.ntmps132
      go_upto_region 1 with fail
      rw [HWB.out]
      clear HWB
      have p0 := H.out.bx.cell 0 _ rfl
      have p1 := H.out.bx.cell 1 _ rfl
      have p2 := H.out.bx.cell 2 _ rfl
      have p3 := H.out.bx.cell 3 _ rfl
      have pf2 := H.out.bx.free 2
      go_upto_region 3 with fail
      replace H := Lib.hid (H.out.set 2 (.bool true))
      clear p0 p1 p2 p3 pf2
      revert H
      generalize (World.setCell wb _ _) = wc
      intro H
      have p0 := H.out.bx.cell 0 _ rfl
      have p1 := H.out.bx.cell 1 _ rfl
      have p2 := H.out.bx.cell 2 _ rfl
      have p3 := H.out.bx.cell 3 _ rfl
      have pf3 := H.out.bx.free 3
      have q0 := H.out.rs.cell 0 _ rfl
      have qf0 := H.out.rs.free 0
      have q1 := H.out.rs.cell 1 _ rfl
      have qf1 := H.out.rs.free 1
      have q2 := H.out.rs.cell 2 _ rfl
      have qf2 := H.out.rs.free 2
      have q3 := H.out.rs.cell 3 _ rfl
      have qf3 := H.out.rs.free 3
      go_wp2_with fail
      replace H := Lib.hid ((((H.out.put 0 (.int .i64 k)).put 1 (.int .i64 i)).put 2 (.bool true)).put 3 (.bool r))
      clear q0 q1 q2 q3 qf0 qf1 qf2 qf3
      revert H
      generalize (World.setCell (World.setCell (World.setCell (World.setCell wc _ _) _ _) _ _) _ _) = wz
      intro H
      have z0 := H.out.rs.cell 0 _ rfl
      have z1 := H.out.rs.cell 1 _ rfl
      have z2 := H.out.rs.cell 2 _ rfl
      have z3 := H.out.rs.cell 3 _ rfl
      exact bodyPost_ret (v := .agg #[.int .i64 k, .int .i64 i, .bool true, .bool r]) (by simp [results, Try.results132, go_sem, z0, z1, z2, z3]) rfl ⟨rfl, H.out.bel⟩
set_option maxRecDepth 100000 in
set_option maxHeartbeats 2000000 in
theorem implDrive_any (k i : Int) (h r g : Bool) (g0 g1 : Int) (g2 g3 b : Bool) (w : World) (ha : drAns ⟨k, i, h, r⟩ g = (⟨g0, g1, g2, g3⟩, b)) :
    Calls Try.prog 49 #[.agg #[.int .i64 k, .int .i64 i, .bool h, .bool r], .bool g] w fun e w' => e = .returned (.tuple #[.agg #[.int .i64 g0, .int .i64 g1, .bool g2, .bool g3], .bool b]) ∧ Below w.heap.size w w' := by
  by_cases hx : Ok ⟨k, i, h, r⟩
  · obtain ⟨h1, rfl⟩ := drAns_yes ha hx
    have HX := Lib.hid (decide_eq_true hx)
    clear hx ha
    simp only [drv, Lin.mk.injEq] at h1
    obtain ⟨rfl, rfl, rfl, h4⟩ := h1
    have H4 := Lib.hid h4.symm
    clear h4
    have H0 := Lib.hid (BR.start w 58 #[.int .i64 g0, .int .i64 g1, .bool h, .bool r] #[.int .i64 0, .int .i64 0, .bool false, .bool false])
    obtain ⟨wb, hwb⟩ : ∃ wb, (w.alloc (.cells #[.int .i64 g0, .int .i64 g1, .bool h, .bool r] 58)).alloc (.cells #[.int .i64 0, .int .i64 0, .bool false, .bool false] 58) = wb := ⟨_, rfl⟩
    rw [hwb] at H0
    have H := H0
    clear H0
    have HWB := Lib.hid hwb
    clear hwb
    go_enter Try.func49, Try.ntmps49
    go_upto_region 1 with fail
    rw [HWB.out]
    clear HWB
    have p0 := H.out.bx.cell 0 _ rfl
    have p1 := H.out.bx.cell 1 _ rfl
    have p2 := H.out.bx.cell 2 _ rfl
    have p3 := H.out.bx.cell 3 _ rfl
    go_wp2_with fail
    refine (isLine_c _ _ _ _ _ HX.out _).mono ?_
    rintro e w1 ⟨rfl, hb⟩
    replace H := Lib.hid (H.out.below hb)
    clear hb p0 p1 p2 p3
    have p0 := H.out.bx.cell 0 _ rfl
    have p1 := H.out.bx.cell 1 _ rfl
    have p2 := H.out.bx.cell 2 _ rfl
    have p3 := H.out.bx.cell 3 _ rfl
    go_wp2_with fail
    refine (driven_c g0 g1 h r g2 g3 H4.out _).mono ?_
    rintro e w2 ⟨rfl, hb⟩
    replace H := Lib.hid (H.out.below hb)
    clear hb p0 p1 p2 p3
    have q0 := H.out.rs.cell 0 _ rfl
    have qf0 := H.out.rs.free 0
    have q1 := H.out.rs.cell 1 _ rfl
    have qf1 := H.out.rs.free 1
    have q2 := H.out.rs.cell 2 _ rfl
    have qf2 := H.out.rs.free 2
    have q3 := H.out.rs.cell 3 _ rfl
    have qf3 := H.out.rs.free 3
    go_wp2_with fail
    replace H := Lib.hid ((((H.out.put 0 (.int .i64 g0)).put 1 (.int .i64 g1)).put 2 (.bool g2)).put 3 (.bool g3))
    clear q0 q1 q2 q3 qf0 qf1 qf2 qf3
    revert H
    generalize (World.setCell (World.setCell (World.setCell (World.setCell w2 _ _) _ _) _ _) _ _) = wz
    intro H
    have z0 := H.out.rs.cell 0 _ rfl
    have z1 := H.out.rs.cell 1 _ rfl
    have z2 := H.out.rs.cell 2 _ rfl
    have z3 := H.out.rs.cell 3 _ rfl
    exact bodyPost_ret (v := .tuple #[.agg #[.int .i64 g0, .int .i64 g1, .bool g2, .bool g3], .bool true]) (by simp [results, Try.results49, go_sem, z0, z1, z2, z3]) rfl ⟨rfl, H.out.bel⟩
  · obtain ⟨h1, rfl⟩ := drAns_no ha hx
    have HX := Lib.hid (decide_eq_false hx)
    clear hx ha
    simp only [noLin, Lin.mk.injEq] at h1
    obtain ⟨rfl, rfl, rfl, rfl⟩ := h1
    have H0 := Lib.hid (BR.start w 58 #[.int .i64 k, .int .i64 i, .bool h, .bool r] #[.int .i64 0, .int .i64 0, .bool false, .bool false])
    obtain ⟨wb, hwb⟩ : ∃ wb, (w.alloc (.cells #[.int .i64 k, .int .i64 i, .bool h, .bool r] 58)).alloc (.cells #[.int .i64 0, .int .i64 0, .bool false, .bool false] 58) = wb := ⟨_, rfl⟩
    rw [hwb] at H0
    have H := H0
    clear H0
    have HWB := Lib.hid hwb
    clear hwb
    go_enter Try.func49, Try.ntmps49
    go_upto_region 1 with fail
    rw [HWB.out]
    clear HWB
    have p0 := H.out.bx.cell 0 _ rfl
    have p1 := H.out.bx.cell 1 _ rfl
    have p2 := H.out.bx.cell 2 _ rfl
    have p3 := H.out.bx.cell 3 _ rfl
    go_wp2_with fail
    refine (isLine_c _ _ _ _ _ HX.out _).mono ?_
    rintro e w1 ⟨rfl, hb⟩
    replace H := Lib.hid (H.out.below hb)
    clear hb p0 p1 p2 p3
    have q0 := H.out.rs.cell 0 _ rfl
    have qf0 := H.out.rs.free 0
    have q1 := H.out.rs.cell 1 _ rfl
    have qf1 := H.out.rs.free 1
    have q2 := H.out.rs.cell 2 _ rfl
    have qf2 := H.out.rs.free 2
    have q3 := H.out.rs.cell 3 _ rfl
    have qf3 := H.out.rs.free 3
    go_wp2_with fail
    replace H := Lib.hid ((((H.out.put 0 (.int .i64 0)).put 1 (.int .i64 0)).put 2 (.bool false)).put 3 (.bool false))
    clear q0 q1 q2 q3 qf0 qf1 qf2 qf3
    revert H
    generalize (World.setCell (World.setCell (World.setCell (World.setCell w1 _ _) _ _) _ _) _ _) = wz
    intro H
    have z0 := H.out.rs.cell 0 _ rfl
    have z1 := H.out.rs.cell 1 _ rfl
    have z2 := H.out.rs.cell 2 _ rfl
    have z3 := H.out.rs.cell 3 _ rfl
    exact bodyPost_ret (v := .tuple #[.agg #[.int .i64 0, .int .i64 0, .bool false, .bool false], .bool false]) (by simp [results, Try.results49, go_sem, z0, z1, z2, z3]) rfl ⟨rfl, H.out.bel⟩
set_option maxRecDepth 100000 in
set_option maxHeartbeats 2000000 in
theorem implTake_any (k i : Int) (h r : Bool) (g0 g1 : Int) (g2 g3 q b : Bool) (w : World) (ha : tkAns ⟨k, i, h, r⟩ = (⟨g0, g1, g2, g3⟩, q, b)) :
    Calls Try.prog 53 #[.agg #[.int .i64 k, .int .i64 i, .bool h, .bool r]] w fun e w' => e = .returned (.tuple #[.agg #[.int .i64 g0, .int .i64 g1, .bool g2, .bool g3], .bool q, .bool b]) ∧ Below w.heap.size w w' := by
  by_cases hx : Ok ⟨k, i, h, r⟩
  · obtain ⟨h1, rfl, rfl⟩ := tkAns_yes ha hx
    have HX := Lib.hid (decide_eq_true hx)
    have hk := hx.1
    clear hx ha
    simp only [tak, Lin.mk.injEq] at h1 hk
    obtain ⟨rfl, rfl, rfl, h4⟩ := h1
    rcases hk with rfl | rfl
    · skip
      simp at h4
      subst h4
      have H0 := Lib.hid (BR.start w 58 #[.int .i64 0, .int .i64 g1, .bool g2, .bool q] #[.int .i64 0, .int .i64 0, .bool false, .bool false])
      obtain ⟨wb, hwb⟩ : ∃ wb, (w.alloc (.cells #[.int .i64 0, .int .i64 g1, .bool g2, .bool q] 58)).alloc (.cells #[.int .i64 0, .int .i64 0, .bool false, .bool false] 58) = wb := ⟨_, rfl⟩
      rw [hwb] at H0
      have H := H0
      clear H0
      have HWB := Lib.hid hwb
      clear hwb
      go_enter Try.func53, Try.ntmps53
      go_upto_region 1 with fail
      rw [HWB.out]
      clear HWB
      have p0 := H.out.bx.cell 0 _ rfl
      have p1 := H.out.bx.cell 1 _ rfl
      have p2 := H.out.bx.cell 2 _ rfl
      have p3 := H.out.bx.cell 3 _ rfl
      go_wp2_with fail
      refine (isLine_c _ _ _ _ _ HX.out _).mono ?_
      rintro e w1 ⟨rfl, hb⟩
      replace H := Lib.hid (H.out.below hb)
      clear hb p0 p1 p2 p3
      have p0 := H.out.bx.cell 0 _ rfl
      have p1 := H.out.bx.cell 1 _ rfl
      have p2 := H.out.bx.cell 2 _ rfl
      have p3 := H.out.bx.cell 3 _ rfl
      have pf3 := H.out.bx.free 3
      go_upto_region 6 with fail
      replace H := Lib.hid (H.out.set 3 (.bool false))
      clear p0 p1 p2 p3 pf3
      revert H
      generalize (World.setCell w1 _ _) = wd
      intro H
      have p0 := H.out.bx.cell 0 _ rfl
      have p1 := H.out.bx.cell 1 _ rfl
      have p2 := H.out.bx.cell 2 _ rfl
      have p3 := H.out.bx.cell 3 _ rfl
      have q0 := H.out.rs.cell 0 _ rfl
      have qf0 := H.out.rs.free 0
      have q1 := H.out.rs.cell 1 _ rfl
      have qf1 := H.out.rs.free 1
      have q2 := H.out.rs.cell 2 _ rfl
      have qf2 := H.out.rs.free 2
      have q3 := H.out.rs.cell 3 _ rfl
      have qf3 := H.out.rs.free 3
      go_wp2_with fail
      replace H := Lib.hid ((((H.out.put 0 (.int .i64 0)).put 1 (.int .i64 g1)).put 2 (.bool g2)).put 3 (.bool false))
      clear q0 q1 q2 q3 qf0 qf1 qf2 qf3
      revert H
      generalize (World.setCell (World.setCell (World.setCell (World.setCell wd _ _) _ _) _ _) _ _) = wz
      intro H
      have z0 := H.out.rs.cell 0 _ rfl
      have z1 := H.out.rs.cell 1 _ rfl
      have z2 := H.out.rs.cell 2 _ rfl
      have z3 := H.out.rs.cell 3 _ rfl
      exact bodyPost_ret (v := .tuple #[.agg #[.int .i64 0, .int .i64 g1, .bool g2, .bool false], .bool q, .bool true]) (by simp [results, Try.results53, go_sem, z0, z1, z2, z3]) rfl ⟨rfl, H.out.bel⟩
    · skip
      simp at h4
      subst h4
      have H0 := Lib.hid (BR.start w 58 #[.int .i64 1, .int .i64 g1, .bool g2, .bool g3] #[.int .i64 0, .int .i64 0, .bool false, .bool false])
      obtain ⟨wb, hwb⟩ : ∃ wb, (w.alloc (.cells #[.int .i64 1, .int .i64 g1, .bool g2, .bool g3] 58)).alloc (.cells #[.int .i64 0, .int .i64 0, .bool false, .bool false] 58) = wb := ⟨_, rfl⟩
      rw [hwb] at H0
      have H := H0
      clear H0
      have HWB := Lib.hid hwb
      clear hwb
      go_enter Try.func53, Try.ntmps53
      go_upto_region 1 with fail
      rw [HWB.out]
      clear HWB
      have p0 := H.out.bx.cell 0 _ rfl
      have p1 := H.out.bx.cell 1 _ rfl
      have p2 := H.out.bx.cell 2 _ rfl
      have p3 := H.out.bx.cell 3 _ rfl
      go_wp2_with fail
      refine (isLine_c _ _ _ _ _ HX.out _).mono ?_
      rintro e w1 ⟨rfl, hb⟩
      replace H := Lib.hid (H.out.below hb)
      clear hb p0 p1 p2 p3
      have p0 := H.out.bx.cell 0 _ rfl
      have p1 := H.out.bx.cell 1 _ rfl
      have p2 := H.out.bx.cell 2 _ rfl
      have p3 := H.out.bx.cell 3 _ rfl
      have pf3 := H.out.bx.free 3
      go_upto_region 6 with fail
      have q0 := H.out.rs.cell 0 _ rfl
      have qf0 := H.out.rs.free 0
      have q1 := H.out.rs.cell 1 _ rfl
      have qf1 := H.out.rs.free 1
      have q2 := H.out.rs.cell 2 _ rfl
      have qf2 := H.out.rs.free 2
      have q3 := H.out.rs.cell 3 _ rfl
      have qf3 := H.out.rs.free 3
      go_wp2_with fail
      replace H := Lib.hid ((((H.out.put 0 (.int .i64 1)).put 1 (.int .i64 g1)).put 2 (.bool g2)).put 3 (.bool g3))
      clear q0 q1 q2 q3 qf0 qf1 qf2 qf3
      revert H
      generalize (World.setCell (World.setCell (World.setCell (World.setCell w1 _ _) _ _) _ _) _ _) = wz
      intro H
      have z0 := H.out.rs.cell 0 _ rfl
      have z1 := H.out.rs.cell 1 _ rfl
      have z2 := H.out.rs.cell 2 _ rfl
      have z3 := H.out.rs.cell 3 _ rfl
      exact bodyPost_ret (v := .tuple #[.agg #[.int .i64 1, .int .i64 g1, .bool g2, .bool g3], .bool g3, .bool true]) (by simp [results, Try.results53, go_sem, z0, z1, z2, z3]) rfl ⟨rfl, H.out.bel⟩
  · obtain ⟨h1, rfl, rfl⟩ := tkAns_no ha hx
    have HX := Lib.hid (decide_eq_false hx)
    clear hx ha
    simp only [noLin, Lin.mk.injEq] at h1
    obtain ⟨rfl, rfl, rfl, rfl⟩ := h1
    have H0 := Lib.hid (BR.start w 58 #[.int .i64 k, .int .i64 i, .bool h, .bool r] #[.int .i64 0, .int .i64 0, .bool false, .bool false])
    obtain ⟨wb, hwb⟩ : ∃ wb, (w.alloc (.cells #[.int .i64 k, .int .i64 i, .bool h, .bool r] 58)).alloc (.cells #[.int .i64 0, .int .i64 0, .bool false, .bool false] 58) = wb := ⟨_, rfl⟩
    rw [hwb] at H0
    have H := H0
    clear H0
    have HWB := Lib.hid hwb
    clear hwb
    go_enter Try.func53, Try.ntmps53
    go_upto_region 1 with fail
    rw [HWB.out]
    clear HWB
    have p0 := H.out.bx.cell 0 _ rfl
    have p1 := H.out.bx.cell 1 _ rfl
    have p2 := H.out.bx.cell 2 _ rfl
    have p3 := H.out.bx.cell 3 _ rfl
    go_wp2_with fail
    refine (isLine_c _ _ _ _ _ HX.out _).mono ?_
    rintro e w1 ⟨rfl, hb⟩
    replace H := Lib.hid (H.out.below hb)
    clear hb p0 p1 p2 p3
    have q0 := H.out.rs.cell 0 _ rfl
    have qf0 := H.out.rs.free 0
    have q1 := H.out.rs.cell 1 _ rfl
    have qf1 := H.out.rs.free 1
    have q2 := H.out.rs.cell 2 _ rfl
    have qf2 := H.out.rs.free 2
    have q3 := H.out.rs.cell 3 _ rfl
    have qf3 := H.out.rs.free 3
    go_wp2_with fail
    replace H := Lib.hid ((((H.out.put 0 (.int .i64 0)).put 1 (.int .i64 0)).put 2 (.bool false)).put 3 (.bool false))
    clear q0 q1 q2 q3 qf0 qf1 qf2 qf3
    revert H
    generalize (World.setCell (World.setCell (World.setCell (World.setCell w1 _ _) _ _) _ _) _ _) = wz
    intro H
    have z0 := H.out.rs.cell 0 _ rfl
    have z1 := H.out.rs.cell 1 _ rfl
    have z2 := H.out.rs.cell 2 _ rfl
    have z3 := H.out.rs.cell 3 _ rfl
    exact bodyPost_ret (v := .tuple #[.agg #[.int .i64 0, .int .i64 0, .bool false, .bool false], .bool false, .bool false]) (by simp [results, Try.results53, go_sem, z0, z1, z2, z3]) rfl ⟨rfl, H.out.bel⟩
end Go.Proofs.Ytfdbnolifimnhaa.L7
