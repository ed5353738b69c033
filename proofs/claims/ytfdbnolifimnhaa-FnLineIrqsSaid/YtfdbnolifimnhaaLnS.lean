/- What chapter 7's functions on one line answer, of spec, and AreLines. -/
import Derived.Test.YtfdbnolifimnhaaLnT
import Derived.Deep.RegionWith
namespace Go.Proofs.Ytfdbnolifimnhaa.L7
open Go Go.RowKit Go.Proofs.Ytfdbnolifimnhaa.Mem Go.Proofs.Ytfdbnolifimnhaa.Own Go.Proofs.Ytfdbnolifimnhaa.L6
set_option maxRecDepth 100000 in
set_option maxHeartbeats 2000000 in
theorem specIs_c (k i : Int) (h r : Bool) (b : Bool) (hb : decide (Ok ⟨k, i, h, r⟩) = b) (w : World) :
    Calls Try.prog 75 #[.agg #[.int .i64 k, .int .i64 i, .bool h, .bool r]] w fun e w' => e = .returned (.bool b) ∧ Below w.heap.size w w' := by
  have p := Blk.new w #[.int .i64 k, .int .i64 i, .bool h, .bool r] 58
  have p0 := p.cell 0 _ rfl
  have p1 := p.cell 1 _ rfl
  have p2 := p.cell 2 _ rfl
  have p3 := p.cell 3 _ rfl
  clear p
  go_enter Try.func75, Try.ntmps75
  go_wp2_with fail
  refine (l7One_c _ _ _ _ _ hb _).mono ?_
  rintro e w1 ⟨rfl, hb1⟩
  clear p0 p1 p2 p3
  go_wp2_with fail
  go_ret
  exact ⟨rfl, below_then (below_more (Below.refl _ _) _) hb1⟩
set_option maxRecDepth 100000 in
set_option maxHeartbeats 2000000 in
theorem specAre_any (A : Option Addr) (n c B : Nat) (xs : List Lin) (w : World) (hr : Reads w B 4 A n (FL xs)) (hB : B ≤ w.heap.size) (hn : n ≤ 1048576) (b : Bool) (h : decide (OkL xs) = b) :
    Calls Try.prog 78 #[.slice A n c] w fun e w' => e = .returned (.bool b) ∧ Below w.heap.size w w' := by
  have HR := Lib.hid hr
  clear hr
  go_enter Try.func78, Try.ntmps78
  go_wp2_with fail
  refine (l7Good_any A n c B xs _ HR.out hB hn b h).mono ?_
  rintro e w1 ⟨rfl, hb⟩
  go_wp2_with fail
  go_ret
  exact ⟨rfl, hb⟩
set_option maxRecDepth 100000 in
set_option maxHeartbeats 2000000 in
theorem l7Drive_c (k i : Int) (h r g q : Bool) (hk : k = 0 ∨ k = 1) (hq : (if k = 1 then g else (r || (g && !h))) = q) (w : World) :
    Calls Try.prog 134 #[.agg #[.int .i64 k, .int .i64 i, .bool h, .bool r], .bool g] w fun e w' => e = .returned (.agg #[.int .i64 k, .int .i64 i, .bool g, .bool q]) ∧ Below w.heap.size w w' := by
  rcases hk with rfl | rfl
  · rw [if_neg (by decide)] at hq
    subst hq
    cases r
    · cases g
      · cases h
        · skip
          rw [show (false || (false && !false)) = false from rfl]
          have H0 := Lib.hid (BR.start w 58 #[.int .i64 0, .int .i64 i, .bool false, .bool false] #[.int .i64 0, .int .i64 0, .bool false, .bool false])
          obtain ⟨wb, hwb⟩ : ∃ wb, (w.alloc (.cells #[.int .i64 0, .int .i64 i, .bool false, .bool false] 58)).alloc (.cells #[.int .i64 0, .int .i64 0, .bool false, .bool false] 58) = wb := ⟨_, rfl⟩
          rw [hwb] at H0
          have H := H0
          clear H0
          have HWB := Lib.hid hwb
          clear hwb
          go_enter Try.func134, Try.ntmps134
          go_upto_region 1 with fail
          rw [HWB.out]
          clear HWB
          have p0 := H.out.bx.cell 0 _ rfl
          have p1 := H.out.bx.cell 1 _ rfl
          have p2 := H.out.bx.cell 2 _ rfl
          have p3 := H.out.bx.cell 3 _ rfl
          have q0 := H.out.rs.cell 0 _ rfl
          have qf0 := H.out.rs.free 0
          have q1 := H.out.rs.cell 1 _ rfl
          have qf1 := H.out.rs.free 1
          have q2 := H.out.rs.cell 2 _ rfl
          have qf2 := H.out.rs.free 2
          have q3 := H.out.rs.cell 3 _ rfl
          have qf3 := H.out.rs.free 3
          go_wp2_with fail
          replace H := Lib.hid ((((H.out.put 0 (.int .i64 0)).put 1 (.int .i64 i)).put 2 (.bool false)).put 3 (.bool false))
          clear q0 q1 q2 q3 qf0 qf1 qf2 qf3
          revert H
          generalize (World.setCell (World.setCell (World.setCell (World.setCell wb _ _) _ _) _ _) _ _) = wz
          intro H
          have z0 := H.out.rs.cell 0 _ rfl
          have z1 := H.out.rs.cell 1 _ rfl
          have z2 := H.out.rs.cell 2 _ rfl
          have z3 := H.out.rs.cell 3 _ rfl
          exact bodyPost_ret (v := .agg #[.int .i64 0, .int .i64 i, .bool false, .bool false]) (by simp [results, Try.results134, go_sem, z0, z1, z2, z3]) rfl ⟨rfl, H.out.bel⟩
        · skip
          rw [show (false || (false && !true)) = false from rfl]
          have H0 := Lib.hid (BR.start w 58 #[.int .i64 0, .int .i64 i, .bool true, .bool false] #[.int .i64 0, .int .i64 0, .bool false, .bool false])
          obtain ⟨wb, hwb⟩ : ∃ wb, (w.alloc (.cells #[.int .i64 0, .int .i64 i, .bool true, .bool false] 58)).alloc (.cells #[.int .i64 0, .int .i64 0, .bool false, .bool false] 58) = wb := ⟨_, rfl⟩
          rw [hwb] at H0
          have H := H0
          clear H0
          have HWB := Lib.hid hwb
          clear hwb
          go_enter Try.func134, Try.ntmps134
          go_upto_region 1 with fail
          rw [HWB.out]
          clear HWB
          have p0 := H.out.bx.cell 0 _ rfl
          have p1 := H.out.bx.cell 1 _ rfl
          have p2 := H.out.bx.cell 2 _ rfl
          have p3 := H.out.bx.cell 3 _ rfl
          have q0 := H.out.rs.cell 0 _ rfl
          have qf0 := H.out.rs.free 0
          have q1 := H.out.rs.cell 1 _ rfl
          have qf1 := H.out.rs.free 1
          have q2 := H.out.rs.cell 2 _ rfl
          have qf2 := H.out.rs.free 2
          have q3 := H.out.rs.cell 3 _ rfl
          have qf3 := H.out.rs.free 3
          go_wp2_with fail
          replace H := Lib.hid ((((H.out.put 0 (.int .i64 0)).put 1 (.int .i64 i)).put 2 (.bool false)).put 3 (.bool false))
          clear q0 q1 q2 q3 qf0 qf1 qf2 qf3
          revert H
          generalize (World.setCell (World.setCell (World.setCell (World.setCell wb _ _) _ _) _ _) _ _) = wz
          intro H
          have z0 := H.out.rs.cell 0 _ rfl
          have z1 := H.out.rs.cell 1 _ rfl
          have z2 := H.out.rs.cell 2 _ rfl
          have z3 := H.out.rs.cell 3 _ rfl
          exact bodyPost_ret (v := .agg #[.int .i64 0, .int .i64 i, .bool false, .bool false]) (by simp [results, Try.results134, go_sem, z0, z1, z2, z3]) rfl ⟨rfl, H.out.bel⟩
      · cases h
        · skip
          rw [show (false || (true && !false)) = true from rfl]
          have H0 := Lib.hid (BR.start w 58 #[.int .i64 0, .int .i64 i, .bool false, .bool false] #[.int .i64 0, .int .i64 0, .bool false, .bool false])
          obtain ⟨wb, hwb⟩ : ∃ wb, (w.alloc (.cells #[.int .i64 0, .int .i64 i, .bool false, .bool false] 58)).alloc (.cells #[.int .i64 0, .int .i64 0, .bool false, .bool false] 58) = wb := ⟨_, rfl⟩
          rw [hwb] at H0
          have H := H0
          clear H0
          have HWB := Lib.hid hwb
          clear hwb
          go_enter Try.func134, Try.ntmps134
          go_upto_region 1 with fail
          rw [HWB.out]
          clear HWB
          have p0 := H.out.bx.cell 0 _ rfl
          have p1 := H.out.bx.cell 1 _ rfl
          have p2 := H.out.bx.cell 2 _ rfl
          have p3 := H.out.bx.cell 3 _ rfl
          have q0 := H.out.rs.cell 0 _ rfl
          have qf0 := H.out.rs.free 0
          have q1 := H.out.rs.cell 1 _ rfl
          have qf1 := H.out.rs.free 1
          have q2 := H.out.rs.cell 2 _ rfl
          have qf2 := H.out.rs.free 2
          have q3 := H.out.rs.cell 3 _ rfl
          have qf3 := H.out.rs.free 3
          go_wp2_with fail
          replace H := Lib.hid ((((H.out.put 0 (.int .i64 0)).put 1 (.int .i64 i)).put 2 (.bool true)).put 3 (.bool true))
          clear q0 q1 q2 q3 qf0 qf1 qf2 qf3
          revert H
          generalize (World.setCell (World.setCell (World.setCell (World.setCell wb _ _) _ _) _ _) _ _) = wz
          intro H
          have z0 := H.out.rs.cell 0 _ rfl
          have z1 := H.out.rs.cell 1 _ rfl
          have z2 := H.out.rs.cell 2 _ rfl
          have z3 := H.out.rs.cell 3 _ rfl
          exact bodyPost_ret (v := .agg #[.int .i64 0, .int .i64 i, .bool true, .bool true]) (by simp [results, Try.results134, go_sem, z0, z1, z2, z3]) rfl ⟨rfl, H.out.bel⟩
        · skip
          rw [show (false || (true && !true)) = false from rfl]
          have H0 := Lib.hid (BR.start w 58 #[.int .i64 0, .int .i64 i, .bool true, .bool false] #[.int .i64 0, .int .i64 0, .bool false, .bool false])
          obtain ⟨wb, hwb⟩ : ∃ wb, (w.alloc (.cells #[.int .i64 0, .int .i64 i, .bool true, .bool false] 58)).alloc (.cells #[.int .i64 0, .int .i64 0, .bool false, .bool false] 58) = wb := ⟨_, rfl⟩
          rw [hwb] at H0
          have H := H0
          clear H0
          have HWB := Lib.hid hwb
          clear hwb
          go_enter Try.func134, Try.ntmps134
          go_upto_region 1 with fail
          rw [HWB.out]
          clear HWB
          have p0 := H.out.bx.cell 0 _ rfl
          have p1 := H.out.bx.cell 1 _ rfl
          have p2 := H.out.bx.cell 2 _ rfl
          have p3 := H.out.bx.cell 3 _ rfl
          have q0 := H.out.rs.cell 0 _ rfl
          have qf0 := H.out.rs.free 0
          have q1 := H.out.rs.cell 1 _ rfl
          have qf1 := H.out.rs.free 1
          have q2 := H.out.rs.cell 2 _ rfl
          have qf2 := H.out.rs.free 2
          have q3 := H.out.rs.cell 3 _ rfl
          have qf3 := H.out.rs.free 3
          go_wp2_with fail
          replace H := Lib.hid ((((H.out.put 0 (.int .i64 0)).put 1 (.int .i64 i)).put 2 (.bool true)).put 3 (.bool false))
          clear q0 q1 q2 q3 qf0 qf1 qf2 qf3
          revert H
          generalize (World.setCell (World.setCell (World.setCell (World.setCell wb _ _) _ _) _ _) _ _) = wz
          intro H
          have z0 := H.out.rs.cell 0 _ rfl
          have z1 := H.out.rs.cell 1 _ rfl
          have z2 := H.out.rs.cell 2 _ rfl
          have z3 := H.out.rs.cell 3 _ rfl
          exact bodyPost_ret (v := .agg #[.int .i64 0, .int .i64 i, .bool true, .bool false]) (by simp [results, Try.results134, go_sem, z0, z1, z2, z3]) rfl ⟨rfl, H.out.bel⟩
    · cases g
      · cases h
        · skip
          rw [show (true || (false && !false)) = true from rfl]
          have H0 := Lib.hid (BR.start w 58 #[.int .i64 0, .int .i64 i, .bool false, .bool true] #[.int .i64 0, .int .i64 0, .bool false, .bool false])
          obtain ⟨wb, hwb⟩ : ∃ wb, (w.alloc (.cells #[.int .i64 0, .int .i64 i, .bool false, .bool true] 58)).alloc (.cells #[.int .i64 0, .int .i64 0, .bool false, .bool false] 58) = wb := ⟨_, rfl⟩
          rw [hwb] at H0
          have H := H0
          clear H0
          have HWB := Lib.hid hwb
          clear hwb
          go_enter Try.func134, Try.ntmps134
          go_upto_region 1 with fail
          rw [HWB.out]
          clear HWB
          have p0 := H.out.bx.cell 0 _ rfl
          have p1 := H.out.bx.cell 1 _ rfl
          have p2 := H.out.bx.cell 2 _ rfl
          have p3 := H.out.bx.cell 3 _ rfl
          have q0 := H.out.rs.cell 0 _ rfl
          have qf0 := H.out.rs.free 0
          have q1 := H.out.rs.cell 1 _ rfl
          have qf1 := H.out.rs.free 1
          have q2 := H.out.rs.cell 2 _ rfl
          have qf2 := H.out.rs.free 2
          have q3 := H.out.rs.cell 3 _ rfl
          have qf3 := H.out.rs.free 3
          go_wp2_with fail
          replace H := Lib.hid ((((H.out.put 0 (.int .i64 0)).put 1 (.int .i64 i)).put 2 (.bool false)).put 3 (.bool true))
          clear q0 q1 q2 q3 qf0 qf1 qf2 qf3
          revert H
          generalize (World.setCell (World.setCell (World.setCell (World.setCell wb _ _) _ _) _ _) _ _) = wz
          intro H
          have z0 := H.out.rs.cell 0 _ rfl
          have z1 := H.out.rs.cell 1 _ rfl
          have z2 := H.out.rs.cell 2 _ rfl
          have z3 := H.out.rs.cell 3 _ rfl
          exact bodyPost_ret (v := .agg #[.int .i64 0, .int .i64 i, .bool false, .bool true]) (by simp [results, Try.results134, go_sem, z0, z1, z2, z3]) rfl ⟨rfl, H.out.bel⟩
        · skip
          rw [show (true || (false && !true)) = true from rfl]
          have H0 := Lib.hid (BR.start w 58 #[.int .i64 0, .int .i64 i, .bool true, .bool true] #[.int .i64 0, .int .i64 0, .bool false, .bool false])
          obtain ⟨wb, hwb⟩ : ∃ wb, (w.alloc (.cells #[.int .i64 0, .int .i64 i, .bool true, .bool true] 58)).alloc (.cells #[.int .i64 0, .int .i64 0, .bool false, .bool false] 58) = wb := ⟨_, rfl⟩
          rw [hwb] at H0
          have H := H0
          clear H0
          have HWB := Lib.hid hwb
          clear hwb
          go_enter Try.func134, Try.ntmps134
          go_upto_region 1 with fail
          rw [HWB.out]
          clear HWB
          have p0 := H.out.bx.cell 0 _ rfl
          have p1 := H.out.bx.cell 1 _ rfl
          have p2 := H.out.bx.cell 2 _ rfl
          have p3 := H.out.bx.cell 3 _ rfl
          have q0 := H.out.rs.cell 0 _ rfl
          have qf0 := H.out.rs.free 0
          have q1 := H.out.rs.cell 1 _ rfl
          have qf1 := H.out.rs.free 1
          have q2 := H.out.rs.cell 2 _ rfl
          have qf2 := H.out.rs.free 2
          have q3 := H.out.rs.cell 3 _ rfl
          have qf3 := H.out.rs.free 3
          go_wp2_with fail
          replace H := Lib.hid ((((H.out.put 0 (.int .i64 0)).put 1 (.int .i64 i)).put 2 (.bool false)).put 3 (.bool true))
          clear q0 q1 q2 q3 qf0 qf1 qf2 qf3
          revert H
          generalize (World.setCell (World.setCell (World.setCell (World.setCell wb _ _) _ _) _ _) _ _) = wz
          intro H
          have z0 := H.out.rs.cell 0 _ rfl
          have z1 := H.out.rs.cell 1 _ rfl
          have z2 := H.out.rs.cell 2 _ rfl
          have z3 := H.out.rs.cell 3 _ rfl
          exact bodyPost_ret (v := .agg #[.int .i64 0, .int .i64 i, .bool false, .bool true]) (by simp [results, Try.results134, go_sem, z0, z1, z2, z3]) rfl ⟨rfl, H.out.bel⟩
      · cases h
        · skip
          rw [show (true || (true && !false)) = true from rfl]
          have H0 := Lib.hid (BR.start w 58 #[.int .i64 0, .int .i64 i, .bool false, .bool true] #[.int .i64 0, .int .i64 0, .bool false, .bool false])
          obtain ⟨wb, hwb⟩ : ∃ wb, (w.alloc (.cells #[.int .i64 0, .int .i64 i, .bool false, .bool true] 58)).alloc (.cells #[.int .i64 0, .int .i64 0, .bool false, .bool false] 58) = wb := ⟨_, rfl⟩
          rw [hwb] at H0
          have H := H0
          clear H0
          have HWB := Lib.hid hwb
          clear hwb
          go_enter Try.func134, Try.ntmps134
          go_upto_region 1 with fail
          rw [HWB.out]
          clear HWB
          have p0 := H.out.bx.cell 0 _ rfl
          have p1 := H.out.bx.cell 1 _ rfl
          have p2 := H.out.bx.cell 2 _ rfl
          have p3 := H.out.bx.cell 3 _ rfl
          have q0 := H.out.rs.cell 0 _ rfl
          have qf0 := H.out.rs.free 0
          have q1 := H.out.rs.cell 1 _ rfl
          have qf1 := H.out.rs.free 1
          have q2 := H.out.rs.cell 2 _ rfl
          have qf2 := H.out.rs.free 2
          have q3 := H.out.rs.cell 3 _ rfl
          have qf3 := H.out.rs.free 3
          go_wp2_with fail
          replace H := Lib.hid ((((H.out.put 0 (.int .i64 0)).put 1 (.int .i64 i)).put 2 (.bool true)).put 3 (.bool true))
          clear q0 q1 q2 q3 qf0 qf1 qf2 qf3
          revert H
          generalize (World.setCell (World.setCell (World.setCell (World.setCell wb _ _) _ _) _ _) _ _) = wz
          intro H
          have z0 := H.out.rs.cell 0 _ rfl
          have z1 := H.out.rs.cell 1 _ rfl
          have z2 := H.out.rs.cell 2 _ rfl
          have z3 := H.out.rs.cell 3 _ rfl
          exact bodyPost_ret (v := .agg #[.int .i64 0, .int .i64 i, .bool true, .bool true]) (by simp [results, Try.results134, go_sem, z0, z1, z2, z3]) rfl ⟨rfl, H.out.bel⟩
        · skip
          rw [show (true || (true && !true)) = true from rfl]
          have H0 := Lib.hid (BR.start w 58 #[.int .i64 0, .int .i64 i, .bool true, .bool true] #[.int .i64 0, .int .i64 0, .bool false, .bool false])
          obtain ⟨wb, hwb⟩ : ∃ wb, (w.alloc (.cells #[.int .i64 0, .int .i64 i, .bool true, .bool true] 58)).alloc (.cells #[.int .i64 0, .int .i64 0, .bool false, .bool false] 58) = wb := ⟨_, rfl⟩
          rw [hwb] at H0
          have H := H0
          clear H0
          have HWB := Lib.hid hwb
          clear hwb
          go_enter Try.func134, Try.ntmps134
          go_upto_region 1 with fail
          rw [HWB.out]
          clear HWB
          have p0 := H.out.bx.cell 0 _ rfl
          have p1 := H.out.bx.cell 1 _ rfl
          have p2 := H.out.bx.cell 2 _ rfl
          have p3 := H.out.bx.cell 3 _ rfl
          have q0 := H.out.rs.cell 0 _ rfl
          have qf0 := H.out.rs.free 0
          have q1 := H.out.rs.cell 1 _ rfl
          have qf1 := H.out.rs.free 1
          have q2 := H.out.rs.cell 2 _ rfl
          have qf2 := H.out.rs.free 2
          have q3 := H.out.rs.cell 3 _ rfl
          have qf3 := H.out.rs.free 3
          go_wp2_with fail
          replace H := Lib.hid ((((H.out.put 0 (.int .i64 0)).put 1 (.int .i64 i)).put 2 (.bool true)).put 3 (.bool true))
          clear q0 q1 q2 q3 qf0 qf1 qf2 qf3
          revert H
          generalize (World.setCell (World.setCell (World.setCell (World.setCell wb _ _) _ _) _ _) _ _) = wz
          intro H
          have z0 := H.out.rs.cell 0 _ rfl
          have z1 := H.out.rs.cell 1 _ rfl
          have z2 := H.out.rs.cell 2 _ rfl
          have z3 := H.out.rs.cell 3 _ rfl
          exact bodyPost_ret (v := .agg #[.int .i64 0, .int .i64 i, .bool true, .bool true]) (by simp [results, Try.results134, go_sem, z0, z1, z2, z3]) rfl ⟨rfl, H.out.bel⟩
  · rw [if_pos rfl] at hq
    subst hq
    have H0 := Lib.hid (BR.start w 58 #[.int .i64 1, .int .i64 i, .bool h, .bool r] #[.int .i64 0, .int .i64 0, .bool false, .bool false])
    obtain ⟨wb, hwb⟩ : ∃ wb, (w.alloc (.cells #[.int .i64 1, .int .i64 i, .bool h, .bool r] 58)).alloc (.cells #[.int .i64 0, .int .i64 0, .bool false, .bool false] 58) = wb := ⟨_, rfl⟩
    rw [hwb] at H0
    have H := H0
    clear H0
    have HWB := Lib.hid hwb
    clear hwb
    go_enter Try.func134, Try.ntmps134
    go_upto_region 1 with fail
    rw [HWB.out]
    clear HWB
    have p0 := H.out.bx.cell 0 _ rfl
    have p1 := H.out.bx.cell 1 _ rfl
    have p2 := H.out.bx.cell 2 _ rfl
    have p3 := H.out.bx.cell 3 _ rfl
    have q0 := H.out.rs.cell 0 _ rfl
    have qf0 := H.out.rs.free 0
    have q1 := H.out.rs.cell 1 _ rfl
    have qf1 := H.out.rs.free 1
    have q2 := H.out.rs.cell 2 _ rfl
    have qf2 := H.out.rs.free 2
    have q3 := H.out.rs.cell 3 _ rfl
    have qf3 := H.out.rs.free 3
    go_wp2_with fail
    replace H := Lib.hid ((((H.out.put 0 (.int .i64 1)).put 1 (.int .i64 i)).put 2 (.bool g)).put 3 (.bool g))
    clear q0 q1 q2 q3 qf0 qf1 qf2 qf3
    revert H
    generalize (World.setCell (World.setCell (World.setCell (World.setCell wb _ _) _ _) _ _) _ _) = wz
    intro H
    have z0 := H.out.rs.cell 0 _ rfl
    have z1 := H.out.rs.cell 1 _ rfl
    have z2 := H.out.rs.cell 2 _ rfl
    have z3 := H.out.rs.cell 3 _ rfl
    exact bodyPost_ret (v := .agg #[.int .i64 1, .int .i64 i, .bool g, .bool g]) (by simp [results, Try.results134, go_sem, z0, z1, z2, z3]) rfl ⟨rfl, H.out.bel⟩
set_option maxRecDepth 100000 in
set_option maxHeartbeats 2000000 in
theorem l7Take_c (k i : Int) (h r q : Bool) (hq : (r && decide (k = 1)) = q) (w : World) :
    Calls Try.prog 137 #[.agg #[.int .i64 k, .int .i64 i, .bool h, .bool r]] w fun e w' => e = .returned (.agg #[.int .i64 k, .int .i64 i, .bool h, .bool q]) ∧ Below w.heap.size w w' := by
  cases r
  · subst hq
    rw [Bool.false_and]
    have H0 := Lib.hid (BR.start w 58 #[.int .i64 k, .int .i64 i, .bool h, .bool false] #[.int .i64 0, .int .i64 0, .bool false, .bool false])
    obtain ⟨wb, hwb⟩ : ∃ wb, (w.alloc (.cells #[.int .i64 k, .int .i64 i, .bool h, .bool false] 58)).alloc (.cells #[.int .i64 0, .int .i64 0, .bool false, .bool false] 58) = wb := ⟨_, rfl⟩
    rw [hwb] at H0
    have H := H0
    clear H0
    have HWB := Lib.hid hwb
    clear hwb
    go_enter Try.func137, Try.ntmps137
    go_upto_region 1 with fail
    rw [HWB.out]
    clear HWB
    have p0 := H.out.bx.cell 0 _ rfl
    have p1 := H.out.bx.cell 1 _ rfl
    have p2 := H.out.bx.cell 2 _ rfl
    have p3 := H.out.bx.cell 3 _ rfl
    have pf3 := H.out.bx.free 3
    go_upto_region 2 with fail
    replace H := Lib.hid (H.out.set 3 (.bool false))
    clear p0 p1 p2 p3 pf3
    revert H
    generalize (World.setCell wb _ _) = wd
    intro H
    have p0 := H.out.bx.cell 0 _ rfl
    have p1 := H.out.bx.cell 1 _ rfl
    have p2 := H.out.bx.cell 2 _ rfl
    have p3 := H.out.bx.cell 3 _ rfl
    have q0 := H.out.rs.cell 0 _ rfl
    have qf0 := H.out.rs.free 0
    have q1 := H.out.rs.cell 1 _ rfl
    have qf1 := H.out.rs.free 1
    have q2 := H.out.rs.cell 2 _ rfl
    have qf2 := H.out.rs.free 2
    have q3 := H.out.rs.cell 3 _ rfl
    have qf3 := H.out.rs.free 3
    go_wp2_with fail
    replace H := Lib.hid ((((H.out.put 0 (.int .i64 k)).put 1 (.int .i64 i)).put 2 (.bool h)).put 3 (.bool false))
    clear q0 q1 q2 q3 qf0 qf1 qf2 qf3
    revert H
    generalize (World.setCell (World.setCell (World.setCell (World.setCell wd _ _) _ _) _ _) _ _) = wz
    intro H
    have z0 := H.out.rs.cell 0 _ rfl
    have z1 := H.out.rs.cell 1 _ rfl
    have z2 := H.out.rs.cell 2 _ rfl
    have z3 := H.out.rs.cell 3 _ rfl
    exact bodyPost_ret (v := .agg #[.int .i64 k, .int .i64 i, .bool h, .bool false]) (by simp [results, Try.results137, go_sem, z0, z1, z2, z3]) rfl ⟨rfl, H.out.bel⟩
  · rw [Bool.true_and] at hq
    have t1 : (k == 1) = q := by rw [← hq]; rfl
    clear hq
    have H0 := Lib.hid (BR.start w 58 #[.int .i64 k, .int .i64 i, .bool h, .bool true] #[.int .i64 0, .int .i64 0, .bool false, .bool false])
    obtain ⟨wb, hwb⟩ : ∃ wb, (w.alloc (.cells #[.int .i64 k, .int .i64 i, .bool h, .bool true] 58)).alloc (.cells #[.int .i64 0, .int .i64 0, .bool false, .bool false] 58) = wb := ⟨_, rfl⟩
    rw [hwb] at H0
    have H := H0
    clear H0
    have HWB := Lib.hid hwb
    clear hwb
    go_enter Try.func137, Try.ntmps137
    go_upto_region 1 with fail
    rw [HWB.out]
    clear HWB
    have p0 := H.out.bx.cell 0 _ rfl
    have p1 := H.out.bx.cell 1 _ rfl
    have p2 := H.out.bx.cell 2 _ rfl
    have p3 := H.out.bx.cell 3 _ rfl
    have pf3 := H.out.bx.free 3
    go_upto_region 2 with fail
    replace H := Lib.hid (H.out.set 3 (.bool q))
    clear p0 p1 p2 p3 pf3
    revert H
    generalize (World.setCell wb _ _) = wd
    intro H
    have p0 := H.out.bx.cell 0 _ rfl
    have p1 := H.out.bx.cell 1 _ rfl
    have p2 := H.out.bx.cell 2 _ rfl
    have p3 := H.out.bx.cell 3 _ rfl
    have q0 := H.out.rs.cell 0 _ rfl
    have qf0 := H.out.rs.free 0
    have q1 := H.out.rs.cell 1 _ rfl
    have qf1 := H.out.rs.free 1
    have q2 := H.out.rs.cell 2 _ rfl
    have qf2 := H.out.rs.free 2
    have q3 := H.out.rs.cell 3 _ rfl
    have qf3 := H.out.rs.free 3
    go_wp2_with fail
    replace H := Lib.hid ((((H.out.put 0 (.int .i64 k)).put 1 (.int .i64 i)).put 2 (.bool h)).put 3 (.bool q))
    clear q0 q1 q2 q3 qf0 qf1 qf2 qf3
    revert H
    generalize (World.setCell (World.setCell (World.setCell (World.setCell wd _ _) _ _) _ _) _ _) = wz
    intro H
    have z0 := H.out.rs.cell 0 _ rfl
    have z1 := H.out.rs.cell 1 _ rfl
    have z2 := H.out.rs.cell 2 _ rfl
    have z3 := H.out.rs.cell 3 _ rfl
    exact bodyPost_ret (v := .agg #[.int .i64 k, .int .i64 i, .bool h, .bool q]) (by simp [results, Try.results137, go_sem, z0, z1, z2, z3]) rfl ⟨rfl, H.out.bel⟩
set_option maxRecDepth 100000 in
set_option maxHeartbeats 2000000 in
theorem specDrive_any (k i : Int) (h r g : Bool) (g0 g1 : Int) (g2 g3 b : Bool) (w : World) (ha : drAns ⟨k, i, h, r⟩ g = (⟨g0, g1, g2, g3⟩, b)) :
    Calls Try.prog 50 #[.agg #[.int .i64 k, .int .i64 i, .bool h, .bool r], .bool g] w fun e w' => e = .returned (.tuple #[.agg #[.int .i64 g0, .int .i64 g1, .bool g2, .bool g3], .bool b]) ∧ Below w.heap.size w w' := by
  by_cases hx : Ok ⟨k, i, h, r⟩
  · obtain ⟨h1, rfl⟩ := drAns_yes ha hx
    have HX := Lib.hid (decide_eq_true hx)
    have HK0 := hx.1
    clear hx ha
    simp only [drv, Lin.mk.injEq] at h1
    obtain ⟨rfl, rfl, rfl, h4⟩ := h1
    have HK := Lib.hid HK0
    clear HK0
    have H4 := Lib.hid h4.symm
    clear h4
    have H0 := Lib.hid (BR.start w 58 #[.int .i64 g0, .int .i64 g1, .bool h, .bool r] #[.int .i64 0, .int .i64 0, .bool false, .bool false])
    obtain ⟨wb, hwb⟩ : ∃ wb, (w.alloc (.cells #[.int .i64 g0, .int .i64 g1, .bool h, .bool r] 58)).alloc (.cells #[.int .i64 0, .int .i64 0, .bool false, .bool false] 58) = wb := ⟨_, rfl⟩
    rw [hwb] at H0
    have H := H0
    clear H0
    have HWB := Lib.hid hwb
    clear hwb
    go_enter Try.func50, Try.ntmps50
    go_upto_region 1 with fail
    rw [HWB.out]
    clear HWB
    have p0 := H.out.bx.cell 0 _ rfl
    have p1 := H.out.bx.cell 1 _ rfl
    have p2 := H.out.bx.cell 2 _ rfl
    have p3 := H.out.bx.cell 3 _ rfl
    go_wp2_with fail
    refine (l7One_c _ _ _ _ _ HX.out _).mono ?_
    rintro e w1 ⟨rfl, hb⟩
    replace H := Lib.hid (H.out.below hb)
    clear hb p0 p1 p2 p3
    have p0 := H.out.bx.cell 0 _ rfl
    have p1 := H.out.bx.cell 1 _ rfl
    have p2 := H.out.bx.cell 2 _ rfl
    have p3 := H.out.bx.cell 3 _ rfl
    go_wp2_with fail
    refine (l7Drive_c g0 g1 h r g2 g3 HK.out H4.out _).mono ?_
    rintro e w2 ⟨rfl, hb⟩
    replace H := Lib.hid (H.out.below hb)
    clear hb p0 p1 p2 p3
    have q0 := H.out.rs.cell 0 _ rfl
    have qf0 := H.out.rs.free 0
    have q1 := H.out.rs.cell 1 _ rfl
    have qf1 := H.out.rs.free 1
    have q2 := H.out.rs.cell 2 _ rfl
    have qf2 := H.out.rs.free 2
    have q3 := H.out.rs.cell 3 _ rfl
    have qf3 := H.out.rs.free 3
    go_wp2_with fail
    replace H := Lib.hid ((((H.out.put 0 (.int .i64 g0)).put 1 (.int .i64 g1)).put 2 (.bool g2)).put 3 (.bool g3))
    clear q0 q1 q2 q3 qf0 qf1 qf2 qf3
    revert H
    generalize (World.setCell (World.setCell (World.setCell (World.setCell w2 _ _) _ _) _ _) _ _) = wz
    intro H
    have z0 := H.out.rs.cell 0 _ rfl
    have z1 := H.out.rs.cell 1 _ rfl
    have z2 := H.out.rs.cell 2 _ rfl
    have z3 := H.out.rs.cell 3 _ rfl
    exact bodyPost_ret (v := .tuple #[.agg #[.int .i64 g0, .int .i64 g1, .bool g2, .bool g3], .bool true]) (by simp [results, Try.results50, go_sem, z0, z1, z2, z3]) rfl ⟨rfl, H.out.bel⟩
  · obtain ⟨h1, rfl⟩ := drAns_no ha hx
    have HX := Lib.hid (decide_eq_false hx)
    clear hx ha
    simp only [noLin, Lin.mk.injEq] at h1
    obtain ⟨rfl, rfl, rfl, rfl⟩ := h1
    have H0 := Lib.hid (BR.start w 58 #[.int .i64 k, .int .i64 i, .bool h, .bool r] #[.int .i64 0, .int .i64 0, .bool false, .bool false])
    obtain ⟨wb, hwb⟩ : ∃ wb, (w.alloc (.cells #[.int .i64 k, .int .i64 i, .bool h, .bool r] 58)).alloc (.cells #[.int .i64 0, .int .i64 0, .bool false, .bool false] 58) = wb := ⟨_, rfl⟩
    rw [hwb] at H0
    have H := H0
    clear H0
    have HWB := Lib.hid hwb
    clear hwb
    go_enter Try.func50, Try.ntmps50
    go_upto_region 1 with fail
    rw [HWB.out]
    clear HWB
    have p0 := H.out.bx.cell 0 _ rfl
    have p1 := H.out.bx.cell 1 _ rfl
    have p2 := H.out.bx.cell 2 _ rfl
    have p3 := H.out.bx.cell 3 _ rfl
    go_wp2_with fail
    refine (l7One_c _ _ _ _ _ HX.out _).mono ?_
    rintro e w1 ⟨rfl, hb⟩
    replace H := Lib.hid (H.out.below hb)
    clear hb p0 p1 p2 p3
    have q0 := H.out.rs.cell 0 _ rfl
    have qf0 := H.out.rs.free 0
    have q1 := H.out.rs.cell 1 _ rfl
    have qf1 := H.out.rs.free 1
    have q2 := H.out.rs.cell 2 _ rfl
    have qf2 := H.out.rs.free 2
    have q3 := H.out.rs.cell 3 _ rfl
    have qf3 := H.out.rs.free 3
    go_wp2_with fail
    replace H := Lib.hid ((((H.out.put 0 (.int .i64 0)).put 1 (.int .i64 0)).put 2 (.bool false)).put 3 (.bool false))
    clear q0 q1 q2 q3 qf0 qf1 qf2 qf3
    revert H
    generalize (World.setCell (World.setCell (World.setCell (World.setCell w1 _ _) _ _) _ _) _ _) = wz
    intro H
    have z0 := H.out.rs.cell 0 _ rfl
    have z1 := H.out.rs.cell 1 _ rfl
    have z2 := H.out.rs.cell 2 _ rfl
    have z3 := H.out.rs.cell 3 _ rfl
    exact bodyPost_ret (v := .tuple #[.agg #[.int .i64 0, .int .i64 0, .bool false, .bool false], .bool false]) (by simp [results, Try.results50, go_sem, z0, z1, z2, z3]) rfl ⟨rfl, H.out.bel⟩
set_option maxRecDepth 100000 in
set_option maxHeartbeats 2000000 in
theorem specTake_any (k i : Int) (h r : Bool) (g0 g1 : Int) (g2 g3 q b : Bool) (w : World) (ha : tkAns ⟨k, i, h, r⟩ = (⟨g0, g1, g2, g3⟩, q, b)) :
    Calls Try.prog 54 #[.agg #[.int .i64 k, .int .i64 i, .bool h, .bool r]] w fun e w' => e = .returned (.tuple #[.agg #[.int .i64 g0, .int .i64 g1, .bool g2, .bool g3], .bool q, .bool b]) ∧ Below w.heap.size w w' := by
  by_cases hx : Ok ⟨k, i, h, r⟩
  · obtain ⟨h1, rfl, rfl⟩ := tkAns_yes ha hx
    have HX := Lib.hid (decide_eq_true hx)
    clear hx ha
    simp only [tak, Lin.mk.injEq] at h1
    obtain ⟨rfl, rfl, rfl, h4⟩ := h1
    have H4 := Lib.hid h4.symm
    clear h4
    have H0 := Lib.hid (BR.start w 58 #[.int .i64 g0, .int .i64 g1, .bool g2, .bool q] #[.int .i64 0, .int .i64 0, .bool false, .bool false])
    obtain ⟨wb, hwb⟩ : ∃ wb, (w.alloc (.cells #[.int .i64 g0, .int .i64 g1, .bool g2, .bool q] 58)).alloc (.cells #[.int .i64 0, .int .i64 0, .bool false, .bool false] 58) = wb := ⟨_, rfl⟩
    rw [hwb] at H0
    have H := H0
    clear H0
    have HWB := Lib.hid hwb
    clear hwb
    go_enter Try.func54, Try.ntmps54
    go_upto_region 1 with fail
    rw [HWB.out]
    clear HWB
    have p0 := H.out.bx.cell 0 _ rfl
    have p1 := H.out.bx.cell 1 _ rfl
    have p2 := H.out.bx.cell 2 _ rfl
    have p3 := H.out.bx.cell 3 _ rfl
    go_wp2_with fail
    refine (l7One_c _ _ _ _ _ HX.out _).mono ?_
    rintro e w1 ⟨rfl, hb⟩
    replace H := Lib.hid (H.out.below hb)
    clear hb p0 p1 p2 p3
    have p0 := H.out.bx.cell 0 _ rfl
    have p1 := H.out.bx.cell 1 _ rfl
    have p2 := H.out.bx.cell 2 _ rfl
    have p3 := H.out.bx.cell 3 _ rfl
    have HC := Lib.hid (l7Take_c g0 g1 g2 q g3 H4.out w1.drew)
    go_upto_region 3 with fail
    (first | go_region_with (go_at_call 137; (with_reducible refine HC.out.mono ?_); rintro e w2 ⟨rfl, hb⟩; replace hb := below_then (below_drew1 w1) hb; replace H := Lib.hid (H.out.below hb); clear hb HC p0 p1 p2 p3; have p0 := H.out.bx.cell 0 _ rfl; have p1 := H.out.bx.cell 1 _ rfl; have p2 := H.out.bx.cell 2 _ rfl; have p3 := H.out.bx.cell 3 _ rfl; have q0 := H.out.rs.cell 0 _ rfl; have qf0 := H.out.rs.free 0; have q1 := H.out.rs.cell 1 _ rfl; have qf1 := H.out.rs.free 1; have q2 := H.out.rs.cell 2 _ rfl; have qf2 := H.out.rs.free 2; have q3 := H.out.rs.cell 3 _ rfl; have qf3 := H.out.rs.free 3) | fail)
    all_goals
      replace H := Lib.hid ((((H.out.put 0 (.int .i64 g0)).put 1 (.int .i64 g1)).put 2 (.bool g2)).put 3 (.bool g3))
      revert H
      generalize (World.setCell (World.setCell (World.setCell (World.setCell w2 _ _) _ _) _ _) _ _) = wz
      intro H
      have z0 := H.out.rs.cell 0 _ rfl
      have z1 := H.out.rs.cell 1 _ rfl
      have z2 := H.out.rs.cell 2 _ rfl
      have z3 := H.out.rs.cell 3 _ rfl
      go_wp2_with fail
      exact bodyPost_ret (v := .tuple #[.agg #[.int .i64 g0, .int .i64 g1, .bool g2, .bool g3], .bool q, .bool true]) (by simp [results, Try.results54, go_sem, z0, z1, z2, z3]) rfl ⟨rfl, H.out.bel⟩
  · obtain ⟨h1, rfl, rfl⟩ := tkAns_no ha hx
    have HX := Lib.hid (decide_eq_false hx)
    clear hx ha
    simp only [noLin, Lin.mk.injEq] at h1
    obtain ⟨rfl, rfl, rfl, rfl⟩ := h1
    have H0 := Lib.hid (BR.start w 58 #[.int .i64 k, .int .i64 i, .bool h, .bool r] #[.int .i64 0, .int .i64 0, .bool false, .bool false])
    obtain ⟨wb, hwb⟩ : ∃ wb, (w.alloc (.cells #[.int .i64 k, .int .i64 i, .bool h, .bool r] 58)).alloc (.cells #[.int .i64 0, .int .i64 0, .bool false, .bool false] 58) = wb := ⟨_, rfl⟩
    rw [hwb] at H0
    have H := H0
    clear H0
    have HWB := Lib.hid hwb
    clear hwb
    go_enter Try.func54, Try.ntmps54
    go_upto_region 1 with fail
    rw [HWB.out]
    clear HWB
    have p0 := H.out.bx.cell 0 _ rfl
    have p1 := H.out.bx.cell 1 _ rfl
    have p2 := H.out.bx.cell 2 _ rfl
    have p3 := H.out.bx.cell 3 _ rfl
    go_wp2_with fail
    refine (l7One_c _ _ _ _ _ HX.out _).mono ?_
    rintro e w1 ⟨rfl, hb⟩
    replace H := Lib.hid (H.out.below hb)
    clear hb p0 p1 p2 p3
    have q0 := H.out.rs.cell 0 _ rfl
    have qf0 := H.out.rs.free 0
    have q1 := H.out.rs.cell 1 _ rfl
    have qf1 := H.out.rs.free 1
    have q2 := H.out.rs.cell 2 _ rfl
    have qf2 := H.out.rs.free 2
    have q3 := H.out.rs.cell 3 _ rfl
    have qf3 := H.out.rs.free 3
    go_wp2_with fail
    replace H := Lib.hid ((((H.out.put 0 (.int .i64 0)).put 1 (.int .i64 0)).put 2 (.bool false)).put 3 (.bool false))
    clear q0 q1 q2 q3 qf0 qf1 qf2 qf3
    revert H
    generalize (World.setCell (World.setCell (World.setCell (World.setCell w1 _ _) _ _) _ _) _ _) = wz
    intro H
    have z0 := H.out.rs.cell 0 _ rfl
    have z1 := H.out.rs.cell 1 _ rfl
    have z2 := H.out.rs.cell 2 _ rfl
    have z3 := H.out.rs.cell 3 _ rfl
    exact bodyPost_ret (v := .tuple #[.agg #[.int .i64 0, .int .i64 0, .bool false, .bool false], .bool false, .bool false]) (by simp [results, Try.results54, go_sem, z0, z1, z2, z3]) rfl ⟨rfl, H.out.bel⟩
end Go.Proofs.Ytfdbnolifimnhaa.L7
