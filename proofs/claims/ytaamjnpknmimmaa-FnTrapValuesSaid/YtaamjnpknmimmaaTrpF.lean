/- What FaultTrap and DeviceTrap answer. -/
import Derived.Test.YtaamjnpknmimmaaTrpV
namespace Go.Proofs.Ytaamjnpknmimmaa.L5
open Go Go.RowKit Go.Proofs.Ytaamjnpknmimmaa.Mem Go.Proofs.Ytaamjnpknmimmaa.Own Go.Proofs.Ytaamjnpknmimmaa.L1 Go.Proofs.Ytaamjnpknmimmaa.Bit
set_option maxRecDepth 100000 in
set_option maxHeartbeats 1000000 in
theorem implFault_any (n : Int) (st : Bool) (g0 g1 : Int) (g2 : Bool) (g3 g4 : Int) (b : Bool) (w : World) (h : okAns ⟨1, 0, st, 0, n⟩ = (⟨g0, g1, g2, g3, g4⟩, b)) :
    Calls Try.prog 22 #[.int .i64 n, .bool st] w fun e w' => e = .returned (.tuple #[.agg #[.int .i64 g0, .int .i64 g1, .bool g2, .int .i64 g3, .int .i64 g4], .bool b]) ∧ Below w.heap.size w w' := by
  have HH := Lib.hid h
  clear h
  go_enter Try.func22, Try.ntmps22
  go_wp2_with fail
  refine (validTrap_any 1 0 st 0 n g0 g1 g2 g3 g4 b _ HH.out).mono ?_
  rintro e w1 ⟨rfl, hb⟩
  have hR := Lib.hid (Blk.kept hb (Blk.new w _ _))
  have hW := Lib.hid (below_then (below_more (Below.refl w.heap.size w) _) hb)
  clear hb
  have q0 := hR.out.cell 0 _ rfl
  have f0 := hR.out.free 0
  have q1 := hR.out.cell 1 _ rfl
  have f1 := hR.out.free 1
  have q2 := hR.out.cell 2 _ rfl
  have f2 := hR.out.free 2
  have q3 := hR.out.cell 3 _ rfl
  have f3 := hR.out.free 3
  have q4 := hR.out.cell 4 _ rfl
  have f4 := hR.out.free 4
  go_wp2_with fail
  have hZ := Lib.hid (((((hR.out.set 0 (.int .i64 g0)).set 1 (.int .i64 g1)).set 2 (.bool g2)).set 3 (.int .i64 g3)).set 4 (.int .i64 g4))
  have hX := Lib.hid (below_set (below_set (below_set (below_set (below_set hW.out (g := w.heap.size) (j := 0) (Nat.le_refl _) (.int .i64 g0)) (g := w.heap.size) (j := 1) (Nat.le_refl _) (.int .i64 g1)) (g := w.heap.size) (j := 2) (Nat.le_refl _) (.bool g2)) (g := w.heap.size) (j := 3) (Nat.le_refl _) (.int .i64 g3)) (g := w.heap.size) (j := 4) (Nat.le_refl _) (.int .i64 g4))
  clear q0 f0 q1 f1 q2 f2 q3 f3 q4 f4
  revert hZ hX
  generalize (World.setCell (World.setCell (World.setCell (World.setCell (World.setCell w1 _ _) _ _) _ _) _ _) _ _) = wz
  intro hZ hX
  have z0 := hZ.out.cell 0 _ rfl
  have z1 := hZ.out.cell 1 _ rfl
  have z2 := hZ.out.cell 2 _ rfl
  have z3 := hZ.out.cell 3 _ rfl
  have z4 := hZ.out.cell 4 _ rfl
  exact bodyPost_ret (v := .tuple #[.agg #[.int .i64 g0, .int .i64 g1, .bool g2, .int .i64 g3, .int .i64 g4], .bool b]) (by simp [results, Try.results22, go_sem, z0, z1, z2, z3, z4]) rfl ⟨rfl, hX.out⟩
set_option maxRecDepth 100000 in
set_option maxHeartbeats 1000000 in
theorem implDevice_any (n wd r : Int) (st : Bool) (g0 g1 : Int) (g2 : Bool) (g3 g4 : Int) (b : Bool) (w : World) (h : okAns ⟨3, wd, st, r, n⟩ = (⟨g0, g1, g2, g3, g4⟩, b)) :
    Calls Try.prog 24 #[.int .i64 n, .int .i64 wd, .int .i64 r, .bool st] w fun e w' => e = .returned (.tuple #[.agg #[.int .i64 g0, .int .i64 g1, .bool g2, .int .i64 g3, .int .i64 g4], .bool b]) ∧ Below w.heap.size w w' := by
  have HH := Lib.hid h
  clear h
  go_enter Try.func24, Try.ntmps24
  go_wp2_with fail
  refine (validTrap_any 3 wd st r n g0 g1 g2 g3 g4 b _ HH.out).mono ?_
  rintro e w1 ⟨rfl, hb⟩
  have hR := Lib.hid (Blk.kept hb (Blk.new w _ _))
  have hW := Lib.hid (below_then (below_more (Below.refl w.heap.size w) _) hb)
  clear hb
  have q0 := hR.out.cell 0 _ rfl
  have f0 := hR.out.free 0
  have q1 := hR.out.cell 1 _ rfl
  have f1 := hR.out.free 1
  have q2 := hR.out.cell 2 _ rfl
  have f2 := hR.out.free 2
  have q3 := hR.out.cell 3 _ rfl
  have f3 := hR.out.free 3
  have q4 := hR.out.cell 4 _ rfl
  have f4 := hR.out.free 4
  go_wp2_with fail
  have hZ := Lib.hid (((((hR.out.set 0 (.int .i64 g0)).set 1 (.int .i64 g1)).set 2 (.bool g2)).set 3 (.int .i64 g3)).set 4 (.int .i64 g4))
  have hX := Lib.hid (below_set (below_set (below_set (below_set (below_set hW.out (g := w.heap.size) (j := 0) (Nat.le_refl _) (.int .i64 g0)) (g := w.heap.size) (j := 1) (Nat.le_refl _) (.int .i64 g1)) (g := w.heap.size) (j := 2) (Nat.le_refl _) (.bool g2)) (g := w.heap.size) (j := 3) (Nat.le_refl _) (.int .i64 g3)) (g := w.heap.size) (j := 4) (Nat.le_refl _) (.int .i64 g4))
  clear q0 f0 q1 f1 q2 f2 q3 f3 q4 f4
  revert hZ hX
  generalize (World.setCell (World.setCell (World.setCell (World.setCell (World.setCell w1 _ _) _ _) _ _) _ _) _ _) = wz
  intro hZ hX
  have z0 := hZ.out.cell 0 _ rfl
  have z1 := hZ.out.cell 1 _ rfl
  have z2 := hZ.out.cell 2 _ rfl
  have z3 := hZ.out.cell 3 _ rfl
  have z4 := hZ.out.cell 4 _ rfl
  exact bodyPost_ret (v := .tuple #[.agg #[.int .i64 g0, .int .i64 g1, .bool g2, .int .i64 g3, .int .i64 g4], .bool b]) (by simp [results, Try.results24, go_sem, z0, z1, z2, z3, z4]) rfl ⟨rfl, hX.out⟩
set_option maxRecDepth 100000 in
set_option maxHeartbeats 1000000 in
theorem specFault_any (n : Int) (st : Bool) (g0 g1 : Int) (g2 : Bool) (g3 g4 : Int) (b : Bool) (w : World) (h : okAns ⟨1, 0, st, 0, n⟩ = (⟨g0, g1, g2, g3, g4⟩, b)) :
    Calls Try.prog 21 #[.int .i64 n, .bool st] w fun e w' => e = .returned (.tuple #[.agg #[.int .i64 g0, .int .i64 g1, .bool g2, .int .i64 g3, .int .i64 g4], .bool b]) ∧ Below w.heap.size w w' := by
  by_cases hx : Ok ⟨1, 0, st, 0, n⟩
  · obtain ⟨h1, rfl⟩ := okAns_yes h hx
    simp only [Trp.mk.injEq] at h1
    obtain ⟨d0, d1, d2, d3, d4⟩ := h1
    rw [d0, d1, d2, d3, d4]
    clear d0 d1 d2 d3 d4
    have HB := Lib.hid (decide_eq_true hx)
    clear hx h
    go_enter Try.func21, Try.ntmps21
    go_wp2_with fail
    refine (l5Good_c 1 0 st 0 n _ true HB.out).mono ?_
    rintro e w1 ⟨rfl, hb⟩
    have hR := Lib.hid (Blk.kept hb (Blk.alloc (Blk.new w #[.int .i64 0, .int .i64 0, .bool false, .int .i64 0, .int .i64 0] 25) _))
    have hP := Blk.kept hb (Blk.new _ _ _)
    rw [size1] at hP
    have p0 := hP.cell 0 _ rfl
    have p1 := hP.cell 1 _ rfl
    have p2 := hP.cell 2 _ rfl
    have p3 := hP.cell 3 _ rfl
    have p4 := hP.cell 4 _ rfl
    have hW := Lib.hid (below_then (below_more (below_more (Below.refl w.heap.size w) _) _) hb)
    clear hb hP
    have q0 := hR.out.cell 0 _ rfl
    have f0 := hR.out.free 0
    have q1 := hR.out.cell 1 _ rfl
    have f1 := hR.out.free 1
    have q2 := hR.out.cell 2 _ rfl
    have f2 := hR.out.free 2
    have q3 := hR.out.cell 3 _ rfl
    have f3 := hR.out.free 3
    have q4 := hR.out.cell 4 _ rfl
    have f4 := hR.out.free 4
    go_wp2_with fail
    have hZ := Lib.hid (((((hR.out.set 0 (.int .i64 1)).set 1 (.int .i64 0)).set 2 (.bool st)).set 3 (.int .i64 0)).set 4 (.int .i64 n))
    have hX := Lib.hid (below_set (below_set (below_set (below_set (below_set hW.out (g := w.heap.size) (j := 0) (Nat.le_refl _) (.int .i64 1)) (g := w.heap.size) (j := 1) (Nat.le_refl _) (.int .i64 0)) (g := w.heap.size) (j := 2) (Nat.le_refl _) (.bool st)) (g := w.heap.size) (j := 3) (Nat.le_refl _) (.int .i64 0)) (g := w.heap.size) (j := 4) (Nat.le_refl _) (.int .i64 n))
    clear q0 f0 q1 f1 q2 f2 q3 f3 q4 f4 p0 p1 p2 p3 p4
    revert hZ hX
    generalize (World.setCell (World.setCell (World.setCell (World.setCell (World.setCell w1 _ _) _ _) _ _) _ _) _ _) = wz
    intro hZ hX
    have z0 := hZ.out.cell 0 _ rfl
    have z1 := hZ.out.cell 1 _ rfl
    have z2 := hZ.out.cell 2 _ rfl
    have z3 := hZ.out.cell 3 _ rfl
    have z4 := hZ.out.cell 4 _ rfl
    exact bodyPost_ret (v := .tuple #[.agg #[.int .i64 1, .int .i64 0, .bool st, .int .i64 0, .int .i64 n], .bool true]) (by simp [results, Try.results21, go_sem, z0, z1, z2, z3, z4]) rfl ⟨rfl, hX.out⟩
  · obtain ⟨h1, rfl⟩ := okAns_no h hx
    simp only [Trp.mk.injEq] at h1
    obtain ⟨d0, d1, d2, d3, d4⟩ := h1
    rw [d0, d1, d2, d3, d4]
    clear d0 d1 d2 d3 d4
    have HB := Lib.hid (decide_eq_false hx)
    clear hx h
    go_enter Try.func21, Try.ntmps21
    go_wp2_with fail
    refine (l5Good_c 1 0 st 0 n _ false HB.out).mono ?_
    rintro e w1 ⟨rfl, hb⟩
    have hR := Lib.hid (Blk.kept hb (Blk.alloc (Blk.new w #[.int .i64 0, .int .i64 0, .bool false, .int .i64 0, .int .i64 0] 25) _))
    have hP := Blk.kept hb (Blk.new _ _ _)
    rw [size1] at hP
    have p0 := hP.cell 0 _ rfl
    have p1 := hP.cell 1 _ rfl
    have p2 := hP.cell 2 _ rfl
    have p3 := hP.cell 3 _ rfl
    have p4 := hP.cell 4 _ rfl
    have hW := Lib.hid (below_then (below_more (below_more (Below.refl w.heap.size w) _) _) hb)
    clear hb hP
    have q0 := hR.out.cell 0 _ rfl
    have f0 := hR.out.free 0
    have q1 := hR.out.cell 1 _ rfl
    have f1 := hR.out.free 1
    have q2 := hR.out.cell 2 _ rfl
    have f2 := hR.out.free 2
    have q3 := hR.out.cell 3 _ rfl
    have f3 := hR.out.free 3
    have q4 := hR.out.cell 4 _ rfl
    have f4 := hR.out.free 4
    go_wp2_with fail
    have hZ := Lib.hid (((((hR.out.set 0 (.int .i64 0)).set 1 (.int .i64 0)).set 2 (.bool false)).set 3 (.int .i64 0)).set 4 (.int .i64 0))
    have hX := Lib.hid (below_set (below_set (below_set (below_set (below_set hW.out (g := w.heap.size) (j := 0) (Nat.le_refl _) (.int .i64 0)) (g := w.heap.size) (j := 1) (Nat.le_refl _) (.int .i64 0)) (g := w.heap.size) (j := 2) (Nat.le_refl _) (.bool false)) (g := w.heap.size) (j := 3) (Nat.le_refl _) (.int .i64 0)) (g := w.heap.size) (j := 4) (Nat.le_refl _) (.int .i64 0))
    clear q0 f0 q1 f1 q2 f2 q3 f3 q4 f4 p0 p1 p2 p3 p4
    revert hZ hX
    generalize (World.setCell (World.setCell (World.setCell (World.setCell (World.setCell w1 _ _) _ _) _ _) _ _) _ _) = wz
    intro hZ hX
    have z0 := hZ.out.cell 0 _ rfl
    have z1 := hZ.out.cell 1 _ rfl
    have z2 := hZ.out.cell 2 _ rfl
    have z3 := hZ.out.cell 3 _ rfl
    have z4 := hZ.out.cell 4 _ rfl
    exact bodyPost_ret (v := .tuple #[.agg #[.int .i64 0, .int .i64 0, .bool false, .int .i64 0, .int .i64 0], .bool false]) (by simp [results, Try.results21, go_sem, z0, z1, z2, z3, z4]) rfl ⟨rfl, hX.out⟩
set_option maxRecDepth 100000 in
set_option maxHeartbeats 1000000 in
theorem specDevice_any (n wd r : Int) (st : Bool) (g0 g1 : Int) (g2 : Bool) (g3 g4 : Int) (b : Bool) (w : World) (h : okAns ⟨3, wd, st, r, n⟩ = (⟨g0, g1, g2, g3, g4⟩, b)) :
    Calls Try.prog 23 #[.int .i64 n, .int .i64 wd, .int .i64 r, .bool st] w fun e w' => e = .returned (.tuple #[.agg #[.int .i64 g0, .int .i64 g1, .bool g2, .int .i64 g3, .int .i64 g4], .bool b]) ∧ Below w.heap.size w w' := by
  by_cases hx : Ok ⟨3, wd, st, r, n⟩
  · obtain ⟨h1, rfl⟩ := okAns_yes h hx
    simp only [Trp.mk.injEq] at h1
    obtain ⟨d0, d1, d2, d3, d4⟩ := h1
    rw [d0, d1, d2, d3, d4]
    clear d0 d1 d2 d3 d4
    have HB := Lib.hid (decide_eq_true hx)
    clear hx h
    go_enter Try.func23, Try.ntmps23
    go_wp2_with fail
    refine (l5Good_c 3 wd st r n _ true HB.out).mono ?_
    rintro e w1 ⟨rfl, hb⟩
    have hR := Lib.hid (Blk.kept hb (Blk.alloc (Blk.new w #[.int .i64 0, .int .i64 0, .bool false, .int .i64 0, .int .i64 0] 25) _))
    have hP := Blk.kept hb (Blk.new _ _ _)
    rw [size1] at hP
    have p0 := hP.cell 0 _ rfl
    have p1 := hP.cell 1 _ rfl
    have p2 := hP.cell 2 _ rfl
    have p3 := hP.cell 3 _ rfl
    have p4 := hP.cell 4 _ rfl
    have hW := Lib.hid (below_then (below_more (below_more (Below.refl w.heap.size w) _) _) hb)
    clear hb hP
    have q0 := hR.out.cell 0 _ rfl
    have f0 := hR.out.free 0
    have q1 := hR.out.cell 1 _ rfl
    have f1 := hR.out.free 1
    have q2 := hR.out.cell 2 _ rfl
    have f2 := hR.out.free 2
    have q3 := hR.out.cell 3 _ rfl
    have f3 := hR.out.free 3
    have q4 := hR.out.cell 4 _ rfl
    have f4 := hR.out.free 4
    go_wp2_with fail
    have hZ := Lib.hid (((((hR.out.set 0 (.int .i64 3)).set 1 (.int .i64 wd)).set 2 (.bool st)).set 3 (.int .i64 r)).set 4 (.int .i64 n))
    have hX := Lib.hid (below_set (below_set (below_set (below_set (below_set hW.out (g := w.heap.size) (j := 0) (Nat.le_refl _) (.int .i64 3)) (g := w.heap.size) (j := 1) (Nat.le_refl _) (.int .i64 wd)) (g := w.heap.size) (j := 2) (Nat.le_refl _) (.bool st)) (g := w.heap.size) (j := 3) (Nat.le_refl _) (.int .i64 r)) (g := w.heap.size) (j := 4) (Nat.le_refl _) (.int .i64 n))
    clear q0 f0 q1 f1 q2 f2 q3 f3 q4 f4 p0 p1 p2 p3 p4
    revert hZ hX
    generalize (World.setCell (World.setCell (World.setCell (World.setCell (World.setCell w1 _ _) _ _) _ _) _ _) _ _) = wz
    intro hZ hX
    have z0 := hZ.out.cell 0 _ rfl
    have z1 := hZ.out.cell 1 _ rfl
    have z2 := hZ.out.cell 2 _ rfl
    have z3 := hZ.out.cell 3 _ rfl
    have z4 := hZ.out.cell 4 _ rfl
    exact bodyPost_ret (v := .tuple #[.agg #[.int .i64 3, .int .i64 wd, .bool st, .int .i64 r, .int .i64 n], .bool true]) (by simp [results, Try.results23, go_sem, z0, z1, z2, z3, z4]) rfl ⟨rfl, hX.out⟩
  · obtain ⟨h1, rfl⟩ := okAns_no h hx
    simp only [Trp.mk.injEq] at h1
    obtain ⟨d0, d1, d2, d3, d4⟩ := h1
    rw [d0, d1, d2, d3, d4]
    clear d0 d1 d2 d3 d4
    have HB := Lib.hid (decide_eq_false hx)
    clear hx h
    go_enter Try.func23, Try.ntmps23
    go_wp2_with fail
    refine (l5Good_c 3 wd st r n _ false HB.out).mono ?_
    rintro e w1 ⟨rfl, hb⟩
    have hR := Lib.hid (Blk.kept hb (Blk.alloc (Blk.new w #[.int .i64 0, .int .i64 0, .bool false, .int .i64 0, .int .i64 0] 25) _))
    have hP := Blk.kept hb (Blk.new _ _ _)
    rw [size1] at hP
    have p0 := hP.cell 0 _ rfl
    have p1 := hP.cell 1 _ rfl
    have p2 := hP.cell 2 _ rfl
    have p3 := hP.cell 3 _ rfl
    have p4 := hP.cell 4 _ rfl
    have hW := Lib.hid (below_then (below_more (below_more (Below.refl w.heap.size w) _) _) hb)
    clear hb hP
    have q0 := hR.out.cell 0 _ rfl
    have f0 := hR.out.free 0
    have q1 := hR.out.cell 1 _ rfl
    have f1 := hR.out.free 1
    have q2 := hR.out.cell 2 _ rfl
    have f2 := hR.out.free 2
    have q3 := hR.out.cell 3 _ rfl
    have f3 := hR.out.free 3
    have q4 := hR.out.cell 4 _ rfl
    have f4 := hR.out.free 4
    go_wp2_with fail
    have hZ := Lib.hid (((((hR.out.set 0 (.int .i64 0)).set 1 (.int .i64 0)).set 2 (.bool false)).set 3 (.int .i64 0)).set 4 (.int .i64 0))
    have hX := Lib.hid (below_set (below_set (below_set (below_set (below_set hW.out (g := w.heap.size) (j := 0) (Nat.le_refl _) (.int .i64 0)) (g := w.heap.size) (j := 1) (Nat.le_refl _) (.int .i64 0)) (g := w.heap.size) (j := 2) (Nat.le_refl _) (.bool false)) (g := w.heap.size) (j := 3) (Nat.le_refl _) (.int .i64 0)) (g := w.heap.size) (j := 4) (Nat.le_refl _) (.int .i64 0))
    clear q0 f0 q1 f1 q2 f2 q3 f3 q4 f4 p0 p1 p2 p3 p4
    revert hZ hX
    generalize (World.setCell (World.setCell (World.setCell (World.setCell (World.setCell w1 _ _) _ _) _ _) _ _) _ _) = wz
    intro hZ hX
    have z0 := hZ.out.cell 0 _ rfl
    have z1 := hZ.out.cell 1 _ rfl
    have z2 := hZ.out.cell 2 _ rfl
    have z3 := hZ.out.cell 3 _ rfl
    have z4 := hZ.out.cell 4 _ rfl
    exact bodyPost_ret (v := .tuple #[.agg #[.int .i64 0, .int .i64 0, .bool false, .int .i64 0, .int .i64 0], .bool false]) (by simp [results, Try.results23, go_sem, z0, z1, z2, z3, z4]) rfl ⟨rfl, hX.out⟩
end Go.Proofs.Ytaamjnpknmimmaa.L5
