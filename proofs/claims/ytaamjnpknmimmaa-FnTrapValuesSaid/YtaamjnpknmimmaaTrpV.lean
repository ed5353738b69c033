/- What the functions of chapter 5 that answer a trap return. -/
import Derived.Test.YtaamjnpknmimmaaTrpS
namespace Go.Proofs.Ytaamjnpknmimmaa.L5
open Go Go.RowKit Go.Proofs.Ytaamjnpknmimmaa.Mem Go.Proofs.Ytaamjnpknmimmaa.Own Go.Proofs.Ytaamjnpknmimmaa.L1 Go.Proofs.Ytaamjnpknmimmaa.Bit
def okAns (x : Trp) : Trp × Bool := if Ok x then (x, true) else (⟨0, 0, false, 0, 0⟩, false)
theorem m7 (x : Int) : bits .and .i64 x 7 = x % 8 := i64_mask x 3 (by decide)
theorem m1 (x : Int) : bits .and .i64 x 1 = x % 2 := i64_mask x 1 (by decide)
theorem m15 (x : Int) : bits .and .i64 x 15 = x % 16 := i64_mask x 4 (by decide)
set_option maxRecDepth 100000 in
set_option maxHeartbeats 1000000 in
theorem validTrap_yes (c wd : Int) (s : Bool) (r i : Int) (w : World) (hb : decide (Ok ⟨c, wd, s, r, i⟩) = true) :
    Calls Try.prog 51 #[.agg #[.int .i64 c, .int .i64 wd, .bool s, .int .i64 r, .int .i64 i]] w fun e w' => e = .returned (.tuple #[.agg #[.int .i64 c, .int .i64 wd, .bool s, .int .i64 r, .int .i64 i], .bool true]) ∧ Below w.heap.size w w' := by
  have HB := Lib.hid hb
  clear hb
  go_enter Try.func51, Try.ntmps51
  go_wp2_with fail
  refine (implIs_c c wd s r i _ true HB.out).mono ?_
  rintro e w1 ⟨rfl, hb⟩
  have hP := Blk.kept hb (Blk.alloc (Blk.new w #[.int .i64 c, .int .i64 wd, .bool s, .int .i64 r, .int .i64 i] 25) _)
  have hN := Blk.kept hb (Blk.new _ _ _)
  rw [size1] at hN
  have hR := Lib.hid hN
  have hW := Lib.hid (below_then (below_more (below_more (Below.refl w.heap.size w) _) _) hb)
  have p0 := hP.cell 0 _ rfl
  have p1 := hP.cell 1 _ rfl
  have p2 := hP.cell 2 _ rfl
  have p3 := hP.cell 3 _ rfl
  have p4 := hP.cell 4 _ rfl
  clear hb hN hP
  have q0 := hR.out.cell 0 _ rfl
  have f0 := hR.out.free 0
  have q1 := hR.out.cell 1 _ rfl
  have f1 := hR.out.free 1
  have q2 := hR.out.cell 2 _ rfl
  have f2 := hR.out.free 2
  have q3 := hR.out.cell 3 _ rfl
  have f3 := hR.out.free 3
  have q4 := hR.out.cell 4 _ rfl
  have f4 := hR.out.free 4
  go_wp2_with fail
  have hZ := Lib.hid (((((hR.out.set 0 (.int .i64 c)).set 1 (.int .i64 wd)).set 2 (.bool s)).set 3 (.int .i64 r)).set 4 (.int .i64 i))
  have hX := Lib.hid (below_set (below_set (below_set (below_set (below_set hW.out (g := w.heap.size + 1) (j := 0) (by omega) (.int .i64 c)) (g := w.heap.size + 1) (j := 1) (by omega) (.int .i64 wd)) (g := w.heap.size + 1) (j := 2) (by omega) (.bool s)) (g := w.heap.size + 1) (j := 3) (by omega) (.int .i64 r)) (g := w.heap.size + 1) (j := 4) (by omega) (.int .i64 i))
  clear q0 f0 q1 f1 q2 f2 q3 f3 q4 f4 p0 p1 p2 p3 p4
  revert hZ hX
  generalize (World.setCell (World.setCell (World.setCell (World.setCell (World.setCell w1 _ _) _ _) _ _) _ _) _ _) = wz
  intro hZ hX
  have z0 := hZ.out.cell 0 _ rfl
  have z1 := hZ.out.cell 1 _ rfl
  have z2 := hZ.out.cell 2 _ rfl
  have z3 := hZ.out.cell 3 _ rfl
  have z4 := hZ.out.cell 4 _ rfl
  exact bodyPost_ret (v := .tuple #[.agg #[.int .i64 c, .int .i64 wd, .bool s, .int .i64 r, .int .i64 i], .bool true]) (by simp [results, Try.results51, go_sem, z0, z1, z2, z3, z4]) rfl ⟨rfl, hX.out⟩
set_option maxRecDepth 100000 in
set_option maxHeartbeats 1000000 in
theorem validTrap_no (c wd : Int) (s : Bool) (r i : Int) (w : World) (hb : decide (Ok ⟨c, wd, s, r, i⟩) = false) :
    Calls Try.prog 51 #[.agg #[.int .i64 c, .int .i64 wd, .bool s, .int .i64 r, .int .i64 i]] w fun e w' => e = .returned (.tuple #[.agg #[.int .i64 0, .int .i64 0, .bool false, .int .i64 0, .int .i64 0], .bool false]) ∧ Below w.heap.size w w' := by
  have HB := Lib.hid hb
  clear hb
  go_enter Try.func51, Try.ntmps51
  go_wp2_with fail
  refine (implIs_c c wd s r i _ false HB.out).mono ?_
  rintro e w1 ⟨rfl, hb⟩
  have hP := Blk.kept hb (Blk.alloc (Blk.new w #[.int .i64 c, .int .i64 wd, .bool s, .int .i64 r, .int .i64 i] 25) _)
  have hN := Blk.kept hb (Blk.new _ _ _)
  rw [size1] at hN
  have hR := Lib.hid hN
  have hW := Lib.hid (below_then (below_more (below_more (Below.refl w.heap.size w) _) _) hb)
  have p0 := hP.cell 0 _ rfl
  have p1 := hP.cell 1 _ rfl
  have p2 := hP.cell 2 _ rfl
  have p3 := hP.cell 3 _ rfl
  have p4 := hP.cell 4 _ rfl
  clear hb hN hP
  have q0 := hR.out.cell 0 _ rfl
  have f0 := hR.out.free 0
  have q1 := hR.out.cell 1 _ rfl
  have f1 := hR.out.free 1
  have q2 := hR.out.cell 2 _ rfl
  have f2 := hR.out.free 2
  have q3 := hR.out.cell 3 _ rfl
  have f3 := hR.out.free 3
  have q4 := hR.out.cell 4 _ rfl
  have f4 := hR.out.free 4
  go_wp2_with fail
  have hZ := Lib.hid (((((hR.out.set 0 (.int .i64 0)).set 1 (.int .i64 0)).set 2 (.bool false)).set 3 (.int .i64 0)).set 4 (.int .i64 0))
  have hX := Lib.hid (below_set (below_set (below_set (below_set (below_set hW.out (g := w.heap.size + 1) (j := 0) (by omega) (.int .i64 0)) (g := w.heap.size + 1) (j := 1) (by omega) (.int .i64 0)) (g := w.heap.size + 1) (j := 2) (by omega) (.bool false)) (g := w.heap.size + 1) (j := 3) (by omega) (.int .i64 0)) (g := w.heap.size + 1) (j := 4) (by omega) (.int .i64 0))
  clear q0 f0 q1 f1 q2 f2 q3 f3 q4 f4 p0 p1 p2 p3 p4
  revert hZ hX
  generalize (World.setCell (World.setCell (World.setCell (World.setCell (World.setCell w1 _ _) _ _) _ _) _ _) _ _) = wz
  intro hZ hX
  have z0 := hZ.out.cell 0 _ rfl
  have z1 := hZ.out.cell 1 _ rfl
  have z2 := hZ.out.cell 2 _ rfl
  have z3 := hZ.out.cell 3 _ rfl
  have z4 := hZ.out.cell 4 _ rfl
  exact bodyPost_ret (v := .tuple #[.agg #[.int .i64 0, .int .i64 0, .bool false, .int .i64 0, .int .i64 0], .bool false]) (by simp [results, Try.results51, go_sem, z0, z1, z2, z3, z4]) rfl ⟨rfl, hX.out⟩
theorem okAns_yes {x y : Trp} {b : Bool} (h : okAns x = (y, b)) (hx : Ok x) : y = x ∧ b = true := by
  unfold okAns at h
  rw [if_pos hx] at h
  exact ⟨(congrArg Prod.fst h).symm, (congrArg Prod.snd h).symm⟩
theorem okAns_no {x y : Trp} {b : Bool} (h : okAns x = (y, b)) (hx : ¬ Ok x) : y = ⟨0, 0, false, 0, 0⟩ ∧ b = false := by
  unfold okAns at h
  rw [if_neg hx] at h
  exact ⟨(congrArg Prod.fst h).symm, (congrArg Prod.snd h).symm⟩
set_option maxRecDepth 100000 in
set_option maxHeartbeats 1000000 in
theorem validTrap_any (c wd : Int) (s : Bool) (r i : Int) (g0 g1 : Int) (g2 : Bool) (g3 g4 : Int) (b : Bool) (w : World) (h : okAns ⟨c, wd, s, r, i⟩ = (⟨g0, g1, g2, g3, g4⟩, b)) :
    Calls Try.prog 51 #[.agg #[.int .i64 c, .int .i64 wd, .bool s, .int .i64 r, .int .i64 i]] w fun e w' => e = .returned (.tuple #[.agg #[.int .i64 g0, .int .i64 g1, .bool g2, .int .i64 g3, .int .i64 g4], .bool b]) ∧ Below w.heap.size w w' := by
  by_cases hx : Ok ⟨c, wd, s, r, i⟩
  · obtain ⟨h1, rfl⟩ := okAns_yes h hx
    simp only [Trp.mk.injEq] at h1
    obtain ⟨rfl, rfl, rfl, rfl, rfl⟩ := h1
    exact validTrap_yes _ _ _ _ _ w (decide_eq_true hx)
  · obtain ⟨h1, rfl⟩ := okAns_no h hx
    simp only [Trp.mk.injEq] at h1
    obtain ⟨rfl, rfl, rfl, rfl, rfl⟩ := h1
    exact validTrap_no c wd s r i w (decide_eq_false hx)
set_option maxRecDepth 100000 in
set_option maxHeartbeats 1000000 in
theorem implTrapOf_any (n : Int) (g0 g1 : Int) (g2 : Bool) (g3 g4 : Int) (b : Bool) (w : World) (h : okAns (trapOf n) = (⟨g0, g1, g2, g3, g4⟩, b)) :
    Calls Try.prog 19 #[.int .i64 n] w fun e w' => e = .returned (.tuple #[.agg #[.int .i64 g0, .int .i64 g1, .bool g2, .int .i64 g3, .int .i64 g4], .bool b]) ∧ Below w.heap.size w w' := by
  have HU : Hid (trapOf n = ⟨n / 16777216, n / 1048576 % 8, decide (n / 8388608 % 2 = 1), n / 65536 % 16, n % 65536⟩) := Lib.hid rfl
  have k1 := m7 (n / 1048576)
  have k2 := m1 (n / 8388608)
  have k3 := m15 (n / 65536)
  have k4 := mask16 n
  obtain ⟨q, hq⟩ : ∃ q, n / 8388608 % 2 = q := ⟨_, rfl⟩
  have k5 : (q == 1) = decide (n / 8388608 % 2 = 1) := by rw [hq, Bool.eq_iff_iff]; simp
  rw [hq] at k2
  obtain ⟨y, hy⟩ : ∃ y, trapOf n = y := ⟨_, rfl⟩
  rw [hy] at HU h
  clear hy
  obtain ⟨c, wd, s, r, i⟩ := y
  have hU := HU.out
  simp only [Trp.mk.injEq] at hU
  obtain ⟨e1, e2, e3, e4, e5⟩ := hU
  rw [← e2] at k1
  rw [← e3] at k5
  rw [← e4] at k3
  rw [← e5] at k4
  have e1' := e1.symm
  clear e1 e2 e3 e4 e5 hq HU
  have HH := Lib.hid h
  clear h
  go_enter Try.func19, Try.ntmps19
  go_wp2_with fail
  refine (validTrap_any c wd s r i g0 g1 g2 g3 g4 b _ HH.out).mono ?_
  rintro e w1 ⟨rfl, hb⟩
  have hR := Lib.hid (Blk.kept hb (Blk.new w _ _))
  have hW := Lib.hid (below_then (below_more (Below.refl w.heap.size w) _) hb)
  clear hb
  have q0 := hR.out.cell 0 _ rfl
  have f0 := hR.out.free 0
  have q1 := hR.out.cell 1 _ rfl
  have f1 := hR.out.free 1
  have q2 := hR.out.cell 2 _ rfl
  have f2 := hR.out.free 2
  have q3 := hR.out.cell 3 _ rfl
  have f3 := hR.out.free 3
  have q4 := hR.out.cell 4 _ rfl
  have f4 := hR.out.free 4
  go_wp2_with fail
  have hZ := Lib.hid (((((hR.out.set 0 (.int .i64 g0)).set 1 (.int .i64 g1)).set 2 (.bool g2)).set 3 (.int .i64 g3)).set 4 (.int .i64 g4))
  have hX := Lib.hid (below_set (below_set (below_set (below_set (below_set hW.out (g := w.heap.size) (j := 0) (Nat.le_refl _) (.int .i64 g0)) (g := w.heap.size) (j := 1) (Nat.le_refl _) (.int .i64 g1)) (g := w.heap.size) (j := 2) (Nat.le_refl _) (.bool g2)) (g := w.heap.size) (j := 3) (Nat.le_refl _) (.int .i64 g3)) (g := w.heap.size) (j := 4) (Nat.le_refl _) (.int .i64 g4))
  clear q0 f0 q1 f1 q2 f2 q3 f3 q4 f4
  revert hZ hX
  generalize (World.setCell (World.setCell (World.setCell (World.setCell (World.setCell w1 _ _) _ _) _ _) _ _) _ _) = wz
  intro hZ hX
  have z0 := hZ.out.cell 0 _ rfl
  have z1 := hZ.out.cell 1 _ rfl
  have z2 := hZ.out.cell 2 _ rfl
  have z3 := hZ.out.cell 3 _ rfl
  have z4 := hZ.out.cell 4 _ rfl
  exact bodyPost_ret (v := .tuple #[.agg #[.int .i64 g0, .int .i64 g1, .bool g2, .int .i64 g3, .int .i64 g4], .bool b]) (by simp [results, Try.results19, go_sem, z0, z1, z2, z3, z4]) rfl ⟨rfl, hX.out⟩
set_option maxRecDepth 100000 in
set_option maxHeartbeats 1000000 in
theorem specTrapOf_any (n : Int) (g0 g1 : Int) (g2 : Bool) (g3 g4 : Int) (b : Bool) (w : World) (h : okAns (trapOf n) = (⟨g0, g1, g2, g3, g4⟩, b)) :
    Calls Try.prog 18 #[.int .i64 n] w fun e w' => e = .returned (.tuple #[.agg #[.int .i64 g0, .int .i64 g1, .bool g2, .int .i64 g3, .int .i64 g4], .bool b]) ∧ Below w.heap.size w w' := by
  by_cases hn : n < 0
  · have hx : ¬ Ok (trapOf n) := fun h' => by have := (ok_bounds h').1; simp only [trapOf] at this; omega
    obtain ⟨h1, rfl⟩ := okAns_no h hx
    simp only [Trp.mk.injEq] at h1
    obtain ⟨rfl, rfl, rfl, rfl, rfl⟩ := h1
    clear hx h
    go_enter Try.func18, Try.ntmps18
    go_wp2_with fail
    exact bodyPost_ret (by simp [results, Try.results18, go_sem]) rfl ⟨rfl, below_more (Below.refl _ _) _⟩
  have hn0 : 0 ≤ n := by omega
  have HU : Hid (trapOf n = ⟨n / 16777216, n / 1048576 % 8, decide (n / 8388608 % 2 = 1), n / 65536 % 16, n % 65536⟩) := Lib.hid rfl
  have k1 := m7 (n / 1048576)
  have k2 := m1 (n / 8388608)
  have k3 := m15 (n / 65536)
  have k4 := mask16 n
  obtain ⟨q, hq⟩ : ∃ q, n / 8388608 % 2 = q := ⟨_, rfl⟩
  have k5 : (q == 1) = decide (n / 8388608 % 2 = 1) := by rw [hq, Bool.eq_iff_iff]; simp
  rw [hq] at k2
  obtain ⟨y, hy⟩ : ∃ y, trapOf n = y := ⟨_, rfl⟩
  rw [hy] at HU h
  clear hy
  obtain ⟨c, wd, s, r, i⟩ := y
  have hU := HU.out
  simp only [Trp.mk.injEq] at hU
  obtain ⟨e1, e2, e3, e4, e5⟩ := hU
  rw [← e2] at k1
  rw [← e3] at k5
  rw [← e4] at k3
  rw [← e5] at k4
  have e1' := e1.symm
  clear e1 e2 e3 e4 e5 hq HU
  by_cases hx : Ok ⟨c, wd, s, r, i⟩
  · obtain ⟨h1, rfl⟩ := okAns_yes h hx
    simp only [Trp.mk.injEq] at h1
    obtain ⟨d0, d1, d2, d3, d4⟩ := h1
    rw [d0, d1, d2, d3, d4]
    clear d0 d1 d2 d3 d4
    have HB := Lib.hid (decide_eq_true hx)
    clear hx h
    go_enter Try.func18, Try.ntmps18
    go_wp2_with fail
    refine (l5Good_c c wd s r i _ true HB.out).mono ?_
    rintro e w1 ⟨rfl, hb⟩
    have hR := Lib.hid (Blk.kept hb (Blk.alloc (Blk.new w #[.int .i64 0, .int .i64 0, .bool false, .int .i64 0, .int .i64 0] 25) _))
    have hP := Blk.kept hb (Blk.new _ _ _)
    rw [size1] at hP
    have p0 := hP.cell 0 _ rfl
    have p1 := hP.cell 1 _ rfl
    have p2 := hP.cell 2 _ rfl
    have p3 := hP.cell 3 _ rfl
    have p4 := hP.cell 4 _ rfl
    have hW := Lib.hid (below_then (below_more (below_more (Below.refl w.heap.size w) _) _) hb)
    clear hb hP
    have q0 := hR.out.cell 0 _ rfl
    have f0 := hR.out.free 0
    have q1 := hR.out.cell 1 _ rfl
    have f1 := hR.out.free 1
    have q2 := hR.out.cell 2 _ rfl
    have f2 := hR.out.free 2
    have q3 := hR.out.cell 3 _ rfl
    have f3 := hR.out.free 3
    have q4 := hR.out.cell 4 _ rfl
    have f4 := hR.out.free 4
    go_wp2_with fail
    have hZ := Lib.hid (((((hR.out.set 0 (.int .i64 c)).set 1 (.int .i64 wd)).set 2 (.bool s)).set 3 (.int .i64 r)).set 4 (.int .i64 i))
    have hX := Lib.hid (below_set (below_set (below_set (below_set (below_set hW.out (g := w.heap.size) (j := 0) (Nat.le_refl _) (.int .i64 c)) (g := w.heap.size) (j := 1) (Nat.le_refl _) (.int .i64 wd)) (g := w.heap.size) (j := 2) (Nat.le_refl _) (.bool s)) (g := w.heap.size) (j := 3) (Nat.le_refl _) (.int .i64 r)) (g := w.heap.size) (j := 4) (Nat.le_refl _) (.int .i64 i))
    clear q0 f0 q1 f1 q2 f2 q3 f3 q4 f4 p0 p1 p2 p3 p4
    revert hZ hX
    generalize (World.setCell (World.setCell (World.setCell (World.setCell (World.setCell w1 _ _) _ _) _ _) _ _) _ _) = wz
    intro hZ hX
    have z0 := hZ.out.cell 0 _ rfl
    have z1 := hZ.out.cell 1 _ rfl
    have z2 := hZ.out.cell 2 _ rfl
    have z3 := hZ.out.cell 3 _ rfl
    have z4 := hZ.out.cell 4 _ rfl
    exact bodyPost_ret (v := .tuple #[.agg #[.int .i64 c, .int .i64 wd, .bool s, .int .i64 r, .int .i64 i], .bool true]) (by simp [results, Try.results18, go_sem, z0, z1, z2, z3, z4]) rfl ⟨rfl, hX.out⟩
  · obtain ⟨h1, rfl⟩ := okAns_no h hx
    simp only [Trp.mk.injEq] at h1
    obtain ⟨d0, d1, d2, d3, d4⟩ := h1
    rw [d0, d1, d2, d3, d4]
    clear d0 d1 d2 d3 d4
    have HB := Lib.hid (decide_eq_false hx)
    clear hx h
    go_enter Try.func18, Try.ntmps18
    go_wp2_with fail
    refine (l5Good_c c wd s r i _ false HB.out).mono ?_
    rintro e w1 ⟨rfl, hb⟩
    have hR := Lib.hid (Blk.kept hb (Blk.alloc (Blk.new w #[.int .i64 0, .int .i64 0, .bool false, .int .i64 0, .int .i64 0] 25) _))
    have hP := Blk.kept hb (Blk.new _ _ _)
    rw [size1] at hP
    have p0 := hP.cell 0 _ rfl
    have p1 := hP.cell 1 _ rfl
    have p2 := hP.cell 2 _ rfl
    have p3 := hP.cell 3 _ rfl
    have p4 := hP.cell 4 _ rfl
    have hW := Lib.hid (below_then (below_more (below_more (Below.refl w.heap.size w) _) _) hb)
    clear hb hP
    have q0 := hR.out.cell 0 _ rfl
    have f0 := hR.out.free 0
    have q1 := hR.out.cell 1 _ rfl
    have f1 := hR.out.free 1
    have q2 := hR.out.cell 2 _ rfl
    have f2 := hR.out.free 2
    have q3 := hR.out.cell 3 _ rfl
    have f3 := hR.out.free 3
    have q4 := hR.out.cell 4 _ rfl
    have f4 := hR.out.free 4
    go_wp2_with fail
    have hZ := Lib.hid (((((hR.out.set 0 (.int .i64 0)).set 1 (.int .i64 0)).set 2 (.bool false)).set 3 (.int .i64 0)).set 4 (.int .i64 0))
    have hX := Lib.hid (below_set (below_set (below_set (below_set (below_set hW.out (g := w.heap.size) (j := 0) (Nat.le_refl _) (.int .i64 0)) (g := w.heap.size) (j := 1) (Nat.le_refl _) (.int .i64 0)) (g := w.heap.size) (j := 2) (Nat.le_refl _) (.bool false)) (g := w.heap.size) (j := 3) (Nat.le_refl _) (.int .i64 0)) (g := w.heap.size) (j := 4) (Nat.le_refl _) (.int .i64 0))
    clear q0 f0 q1 f1 q2 f2 q3 f3 q4 f4 p0 p1 p2 p3 p4
    revert hZ hX
    generalize (World.setCell (World.setCell (World.setCell (World.setCell (World.setCell w1 _ _) _ _) _ _) _ _) _ _) = wz
    intro hZ hX
    have z0 := hZ.out.cell 0 _ rfl
    have z1 := hZ.out.cell 1 _ rfl
    have z2 := hZ.out.cell 2 _ rfl
    have z3 := hZ.out.cell 3 _ rfl
    have z4 := hZ.out.cell 4 _ rfl
    exact bodyPost_ret (v := .tuple #[.agg #[.int .i64 0, .int .i64 0, .bool false, .int .i64 0, .int .i64 0], .bool false]) (by simp [results, Try.results18, go_sem, z0, z1, z2, z3, z4]) rfl ⟨rfl, hX.out⟩
end Go.Proofs.Ytaamjnpknmimmaa.L5
