/- What the draws of a trap, a trap's number answer. -/
import Derived.Test.YtaamjnpknmimmaaDoorDrTrp
import Derived.Test.YtaamjnpknmimmaaDoorNew
import Derived.Test.YtaamjnpknmimmaaDoorTrpN
namespace Go.Proofs.YtaamjnpknmimmaaDoor.Draw
open Go Go.RowKit Go.Proofs.YtaamjnpknmimmaaDoor.Mem Go.Proofs.YtaamjnpknmimmaaDoor.Own
set_option linter.unusedVariables false
/-- some trap, and nothing that was there has turned -/
def TrapDrawn (w : World) (e : Ending) (w' : World) : Prop :=
  ∃ (c wd : Int) (s : Bool) (r i : Int), e = .returned (.agg #[.int .i64 c, .int .i64 wd, .bool s, .int .i64 r, .int .i64 i]) ∧ Below w.heap.size w w'
def NumDrawn (w : World) (e : Ending) (w' : World) : Prop := ∃ x : Int, e = .returned (.int .i64 x) ∧ Below w.heap.size w w'
set_option maxRecDepth 100000 in
set_option maxHeartbeats 1000000 in
theorem drawIsTrap_any (w : World) (A : Option Addr) (n cp : Nat) (zs : List Int) (hz : ∀ z ∈ zs, 0 ≤ z ∧ z ≤ 255) (hr : Reads w w.heap.size 1 A n (zs.map (Value.int .u8))) (hn : n ≤ 1000000) :
    Calls Tryd.prog 24 #[.slice A n cp] w (TrapDrawn w) := by
  have hr2 := (hr.alloc (Nat.le_refl _) (.cells #[.int .i64 0, .int .i64 0, .bool false, .int .i64 0, .int .i64 0] 26)).more (alloc_le w (.cells #[.int .i64 0, .int .i64 0, .bool false, .int .i64 0, .int .i64 0] 26))
  have hcn := cur_new _ A n cp zs hr2
  rw [size1] at hcn
  have HC := Lib.hid hcn
  have HZ := Lib.hid hz
  clear hr hr2 hz hcn
  go_enter Tryd.func24, Tryd.ntmps24
  go_wp2_with fail
  refine (trap_any _ (w.heap.size + 1) (w.heap.size + 1) A n cp zs 0 HZ.out HC.out (by omega) hn).mono ?_
  rintro e w1 ⟨c, wd, s, r, i, rfl, _, hg⟩
  have HQ := Lib.hid (blk_draw ((Blk.new w #[.int .i64 0, .int .i64 0, .bool false, .int .i64 0, .int .i64 0] 26).alloc (.cells #[.slice A n cp, .int .i64 0, .int .u64 0] 56)) hg (by omega))
  have HW := Lib.hid (below_cur (below_more (below_more (Below.refl w.heap.size w) (.cells #[.int .i64 0, .int .i64 0, .bool false, .int .i64 0, .int .i64 0] 26)) (.cells #[.slice A n cp, .int .i64 0, .int .u64 0] 56)) hg (by omega))
  clear hg HC
  have q0 := HQ.out.cell 0 _ rfl
  have f0 := HQ.out.free 0
  have q1 := HQ.out.cell 1 _ rfl
  have f1 := HQ.out.free 1
  have q2 := HQ.out.cell 2 _ rfl
  have f2 := HQ.out.free 2
  have q3 := HQ.out.cell 3 _ rfl
  have f3 := HQ.out.free 3
  have q4 := HQ.out.cell 4 _ rfl
  have f4 := HQ.out.free 4
  go_wp2_with fail
  have hZ := Lib.hid (((((HQ.out.set 0 (.int .i64 c)).set 1 (.int .i64 wd)).set 2 (.bool s)).set 3 (.int .i64 r)).set 4 (.int .i64 i))
  have hX := Lib.hid (below_set (below_set (below_set (below_set (below_set HW.out (g := w.heap.size) (j := 0) (Nat.le_refl _) (.int .i64 c)) (g := w.heap.size) (j := 1) (Nat.le_refl _) (.int .i64 wd)) (g := w.heap.size) (j := 2) (Nat.le_refl _) (.bool s)) (g := w.heap.size) (j := 3) (Nat.le_refl _) (.int .i64 r)) (g := w.heap.size) (j := 4) (Nat.le_refl _) (.int .i64 i))
  clear q0 f0 q1 f1 q2 f2 q3 f3 q4 f4
  revert hZ hX
  generalize (World.setCell (World.setCell (World.setCell (World.setCell (World.setCell _ _ _) _ _) _ _) _ _) _ _) = wz
  intro hZ hX
  have z0 := hZ.out.cell 0 _ rfl
  have z1 := hZ.out.cell 1 _ rfl
  have z2 := hZ.out.cell 2 _ rfl
  have z3 := hZ.out.cell 3 _ rfl
  have z4 := hZ.out.cell 4 _ rfl
  exact bodyPost_ret (v := .agg #[.int .i64 c, .int .i64 wd, .bool s, .int .i64 r, .int .i64 i]) (by simp [results, Tryd.results24, go_sem, z0, z1, z2, z3, z4]) rfl ⟨c, wd, s, r, i, rfl, hX.out⟩
set_option maxRecDepth 100000 in
set_option maxHeartbeats 1000000 in
theorem drawSyn_any (w : World) (A : Option Addr) (n cp : Nat) (zs : List Int) (hz : ∀ z ∈ zs, 0 ≤ z ∧ z ≤ 255) (hr : Reads w w.heap.size 1 A n (zs.map (Value.int .u8))) (hn : n ≤ 1000000) :
    Calls Tryd.prog 9 #[.slice A n cp] w (TrapDrawn w) := by
  have hr2 := (hr.alloc (Nat.le_refl _) (.cells #[.int .i64 0, .int .i64 0, .bool false, .int .i64 0, .int .i64 0] 26)).more (alloc_le w (.cells #[.int .i64 0, .int .i64 0, .bool false, .int .i64 0, .int .i64 0] 26))
  have HD := Lib.hid (drawIsTrap_any _ A n cp zs hz hr2 hn)
  clear hr hr2 hz
  go_enter Tryd.func9, Tryd.ntmps9
  go_wp2_with fail
  refine HD.out.mono ?_
  rintro e w1 ⟨c, wd, s, r, i, rfl, hb⟩
  have HQ := Lib.hid (Blk.kept hb (Blk.new w #[.int .i64 0, .int .i64 0, .bool false, .int .i64 0, .int .i64 0] 26))
  have HW := Lib.hid (below_then (below_more (Below.refl w.heap.size w) _) hb)
  clear hb HD
  have q0 := HQ.out.cell 0 _ rfl
  have f0 := HQ.out.free 0
  have q1 := HQ.out.cell 1 _ rfl
  have f1 := HQ.out.free 1
  have q2 := HQ.out.cell 2 _ rfl
  have f2 := HQ.out.free 2
  have q3 := HQ.out.cell 3 _ rfl
  have f3 := HQ.out.free 3
  have q4 := HQ.out.cell 4 _ rfl
  have f4 := HQ.out.free 4
  go_wp2_with fail
  have hZ := Lib.hid (((((HQ.out.set 0 (.int .i64 c)).set 1 (.int .i64 wd)).set 2 (.bool s)).set 3 (.int .i64 r)).set 4 (.int .i64 i))
  have hX := Lib.hid (below_set (below_set (below_set (below_set (below_set HW.out (g := w.heap.size) (j := 0) (Nat.le_refl _) (.int .i64 c)) (g := w.heap.size) (j := 1) (Nat.le_refl _) (.int .i64 wd)) (g := w.heap.size) (j := 2) (Nat.le_refl _) (.bool s)) (g := w.heap.size) (j := 3) (Nat.le_refl _) (.int .i64 r)) (g := w.heap.size) (j := 4) (Nat.le_refl _) (.int .i64 i))
  clear q0 f0 q1 f1 q2 f2 q3 f3 q4 f4
  revert hZ hX
  generalize (World.setCell (World.setCell (World.setCell (World.setCell (World.setCell _ _ _) _ _) _ _) _ _) _ _) = wz
  intro hZ hX
  have z0 := hZ.out.cell 0 _ rfl
  have z1 := hZ.out.cell 1 _ rfl
  have z2 := hZ.out.cell 2 _ rfl
  have z3 := hZ.out.cell 3 _ rfl
  have z4 := hZ.out.cell 4 _ rfl
  exact bodyPost_ret (v := .agg #[.int .i64 c, .int .i64 wd, .bool s, .int .i64 r, .int .i64 i]) (by simp [results, Tryd.results9, go_sem, z0, z1, z2, z3, z4]) rfl ⟨c, wd, s, r, i, rfl, hX.out⟩
set_option maxRecDepth 100000 in
set_option maxHeartbeats 1000000 in
theorem drawTrapOf_any (w : World) (A : Option Addr) (n cp : Nat) (zs : List Int) (hz : ∀ z ∈ zs, 0 ≤ z ∧ z ≤ 255) (hr : Reads w w.heap.size 1 A n (zs.map (Value.int .u8))) (hn : n ≤ 1000000) :
    Calls Tryd.prog 14 #[.slice A n cp] w (NumDrawn w) := by
  have HC := Lib.hid (cur_new w A n cp zs hr)
  have HZ := Lib.hid hz
  have HB := Lib.hid (below_more (Below.refl w.heap.size w) (.cells #[.slice A n cp, .int .i64 0, .int .u64 0] 56))
  clear hr hz
  go_enter Tryd.func14, Tryd.ntmps14
  go_wp2_with fail
  refine (trap_any _ w.heap.size w.heap.size A n cp zs 0 HZ.out HC.out (by omega) hn).mono ?_
  rintro e w1 ⟨c, wd, s, r, i, rfl, ⟨t1, ht1, hc⟩, hg⟩
  replace HB := Lib.hid (below_cur HB.out hg (Nat.le_refl _))
  replace HC := Lib.hid hc
  clear hg hc
  obtain ⟨y, hy⟩ : ∃ y, L5.synAns ⟨c, wd, s, r, i⟩ = y := ⟨_, rfl⟩
  obtain ⟨m, b⟩ := y
  have HY := Lib.hid hy
  clear hy
  go_wp2_with fail
  refine (L5.specSyn_any c wd s r i m b _ HY.out).mono ?_
  rintro e w2 ⟨rfl, hb⟩
  replace HC := Lib.hid (HC.out.below hb)
  replace HB := Lib.hid (below_then HB.out hb)
  clear hb
  go_wp2_with fail
  refine (among_list _ w.heap.size w.heap.size A n cp zs t1 HZ.out HC.out (by omega) hn [0, 0, 0, 0, 1, -1, 65536, 262144, 1048576, 8388608, 33554432] _ rfl 3 11 rfl (by omega) (by omega)).mono ?_
  rintro e w3 ⟨x, rfl, _, _, hg⟩
  replace HB := Lib.hid (below_cur HB.out hg (Nat.le_refl _))
  clear hg
  go_wp2_with fail
  go_ret
  exact ⟨_, rfl, HB.out⟩
end Go.Proofs.YtaamjnpknmimmaaDoor.Draw
