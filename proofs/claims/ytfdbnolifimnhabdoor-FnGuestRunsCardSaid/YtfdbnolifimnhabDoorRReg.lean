/- What laws.rRegisters answers on equal registers. -/
import Derived.Test.YtfdbnolifimnhabDoorRInt
import Derived.Test.YtfdbnolifimnhabDoorBlk
import Derived.Deep.Cut
namespace Go.Proofs.YtfdbnolifimnhabDoor.Own
open Go Go.RowKit Go.Proofs.YtfdbnolifimnhabDoor.Mem
set_option maxRecDepth 100000 in
set_option maxHeartbeats 1000000 in
theorem rRegisters_same (A A' : Option Addr) (k c c' : Nat) (L : List Int) (p : Int) (zo st : Bool) (w : World) (hk : k ≤ 1048576) (hx : Reads w w.heap.size 1 A k (I L)) (hy : Reads w w.heap.size 1 A' k (I L)) :
    Calls Tryd.prog 22 #[.agg #[.slice A k c, .int .i64 p, .bool zo, .bool st], .agg #[.slice A' k c', .int .i64 p, .bool zo, .bool st]] w fun e w' => e = .returned (.bool true) ∧ Below w.heap.size w w' := by
  obtain ⟨wb, hwb⟩ : ∃ wb, (w.alloc (.cells #[.slice A k c, .int .i64 p, .bool zo, .bool st] 40)).alloc (.cells #[.slice A' k c', .int .i64 p, .bool zo, .bool st] 40) = wb := ⟨_, rfl⟩
  have hb : Below w.heap.size w wb := by rw [← hwb]; exact below_more (below_more (Below.refl w.heap.size w) _) _
  have B1 : Hid (Blk wb w.heap.size 40 #[.slice A k c, .int .i64 p, .bool zo, .bool st]) := Lib.hid (by rw [← hwb]; exact (Blk.new w _ _).alloc _)
  have B2 : Hid (Blk wb (w.heap.size + 1) 40 #[.slice A' k c', .int .i64 p, .bool zo, .bool st]) := Lib.hid (by rw [← hwb, ← size1 w (.cells #[.slice A k c, .int .i64 p, .bool zo, .bool st] 40)]; exact Blk.new _ _ _)
  have HX := Lib.hid ((hx.below hb).more hb.size)
  have HY := Lib.hid ((hy.below hb).more hb.size)
  have HB := Lib.hid hb
  have HWB := Lib.hid hwb
  clear hx hy hb hwb
  go_enter Tryd.func22, Tryd.ntmps22
  go_upto_region 1 with fail
  rw [HWB.out]
  clear HWB
  have p0 : wb.cell? _ = some (.slice A k c) := B1.out.cell 0 _ rfl
  have q0 : wb.cell? _ = some (.slice A' k c') := B2.out.cell 0 _ rfl
  go_wp2_with fail
  refine (rInts_same A A' k c c' L _ hk HX.out HY.out).mono ?_
  rintro e w3 ⟨rfl, hb3⟩
  replace B1 := Lib.hid (Blk.kept hb3 B1.out)
  replace B2 := Lib.hid (Blk.kept hb3 B2.out)
  replace HB := Lib.hid (below_then HB.out hb3)
  clear hb3 p0 q0
  have p1 := B1.out.cell 1 _ rfl
  have p2 := B1.out.cell 2 _ rfl
  have p3 := B1.out.cell 3 _ rfl
  have q1 := B2.out.cell 1 _ rfl
  have q2 := B2.out.cell 2 _ rfl
  have q3 := B2.out.cell 3 _ rfl
  have e1 : (p == p) = true := by simp
  have e2 : (zo == zo) = true := by simp
  have e3 : (st == st) = true := by simp
  go_wp2_with fail
  go_ret
  exact ⟨rfl, HB.out⟩
end Go.Proofs.YtfdbnolifimnhabDoor.Own
