/- What the comparison of slots that impl.pendingSlots hands to slices.SortFunc answers. -/
import Derived.Test.YtadpjkghfgnbbaaCmp
import Derived.Test.YtadpjkghfgnbbaaSloB
import Derived.Test.YtadpjkghfgnbbaaSltA
import Derived.Test.YtadpjkghfgnbbaaBlk
import Derived.Deep.Cut
import Derived.StillTailTactics
import Derived.Shelf.SlSortCmp.QuietGrown
namespace Go.Proofs.Ytadpjkghfgnbbaa.L8
open Go Go.RowKit Go.Proofs.Ytadpjkghfgnbbaa.Mem Go.Proofs.Ytadpjkghfgnbbaa.Own
/-- the comparison of two slots -/
def cmpS (x y : Slt) : Int := if cmpZ x.pr y.pr = 0 then cmpZ x.iq y.iq else cmpZ x.pr y.pr
theorem cmpS_lt (x y : Slt) : cmpS x y < 0 ↔ more x y = true := by
  unfold cmpS cmpZ more
  rw [decide_eq_true_eq]
  by_cases h1 : x.pr < y.pr
  · rw [if_pos h1]; simp [h1]
  · by_cases h2 : y.pr < x.pr
    · rw [if_neg h1, if_pos h2]
      simp only [show ¬ ((1 : Int) = 0) by omega, if_false]
      omega
    · rw [if_neg h1, if_neg h2]
      simp only [if_true]
      by_cases h3 : x.iq < y.iq
      · rw [if_pos h3]; omega
      · rw [if_neg h3]
        split <;> omega
theorem grow3 (w : World) (a b c : Obj) : (((w.alloc a).alloc b).drew).alloc c = Sort.grow (w.drewN 1) #[a, b, c] := by
  have h : ((w.alloc a).alloc b).drew = ((w.drewN 1).alloc a).alloc b := rfl
  rw [h, Sort.alloc_eq_grow, Sort.alloc_eq_grow, Sort.alloc_eq_grow, Sort.grow_grow, Sort.grow_grow]
  rfl
set_option maxRecDepth 100000 in
set_option maxHeartbeats 2000000 in
theorem byUrgency_c (x0 x1 x2 y0 y1 y2 r : Int) (hr : cmpS ⟨x0, x1, x2⟩ ⟨y0, y1, y2⟩ = r) (w : World) :
    Calls Try.prog 78 #[.agg #[.int .i64 x0, .int .i64 x1, .int .i64 x2], .agg #[.int .i64 y0, .int .i64 y1, .int .i64 y2]] w fun e w' => e = .returned (.int .i64 r) ∧ ∃ q os, w' = Sort.grow (w.drewN q) os := by
  obtain ⟨r1, hr1⟩ : ∃ r, cmpZ x2 y2 = r := ⟨_, rfl⟩
  obtain ⟨r2, hr2⟩ : ∃ r, cmpZ x1 y1 = r := ⟨_, rfl⟩
  unfold cmpS at hr
  simp only at hr
  rw [hr1, hr2] at hr
  have H1 := Lib.hid hr1
  have H2 := Lib.hid hr2
  have H3 := Lib.hid hr
  clear hr hr1 hr2
  obtain ⟨wb, hwb⟩ : ∃ wb, (w.alloc (.cells #[.int .i64 x0, .int .i64 x1, .int .i64 x2] 33)).alloc (.cells #[.int .i64 y0, .int .i64 y1, .int .i64 y2] 33) = wb := ⟨_, rfl⟩
  have hbx : Blk wb w.heap.size 33 #[.int .i64 x0, .int .i64 x1, .int .i64 x2] := by rw [← hwb]; exact (Blk.new _ _ _).alloc _
  have hby : Blk wb (w.heap.size + 1) 33 #[.int .i64 y0, .int .i64 y1, .int .i64 y2] := by rw [← hwb, ← size1 w (.cells #[.int .i64 x0, .int .i64 x1, .int .i64 x2] 33)]; exact Blk.new _ _ _
  have HWB := Lib.hid hwb
  have a1 : wb.cell? ⟨w.heap.size, 1, none⟩ = some (.int .i64 x1) := hbx.cell 1 _ rfl
  have a2 : wb.cell? ⟨w.heap.size, 2, none⟩ = some (.int .i64 x2) := hbx.cell 2 _ rfl
  have b1 : wb.cell? ⟨w.heap.size + 1, 1, none⟩ = some (.int .i64 y1) := hby.cell 1 _ rfl
  have b2 : wb.cell? ⟨w.heap.size + 1, 2, none⟩ = some (.int .i64 y2) := hby.cell 2 _ rfl
  clear hwb hbx hby
  go_enter Try.func78, Try.ntmps78
  go_upto_region 1 with fail
  rw [HWB.out]
  obtain ⟨wd, hwd⟩ : ∃ wd, wb.drew = wd := ⟨_, rfl⟩
  have HWD := Lib.hid hwd
  replace a1 : wd.cell? ⟨w.heap.size, 1, none⟩ = some (.int .i64 x1) := by rw [← hwd]; exact a1
  replace a2 : wd.cell? ⟨w.heap.size, 2, none⟩ = some (.int .i64 x2) := by rw [← hwd]; exact a2
  replace b1 : wd.cell? ⟨w.heap.size + 1, 1, none⟩ = some (.int .i64 y1) := by rw [← hwd]; exact b1
  replace b2 : wd.cell? ⟨w.heap.size + 1, 2, none⟩ = some (.int .i64 y2) := by rw [← hwd]; exact b2
  refine wp_region_still_tail 10 (by kernel_rfl) (by kernel_rfl) ?_
  change wpStill _ _ wb.drew (fun a' => wpList _ _ _ _ a' wb.drew) _ _
  rw [hwd]
  clear hwd
  simp only [List.take_succ_cons, List.take_zero, List.drop_succ_cons, List.drop_zero]
  repeat still_step
  still_call ((compare_any x2 y2 r1 H1.out wd).mono (fun _ _ h => ⟨h.1, h.2.symm⟩))
  repeat still_step
  still_call ((compare_any x1 y1 r2 H2.out wd).mono (fun _ _ h => ⟨h.1, h.2.symm⟩))
  repeat still_step
  try refine wpStill_nil ?_
  have k0 : (wd.alloc (.cells #[.int .i64 r1, .int .i64 r2] 3)).cell? ⟨wd.heap.size, 0, none⟩ = some (.int .i64 r1) := (Blk.new wd _ _).cell 0 _ rfl
  have k1 : (wd.alloc (.cells #[.int .i64 r1, .int .i64 r2] 3)).cell? ⟨wd.heap.size, 1, none⟩ = some (.int .i64 r2) := (Blk.new wd _ _).cell 1 _ rfl
  clear a1 a2 b1 b2
  go_wp2_with fail
  refine (or_any wd.heap.size r1 r2 r H3.out _ k0 k1).mono ?_
  rintro e w1 ⟨rfl, rfl⟩
  clear k0 k1
  go_wp2_with fail
  go_ret
  exact ⟨rfl, 1, _, by rw [← HWD.out, ← HWB.out]; exact grow3 _ _ _ _⟩
set_option maxRecDepth 100000 in
set_option maxHeartbeats 2000000 in
theorem pnCmp_any (g : Nat) (A : Option Addr) (c a b : Nat) (xs : List Slt) (w : World) (hb : w.cell? ⟨g, 0, none⟩ = some (.slice A 4 c)) (hr : Reads w w.heap.size 3 A 4 (FL xs)) (ha : a < 4) (hb4 : b < 4) :
    Calls Try.prog 77 #[.int .i64 a, .int .i64 b, .pointer (some ⟨g, 0, none⟩)] w fun e w' => e = .returned (.int .i64 (cmpS (xs.getD a default) (xs.getD b default))) ∧ ∃ q os, w' = Sort.grow (w.drewN q) os := by
  obtain ⟨b1, o1, x, rfl, _, hu, c0, c1, c2⟩ := slt_at hr ha
  obtain ⟨b2, o2, y, e2, _, hv, d0, d1, d2⟩ := slt_at hr hb4
  simp only [Option.some.injEq, Addr.mk.injEq, and_true] at e2
  obtain ⟨rfl, rfl⟩ := e2
  rw [getD_atS hu, getD_atS hv]
  obtain ⟨x0, x1, x2⟩ := x
  obtain ⟨y0, y1, y2⟩ := y
  simp only at c0 c1 c2 d0 d1 d2
  obtain ⟨r, hr3⟩ : ∃ r, cmpS ⟨x0, x1, x2⟩ ⟨y0, y1, y2⟩ = r := ⟨_, rfl⟩
  rw [hr3]
  have HR := Lib.hid hr3
  have haz : (a : Int) < 4 := by omega
  have hbz : (b : Int) < 4 := by omega
  clear hr hu hv hr3
  go_enter Try.func77, Try.ntmps77
  go_upto_region 1 with fail
  have kb := cell_grown (block_lt_of_cell hb) hb
  have m0 := cell_grown (block_lt_of_cell c0) c0
  have m1 := cell_grown (block_lt_of_cell c1) c1
  have m2 := cell_grown (block_lt_of_cell c2) c2
  have n0 := cell_grown (block_lt_of_cell d0) d0
  have n1 := cell_grown (block_lt_of_cell d1) d1
  have n2 := cell_grown (block_lt_of_cell d2) d2
  have cU := fun n os => Calls.grown_of (byUrgency_c x0 x1 x2 y0 y1 y2 r HR.out (Sort.grow (w.drewN n) os))
  clear hb c0 c1 c2 d0 d1 d2
  refine wp_region_quiet_grown (by kernel_rfl) (by kernel_rfl) ?_
  repeat (quiet_step (exact cU _ _))
  refine wpQuiet_nil ?_
  intro _ hw'
  obtain ⟨⟨nq, osq⟩, hw''⟩ := hw'
  subst hw''
  clear kb m0 m1 m2 n0 n1 n2 cU
  go_wp2_with fail
  go_ret
  exact ⟨rfl, nq, osq, rfl⟩
end Go.Proofs.Ytadpjkghfgnbbaa.L8
