/- What spec.EvictSlot answers. -/
import Derived.Test.YtadpjkghfgnbbaaSlTc
import Derived.Test.YtadpjkghfgnbbaaSlEv
import Derived.Deep.RegionWith
namespace Go.Proofs.Ytadpjkghfgnbbaa.L8
open Go Go.RowKit Go.Proofs.Ytadpjkghfgnbbaa.Mem Go.Proofs.Ytadpjkghfgnbbaa.Own Go.Proofs.Ytadpjkghfgnbbaa.L6 Go.Proofs.Ytadpjkghfgnbbaa.L1
set_option maxRecDepth 100000 in
set_option maxHeartbeats 800000 in
theorem specEvict_any (A : Option Addr) (n c : Nat) (xs : List Slt) (w : World) (hr : Reads w w.heap.size 3 A n (FL xs)) (hn : n ≤ 1048576) :
    Calls Try.prog 20 #[.slice A n c] w (EvPost w (evAns xs)) := by
  have HR := Lib.hid hr
  obtain ⟨b, hb⟩ : ∃ b, okB xs = b := ⟨_, rfl⟩
  have HG := Lib.hid hb
  have HI := Lib.hid (fun w hr => l8Good_any A n c _ xs w hr (Nat.le_refl _) hn b HG.out)
  clear hr hb
  cases b
  · have HZ : Hid (evAns xs = ([], nul, false)) := Lib.hid (evAns_no (.inl HG.out))
    rw [HZ.out]
    clear HZ
    obtain ⟨wz, hwz⟩ : ∃ wz, w.alloc (.cells #[.int .i64 0, .int .i64 0, .int .i64 0] 33) = wz := ⟨_, rfl⟩
    have HRZ : Hid (Blk wz w.heap.size 33 #[.int .i64 0, .int .i64 0, .int .i64 0]) := Lib.hid (by rw [← hwz]; exact Blk.new _ _ _)
    have HB0 : Hid (Below w.heap.size w wz) := Lib.hid (by rw [← hwz]; exact below_more (Below.refl _ _) _)
    have HWZ := Lib.hid hwz
    clear hwz
    go_enter Try.func20, Try.ntmps20
    go_upto_region 1 with fail
    rw [HWZ.out]
    clear HWZ
    go_wp2_with fail
    refine (HI.out _ ((HR.out.below HB0.out).more HB0.out.size)).mono ?_
    rintro e w1 ⟨rfl, hb1⟩
    have HB1 := Lib.hid (below_then HB0.out hb1)
    have HR1 := Lib.hid (Blk.kept hb1 HRZ.out)
    clear hb1
    go_upto_region 2 with fail
    obtain ⟨we, hwe⟩ : ∃ we, w1.alloc (.cells #[] 33) = we := ⟨_, rfl⟩
    have HOE : Hid (we.ownsRow w.heap.size 33 3 (.slice (some ⟨w1.heap.size, 0, none⟩) 0 0) 0 []) := Lib.hid (by rw [← hwe]; exact World.ownsRow_made w1 #[] 0 HB1.out.size (Nat.zero_le _) rfl)
    have HBE : Hid (Below w.heap.size w we) := Lib.hid (by rw [← hwe]; exact below_more HB1.out _)
    have HRE : Hid (Blk we w.heap.size 33 #[.int .i64 0, .int .i64 0, .int .i64 0]) := Lib.hid (by rw [← hwe]; exact HR1.out.alloc _)
    have hgn : (Value.slice (some ⟨w1.heap.size, 0, none⟩) 0 0).ownBlock ≠ some w.heap.size := by intro h; injection h with h; exact absurd h (Nat.ne_of_gt HR1.out.lt)
    have z0 : we.cell? ⟨w.heap.size, 0, none⟩ = some (.int .i64 0) := HRE.out.cell 0 _ rfl
    have z1 : we.cell? ⟨w.heap.size, 1, none⟩ = some (.int .i64 0) := HRE.out.cell 1 _ rfl
    have z2 : we.cell? ⟨w.heap.size, 2, none⟩ = some (.int .i64 0) := HRE.out.cell 2 _ rfl
    have zf0 := HRE.out.free 0
    have zf1 := HRE.out.free 1
    have zf2 := HRE.out.free 2
    have H3 := Lib.hid (((HRE.out.set 0 (.int .i64 0)).set 1 (.int .i64 0)).set 2 (.int .i64 0))
    have HO3 := Lib.hid (own_set (own_set (own_set HOE.out (j := 0) (.int .i64 0) hgn) (j := 1) (.int .i64 0) hgn) (j := 2) (.int .i64 0) hgn)
    have HB3 := Lib.hid (below_set (below_set (below_set HBE.out (Nat.le_refl _) (j := 0) (.int .i64 0)) (Nat.le_refl _) (j := 1) (.int .i64 0)) (Nat.le_refl _) (j := 2) (.int .i64 0))
    clear HOE HBE HRE hgn
    go_wp2_with (at_builtin; rw [hwe])
    clear z0 z1 z2 zf0 zf1 zf2
    revert H3 HO3 HB3
    generalize (World.setCell (World.setCell (World.setCell we _ _) _ _) _ _) = wy
    intro H3 HO3 HB3
    have y0 : wy.cell? ⟨w.heap.size, 0, none⟩ = some (.int .i64 0) := H3.out.cell 0 _ rfl
    have y1 : wy.cell? ⟨w.heap.size, 1, none⟩ = some (.int .i64 0) := H3.out.cell 1 _ rfl
    have y2 : wy.cell? ⟨w.heap.size, 2, none⟩ = some (.int .i64 0) := H3.out.cell 2 _ rfl
    exact bodyPost_ret (v := .tuple #[.slice (some ⟨w1.heap.size, 0, none⟩) 0 0, .agg #[.int .i64 0, .int .i64 0, .int .i64 0], .bool false]) (by simp [results, Try.results20, go_sem, y0, y1, y2]) rfl (evPost_nil HO3.out HB3.out)
  have hl : xs.length = 4 := okB_len HG.out
  have h4 : n = 4 := by have h1 : xs.length = n := reads_len HR.out; omega
  subst h4
  rcases bst_is false xs 4 with ⟨hb, _⟩ | ⟨k, hb, hj⟩
  · have HB := Lib.hid hb
    have HZ : Hid (evAns xs = ([], nul, false)) := Lib.hid (evAns_no (.inr HB.out))
    rw [HZ.out]
    clear HZ hb hl
    obtain ⟨wz, hwz⟩ : ∃ wz, w.alloc (.cells #[.int .i64 0, .int .i64 0, .int .i64 0] 33) = wz := ⟨_, rfl⟩
    have HRZ : Hid (Blk wz w.heap.size 33 #[.int .i64 0, .int .i64 0, .int .i64 0]) := Lib.hid (by rw [← hwz]; exact Blk.new _ _ _)
    have HB0 : Hid (Below w.heap.size w wz) := Lib.hid (by rw [← hwz]; exact below_more (Below.refl _ _) _)
    have HWZ := Lib.hid hwz
    clear hwz
    go_enter Try.func20, Try.ntmps20
    go_upto_region 1 with fail
    rw [HWZ.out]
    clear HWZ
    go_wp2_with fail
    refine (HI.out _ ((HR.out.below HB0.out).more HB0.out.size)).mono ?_
    rintro e w1 ⟨rfl, hb1⟩
    have HB1 := Lib.hid (below_then HB0.out hb1)
    have HR1 := Lib.hid (Blk.kept hb1 HRZ.out)
    clear hb1
    go_wp2_with fail
    refine (l8Best_false A c _ xs _ (HR.out.below HB1.out) HB1.out.size).mono ?_
    rintro e w2 ⟨rfl, hb2⟩
    rw [HB.out]
    have HB2 := Lib.hid (below_then HB1.out hb2)
    have HR2 := Lib.hid (Blk.kept hb2 HR1.out)
    clear hb2 HB1 HR1
    go_upto_region 2 with fail
    obtain ⟨we, hwe⟩ : ∃ we, w2.alloc (.cells #[] 33) = we := ⟨_, rfl⟩
    have HOE : Hid (we.ownsRow w.heap.size 33 3 (.slice (some ⟨w2.heap.size, 0, none⟩) 0 0) 0 []) := Lib.hid (by rw [← hwe]; exact World.ownsRow_made w2 #[] 0 HB2.out.size (Nat.zero_le _) rfl)
    have HBE : Hid (Below w.heap.size w we) := Lib.hid (by rw [← hwe]; exact below_more HB2.out _)
    have HRE : Hid (Blk we w.heap.size 33 #[.int .i64 0, .int .i64 0, .int .i64 0]) := Lib.hid (by rw [← hwe]; exact HR2.out.alloc _)
    have hgn : (Value.slice (some ⟨w2.heap.size, 0, none⟩) 0 0).ownBlock ≠ some w.heap.size := by intro h; injection h with h; exact absurd h (Nat.ne_of_gt HR2.out.lt)
    have z0 : we.cell? ⟨w.heap.size, 0, none⟩ = some (.int .i64 0) := HRE.out.cell 0 _ rfl
    have z1 : we.cell? ⟨w.heap.size, 1, none⟩ = some (.int .i64 0) := HRE.out.cell 1 _ rfl
    have z2 : we.cell? ⟨w.heap.size, 2, none⟩ = some (.int .i64 0) := HRE.out.cell 2 _ rfl
    have zf0 := HRE.out.free 0
    have zf1 := HRE.out.free 1
    have zf2 := HRE.out.free 2
    have H3 := Lib.hid (((HRE.out.set 0 (.int .i64 0)).set 1 (.int .i64 0)).set 2 (.int .i64 0))
    have HO3 := Lib.hid (own_set (own_set (own_set HOE.out (j := 0) (.int .i64 0) hgn) (j := 1) (.int .i64 0) hgn) (j := 2) (.int .i64 0) hgn)
    have HB3 := Lib.hid (below_set (below_set (below_set HBE.out (Nat.le_refl _) (j := 0) (.int .i64 0)) (Nat.le_refl _) (j := 1) (.int .i64 0)) (Nat.le_refl _) (j := 2) (.int .i64 0))
    clear HOE HBE HRE hgn
    go_wp2_with (at_builtin; rw [hwe])
    clear z0 z1 z2 zf0 zf1 zf2
    revert H3 HO3 HB3
    generalize (World.setCell (World.setCell (World.setCell we _ _) _ _) _ _) = wy
    intro H3 HO3 HB3
    have y0 : wy.cell? ⟨w.heap.size, 0, none⟩ = some (.int .i64 0) := H3.out.cell 0 _ rfl
    have y1 : wy.cell? ⟨w.heap.size, 1, none⟩ = some (.int .i64 0) := H3.out.cell 1 _ rfl
    have y2 : wy.cell? ⟨w.heap.size, 2, none⟩ = some (.int .i64 0) := H3.out.cell 2 _ rfl
    exact bodyPost_ret (v := .tuple #[.slice (some ⟨w2.heap.size, 0, none⟩) 0 0, .agg #[.int .i64 0, .int .i64 0, .int .i64 0], .bool false]) (by simp [results, Try.results20, go_sem, y0, y1, y2]) rfl (evPost_nil HO3.out HB3.out)
  have hk4 : k < 4 := hj.lt
  have hkz : (k : Int) < 4 := by omega
  have tk : decide ((k : Int) < 0) = false := decide_eq_false (by omega)
  obtain ⟨b, off, x, rfl, hbB, hx, m0, m1, m2⟩ := slt_at HR.out hk4
  have HM0 := Lib.hid m0
  have HM1 := Lib.hid m1
  have HM2 := Lib.hid m2
  have HT := Lib.hid (evAns_yes HG.out hb hx)
  have HLEN : Hid (∀ y, (xs.set k y).length = 4) := Lib.hid (fun y => by rw [List.length_set]; exact hl)
  have HB := Lib.hid hb
  rw [HT.out]
  obtain ⟨x0, x1, x2⟩ := x
  simp only at HM0 HM1 HM2
  clear m0 m1 m2 hb hj hl hx HT
  obtain ⟨wz, hwz⟩ : ∃ wz, w.alloc (.cells #[.int .i64 0, .int .i64 0, .int .i64 0] 33) = wz := ⟨_, rfl⟩
  have HRZ : Hid (Blk wz w.heap.size 33 #[.int .i64 0, .int .i64 0, .int .i64 0]) := Lib.hid (by rw [← hwz]; exact Blk.new _ _ _)
  have HB0 : Hid (Below w.heap.size w wz) := Lib.hid (by rw [← hwz]; exact below_more (Below.refl _ _) _)
  have HWZ := Lib.hid hwz
  clear hwz
  go_enter Try.func20, Try.ntmps20
  go_upto_region 1 with fail
  rw [HWZ.out]
  clear HWZ
  go_wp2_with fail
  refine (HI.out _ ((HR.out.below HB0.out).more HB0.out.size)).mono ?_
  rintro e w1 ⟨rfl, hb1⟩
  have HB1 := Lib.hid (below_then HB0.out hb1)
  have HR1 := Lib.hid (Blk.kept hb1 HRZ.out)
  clear hb1
  go_wp2_with fail
  refine (l8Best_false (some ⟨b, off, none⟩) c _ xs _ (HR.out.below HB1.out) HB1.out.size).mono ?_
  rintro e w2 ⟨rfl, hb2⟩
  rw [HB.out]
  have HB2 := Lib.hid (below_then HB1.out hb2)
  have HR2 := Lib.hid (Blk.kept hb2 HR1.out)
  clear hb2 HB1 HR1
  go_wp2_with fail
  refine (l8Best_false (some ⟨b, off, none⟩) c _ xs _ (HR.out.below HB2.out) HB2.out.size).mono ?_
  rintro e w3 ⟨rfl, hb3⟩
  rw [HB.out]
  have HBZ := Lib.hid (below_then HB2.out hb3)
  have HRR := Lib.hid (Blk.kept hb3 HR2.out)
  clear hb3 HB2 HR2
  go_upto_region 4 with fail
  have n0 : w3.cell? ⟨b, off + k * 3, none⟩ = some (.int .i64 x0) := (HBZ.out.cell (block_lt_of_cell HM0.out)).trans HM0.out
  have n1 : w3.cell? ⟨b, off + k * 3 + 1, none⟩ = some (.int .i64 x1) := (HBZ.out.cell (block_lt_of_cell HM1.out)).trans HM1.out
  have n2 : w3.cell? ⟨b, off + k * 3 + 2, none⟩ = some (.int .i64 x2) := (HBZ.out.cell (block_lt_of_cell HM2.out)).trans HM2.out
  have HC : Hid (Calls Try.prog 58 #[.slice (some ⟨b, off, none⟩) 4 c, .int .i64 k, .agg #[.int .i64 0, .int .i64 0, .int .i64 0]] w3.drew (NewS w3.drew (xs.set k nul))) := Lib.hid (l8With_any (some ⟨b, off, none⟩) c k xs nul w3.drew ((HR.out.below HBZ.out).more HBZ.out.size) hk4)
  have HRD : Hid (Blk w3.drew w.heap.size 33 #[.int .i64 0, .int .i64 0, .int .i64 0]) := Lib.hid HRR.out
  have HBD : Hid (Below w.heap.size w w3.drew) := Lib.hid (below_then HBZ.out (below_dN w3 1))
  have HLT : Hid (w.heap.size < w3.drew.heap.size) := Lib.hid HRR.out.lt
  clear HRR HBZ
  go_region_with (go_at_call 58; refine HC.out.mono ?_; rintro e v1 ⟨g, cc, rfl, hown, hb⟩; have HO := Lib.hid (own_mono hown HBD.out.size); have HBB := Lib.hid (below_then HBD.out hb); have HRV := Lib.hid (Blk.kept hb HRD.out); have hgg : w.heap.size < g := Nat.lt_of_lt_of_le HLT.out ((hown.lt g rfl).1); have o0 : v1.cell? ⟨b, off + k * 3, none⟩ = some (.int .i64 x0) := (HBB.out.cell (block_lt_of_cell HM0.out)).trans HM0.out; have o1 : v1.cell? ⟨b, off + k * 3 + 1, none⟩ = some (.int .i64 x1) := (HBB.out.cell (block_lt_of_cell HM1.out)).trans HM1.out; have o2 : v1.cell? ⟨b, off + k * 3 + 2, none⟩ = some (.int .i64 x2) := (HBB.out.cell (block_lt_of_cell HM2.out)).trans HM2.out; have z0 : v1.cell? ⟨w.heap.size, 0, none⟩ = some (.int .i64 0) := HRV.out.cell 0 _ rfl; have z1 : v1.cell? ⟨w.heap.size, 1, none⟩ = some (.int .i64 0) := HRV.out.cell 1 _ rfl; have z2 : v1.cell? ⟨w.heap.size, 2, none⟩ = some (.int .i64 0) := HRV.out.cell 2 _ rfl; have zf0 := HRV.out.free 0; have zf1 := HRV.out.free 1; have zf2 := HRV.out.free 2; clear hown hb)
  all_goals
    have hgn : (Value.slice (some ⟨g, 0, none⟩) 4 cc).ownBlock ≠ some w.heap.size := by intro h; injection h with h; exact absurd h (Nat.ne_of_gt hgg)
    have H3 := Lib.hid (((HRV.out.set 0 (.int .i64 x0)).set 1 (.int .i64 x1)).set 2 (.int .i64 x2))
    have HO3 := Lib.hid (own_set (own_set (own_set HO.out (j := 0) (.int .i64 x0) hgn) (j := 1) (.int .i64 x1) hgn) (j := 2) (.int .i64 x2) hgn)
    have HB3 := Lib.hid (below_set (below_set (below_set HBB.out (Nat.le_refl _) (j := 0) (.int .i64 x0)) (Nat.le_refl _) (j := 1) (.int .i64 x1)) (Nat.le_refl _) (j := 2) (.int .i64 x2))
    clear n0 n1 n2 o0 o1 o2 z0 z1 z2 zf0 zf1 zf2 hgn HRV HO HBB
    revert H3 HO3 HB3
    generalize (World.setCell (World.setCell (World.setCell v1 _ _) _ _) _ _) = wy
    intro H3 HO3 HB3
    have y0 : wy.cell? ⟨w.heap.size, 0, none⟩ = some (.int .i64 x0) := H3.out.cell 0 _ rfl
    have y1 : wy.cell? ⟨w.heap.size, 1, none⟩ = some (.int .i64 x1) := H3.out.cell 1 _ rfl
    have y2 : wy.cell? ⟨w.heap.size, 2, none⟩ = some (.int .i64 x2) := H3.out.cell 2 _ rfl
    go_wp2_with fail
    exact bodyPost_ret (v := .tuple #[.slice (some ⟨g, 0, none⟩) 4 cc, .agg #[.int .i64 x0, .int .i64 x1, .int .i64 x2], .bool true]) (by simp [results, Try.results20, go_sem, y0, y1, y2]) rfl (evPost_4 (x := ⟨x0, x1, x2⟩) (HLEN.out _) HO3.out HB3.out)
end Go.Proofs.Ytadpjkghfgnbbaa.L8
