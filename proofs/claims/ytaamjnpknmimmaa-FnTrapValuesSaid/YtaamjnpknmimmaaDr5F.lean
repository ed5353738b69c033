/- What the draw of a loaded value answers. -/
import Derived.Test.YtaamjnpknmimmaaDr5D
namespace Go.Proofs.Ytaamjnpknmimmaa.Draw
open Go Go.RowKit Go.Proofs.Ytaamjnpknmimmaa.Mem Go.Proofs.Ytaamjnpknmimmaa.Own
set_option linter.unusedVariables false
theorem quo24 (x : Int) (h0 : 0 ≤ x) (h1 : x < 24) : ∃ m : Nat, x.tdiv 11 = m ∧ (0 : Int) ≤ m ∧ (m : Int) ≤ 2 ∧ IntKind.i64.wrap (m : Int) = m ∧ IntKind.i64.wrap (5 + (m : Int)) = 5 + (m : Int) ∧ (5 + (m : Int)).toNat = 5 + m := by
  obtain ⟨a, b⟩ := quo11 x h0 (by omega)
  obtain ⟨m, hm⟩ : ∃ m : Nat, x.tdiv 11 = m := ⟨(x.tdiv 11).toNat, by omega⟩
  exact ⟨m, hm, by omega, by omega, IntWalk.i64_in _ (by omega), IntWalk.i64_in _ (by omega), by omega⟩
set_option maxRecDepth 100000 in
set_option maxHeartbeats 8000000 in
theorem drawLd_any (w : World) (A : Option Addr) (n cp : Nat) (zs : List Int) (hz : ∀ z ∈ zs, 0 ≤ z ∧ z ≤ 255) (hr : Reads w w.heap.size 1 A n (zs.map (Value.int .u8))) (hn : n ≤ 1000000) :
    Calls Try.prog 42 #[.slice A n cp] w (LoadDrawn w) := by
  have hr2 := (hr.alloc (Nat.le_refl _) (.cells #[.int .i64 0, .int .i64 0, .bool false, .int .i64 0, .int .i64 0] 25)).more (alloc_le w (.cells #[.int .i64 0, .int .i64 0, .bool false, .int .i64 0, .int .i64 0] 25))
  have hcn := cur_new _ A n cp zs hr2
  rw [size1] at hcn
  have HC := Lib.hid hcn
  have HZ := Lib.hid hz
  clear hr hr2 hz hcn
  go_enter Try.func42, Try.ntmps42
  go_wp2_with fail
  refine (devTrap_any _ (w.heap.size + 1) (w.heap.size + 1) A n cp zs 0 HZ.out HC.out (by omega) hn).mono ?_
  rintro e w1 ⟨c, wd, s, r, i, rfl, ⟨t1, ht1, hc⟩, hg⟩
  have hsz := hg.size
  rw [size1, size1] at hsz
  have H0 : DV w (w1.alloc (.cells #[.int .i64 c, .int .i64 wd, .bool s, .int .i64 r, .int .i64 i] 25)) A n cp zs t1 w1.heap.size #[.int .i64 c, .int .i64 wd, .bool s, .int .i64 r, .int .i64 i] :=
    ⟨hc.alloc _, (blk_draw ((Blk.new w #[.int .i64 0, .int .i64 0, .bool false, .int .i64 0, .int .i64 0] 25).alloc (.cells #[.slice A n cp, .int .i64 0, .int .u64 0] 75)) hg (by omega)).alloc _, Blk.new w1 _ _, by omega, below_more (below_cur (below_more (below_more (Below.refl w.heap.size w) (.cells #[.int .i64 0, .int .i64 0, .bool false, .int .i64 0, .int .i64 0] 25)) (.cells #[.slice A n cp, .int .i64 0, .int .u64 0] 75)) hg (by omega)) _⟩
  have H := Lib.hid H0
  obtain ⟨T, hT⟩ : ∃ T, w1.heap.size = T := ⟨_, rfl⟩
  obtain ⟨wa, hwa⟩ : ∃ wa, w1.alloc (.cells #[.int .i64 c, .int .i64 wd, .bool s, .int .i64 r, .int .i64 i] 25) = wa := ⟨_, rfl⟩
  rw [hwa, hT] at H
  have HW := Lib.hid hwa
  have HT := Lib.hid hT
  clear HC hc hg hwa hT H0 hsz
  go_upto_region 3 with fail
  rw [HW.out, HT.out]
  clear HW HT
  go_wp2_with fail
  refine (words5_any wa (w.heap.size + 1) (w.heap.size + 1) A n cp zs t1 HZ.out H.out.cur (by omega) hn).mono ?_
  rintro e w2 ⟨v, L, rfl, hL, hown, ⟨t2, ht2, hc⟩, hg⟩
  have hgl := H.out.hgl
  have HL := Lib.hid (Nat.lt_trans (Nat.lt_succ_self w.heap.size) H.out.hgl)
  replace H := Lib.hid (H.out.draw hg hc)
  have HO := Lib.hid hown
  obtain ⟨A1, c1, rfl, _, _⟩ := own_form hown
  clear hown hc hg
  go_upto_region 4 with fail
  have HD := Lib.hid (H.out.below (w' := w2.drew) (below_drew1 w2))
  have HE := Lib.hid (H.out.below (w' := (w2.alloc (.cells #[.int .i64 0, .int .i64 255, .int .i64 256, .int .i64 65537, .int .i64 4294967295, .int .i64 (-1), .int .i64 4294967296] 3)).drew) (below_then (below_more (Below.refl _ _) _) (below_drew1 _)))
  have HC1 := Lib.hid (pick_any w2.drew (w.heap.size + 1) (w.heap.size + 1) A n cp zs t2 HZ.out HD.out.cur (by omega) hn 24 (by omega) (by omega))
  have HC2 := Lib.hid (pick_any (w2.alloc (.cells #[.int .i64 0, .int .i64 255, .int .i64 256, .int .i64 65537, .int .i64 4294967295, .int .i64 (-1), .int .i64 4294967296] 3)).drew (w.heap.size + 1) (w.heap.size + 1) A n cp zs t2 HZ.out HE.out.cur (by omega) hn 24 (by omega) (by omega))
  have k0 := H.out.loc.cell 0 _ rfl
  have kd0 : w2.drew.cell? _ = _ := H.out.loc.cell 0 _ rfl
  have ka0 : (w2.alloc (.cells #[.int .i64 0, .int .i64 255, .int .i64 256, .int .i64 65537, .int .i64 4294967295, .int .i64 (-1), .int .i64 4294967296] 3)).cell? _ = _ := (H.out.loc.alloc _).cell 0 _ rfl
  have kb0 : (w2.alloc (.cells #[.int .i64 0, .int .i64 255, .int .i64 256, .int .i64 65537, .int .i64 4294967295, .int .i64 (-1), .int .i64 4294967296] 3)).drew.cell? _ = _ := (H.out.loc.alloc (.cells #[.int .i64 0, .int .i64 255, .int .i64 256, .int .i64 65537, .int .i64 4294967295, .int .i64 (-1), .int .i64 4294967296] 3)).cell 0 _ rfl
  have k1 := H.out.loc.cell 1 _ rfl
  have kd1 : w2.drew.cell? _ = _ := H.out.loc.cell 1 _ rfl
  have ka1 : (w2.alloc (.cells #[.int .i64 0, .int .i64 255, .int .i64 256, .int .i64 65537, .int .i64 4294967295, .int .i64 (-1), .int .i64 4294967296] 3)).cell? _ = _ := (H.out.loc.alloc _).cell 1 _ rfl
  have kb1 : (w2.alloc (.cells #[.int .i64 0, .int .i64 255, .int .i64 256, .int .i64 65537, .int .i64 4294967295, .int .i64 (-1), .int .i64 4294967296] 3)).drew.cell? _ = _ := (H.out.loc.alloc (.cells #[.int .i64 0, .int .i64 255, .int .i64 256, .int .i64 65537, .int .i64 4294967295, .int .i64 (-1), .int .i64 4294967296] 3)).cell 1 _ rfl
  have k2 := H.out.loc.cell 2 _ rfl
  have kd2 : w2.drew.cell? _ = _ := H.out.loc.cell 2 _ rfl
  have ka2 : (w2.alloc (.cells #[.int .i64 0, .int .i64 255, .int .i64 256, .int .i64 65537, .int .i64 4294967295, .int .i64 (-1), .int .i64 4294967296] 3)).cell? _ = _ := (H.out.loc.alloc _).cell 2 _ rfl
  have kb2 : (w2.alloc (.cells #[.int .i64 0, .int .i64 255, .int .i64 256, .int .i64 65537, .int .i64 4294967295, .int .i64 (-1), .int .i64 4294967296] 3)).drew.cell? _ = _ := (H.out.loc.alloc (.cells #[.int .i64 0, .int .i64 255, .int .i64 256, .int .i64 65537, .int .i64 4294967295, .int .i64 (-1), .int .i64 4294967296] 3)).cell 2 _ rfl
  have k3 := H.out.loc.cell 3 _ rfl
  have kd3 : w2.drew.cell? _ = _ := H.out.loc.cell 3 _ rfl
  have ka3 : (w2.alloc (.cells #[.int .i64 0, .int .i64 255, .int .i64 256, .int .i64 65537, .int .i64 4294967295, .int .i64 (-1), .int .i64 4294967296] 3)).cell? _ = _ := (H.out.loc.alloc _).cell 3 _ rfl
  have kb3 : (w2.alloc (.cells #[.int .i64 0, .int .i64 255, .int .i64 256, .int .i64 65537, .int .i64 4294967295, .int .i64 (-1), .int .i64 4294967296] 3)).drew.cell? _ = _ := (H.out.loc.alloc (.cells #[.int .i64 0, .int .i64 255, .int .i64 256, .int .i64 65537, .int .i64 4294967295, .int .i64 (-1), .int .i64 4294967296] 3)).cell 3 _ rfl
  have k4 := H.out.loc.cell 4 _ rfl
  have kd4 : w2.drew.cell? _ = _ := H.out.loc.cell 4 _ rfl
  have ka4 : (w2.alloc (.cells #[.int .i64 0, .int .i64 255, .int .i64 256, .int .i64 65537, .int .i64 4294967295, .int .i64 (-1), .int .i64 4294967296] 3)).cell? _ = _ := (H.out.loc.alloc _).cell 4 _ rfl
  have kb4 : (w2.alloc (.cells #[.int .i64 0, .int .i64 255, .int .i64 256, .int .i64 65537, .int .i64 4294967295, .int .i64 (-1), .int .i64 4294967296] 3)).drew.cell? _ = _ := (H.out.loc.alloc (.cells #[.int .i64 0, .int .i64 255, .int .i64 256, .int .i64 65537, .int .i64 4294967295, .int .i64 (-1), .int .i64 4294967296] 3)).cell 4 _ rfl
  have HBK := Lib.hid (Blk.kept (below_drew1 (w2.alloc (.cells #[.int .i64 0, .int .i64 255, .int .i64 256, .int .i64 65537, .int .i64 4294967295, .int .i64 (-1), .int .i64 4294967296] 3))) (Blk.new w2 #[.int .i64 0, .int .i64 255, .int .i64 256, .int .i64 65537, .int .i64 4294967295, .int .i64 (-1), .int .i64 4294967296] 3))
  have HOE := Lib.hid (own_below (w' := (w2.alloc (.cells #[.int .i64 0, .int .i64 255, .int .i64 256, .int .i64 65537, .int .i64 4294967295, .int .i64 (-1), .int .i64 4294967296] 3)).drew) (HO.out.alloc (.cells #[.int .i64 0, .int .i64 255, .int .i64 256, .int .i64 65537, .int .i64 4294967295, .int .i64 (-1), .int .i64 4294967296] 3)) (below_drew1 _))
  have HOD := Lib.hid (own_below (w' := w2.drew) HO.out (below_drew1 _))
  clear HO
  have hne : w2.heap.size ≠ w.heap.size + 1 := by have := H.out.hgl; omega
  go_region_with (first | (go_at_call 63; (with_reducible refine HC1.out.mono ?_); rintro e w3 ⟨x, rfl, hx, hy, ⟨t3, ht3, hc⟩, hg⟩; clear k0 k1 k2 k3 k4; replace H := Lib.hid (HD.out.draw hg hc); replace HOE := Lib.hid (own_cur HOD.out hg hgl); clear hc hg HC1 HC2 HE HD HBK HOD; have k0 := H.out.loc.cell 0 _ rfl; have mm0 : (w3.alloc (.cells #[.int .i64 0, .int .i64 255, .int .i64 256, .int .i64 65537, .int .i64 4294967295, .int .i64 (-1), .int .i64 4294967296] 3)).cell? _ = _ := (H.out.loc.alloc _).cell 0 _ rfl; have k1 := H.out.loc.cell 1 _ rfl; have mm1 : (w3.alloc (.cells #[.int .i64 0, .int .i64 255, .int .i64 256, .int .i64 65537, .int .i64 4294967295, .int .i64 (-1), .int .i64 4294967296] 3)).cell? _ = _ := (H.out.loc.alloc _).cell 1 _ rfl; have k2 := H.out.loc.cell 2 _ rfl; have mm2 : (w3.alloc (.cells #[.int .i64 0, .int .i64 255, .int .i64 256, .int .i64 65537, .int .i64 4294967295, .int .i64 (-1), .int .i64 4294967296] 3)).cell? _ = _ := (H.out.loc.alloc _).cell 2 _ rfl; have k3 := H.out.loc.cell 3 _ rfl; have mm3 : (w3.alloc (.cells #[.int .i64 0, .int .i64 255, .int .i64 256, .int .i64 65537, .int .i64 4294967295, .int .i64 (-1), .int .i64 4294967296] 3)).cell? _ = _ := (H.out.loc.alloc _).cell 3 _ rfl; have k4 := H.out.loc.cell 4 _ rfl; have mm4 : (w3.alloc (.cells #[.int .i64 0, .int .i64 255, .int .i64 256, .int .i64 65537, .int .i64 4294967295, .int .i64 (-1), .int .i64 4294967296] 3)).cell? _ = _ := (H.out.loc.alloc _).cell 4 _ rfl; obtain ⟨m, hm, hm0, hm2, hmw, hm5, hmn⟩ := quo24 x hx hy) | (go_at_call 63; ((with_reducible refine HC2.out.mono ?_); rintro e w3 ⟨x, rfl, hx, hy, ⟨t3, ht3, hc⟩, hg⟩; have hb := blk_draw HBK.out hg hne; replace HOE := Lib.hid (own_cur HOE.out hg hgl); clear k0 k1 k2 k3 k4; replace H := Lib.hid (HE.out.draw hg hc); clear hc hg HC1 HC2; have k0 := H.out.loc.cell 0 _ rfl; have k1 := H.out.loc.cell 1 _ rfl; have k2 := H.out.loc.cell 2 _ rfl; have k3 := H.out.loc.cell 3 _ rfl; have k4 := H.out.loc.cell 4 _ rfl; clear HD HE HBK HOD; obtain ⟨m, hm, hm0, hm2, hmw, hm5, hmn⟩ := quo24 x hx hy)) | (go_at_call 62; (refine (among_part w3 (w.heap.size + 1) (w.heap.size + 1) A n cp zs t3 w2.heap.size (5 + m) 7 HZ.out H.out.cur (by omega) hn [0, 255, 256, 65537, 4294967295, -1, 4294967296] 3 hb hne (by omega) (by simp only [List.length_cons, List.length_nil]; omega) (by decide) (by omega)).mono ?_; rintro e w4 ⟨y, rfl, ⟨t4, ht4, hc⟩, hg⟩; clear k0 k1 k2 k3 k4; replace H := Lib.hid (H.out.draw hg hc); replace HOE := Lib.hid (own_cur HOE.out hg hgl); clear hc hg hb; have k0 := H.out.loc.cell 0 _ rfl; have k1 := H.out.loc.cell 1 _ rfl; have k2 := H.out.loc.cell 2 _ rfl; have k3 := H.out.loc.cell 3 _ rfl; have k4 := H.out.loc.cell 4 _ rfl; have q0 := H.out.res.cell 0 _ rfl; have f0 := H.out.res.free 0; have q1 := H.out.res.cell 1 _ rfl; have f1 := H.out.res.free 1; have q2 := H.out.res.cell 2 _ rfl; have f2 := H.out.res.free 2; have q3 := H.out.res.cell 3 _ rfl; have f3 := H.out.res.free 3; have q4 := H.out.res.cell 4 _ rfl; have f4 := H.out.res.free 4)) | (go_at_call 62; refine (among_part (w3.alloc (.cells #[.int .i64 0, .int .i64 255, .int .i64 256, .int .i64 65537, .int .i64 4294967295, .int .i64 (-1), .int .i64 4294967296] 3)) (w.heap.size + 1) (w.heap.size + 1) A n cp zs t3 w3.heap.size (5 + m) 7 HZ.out (H.out.below (below_more (Below.refl _ _) _)).cur (by omega) hn [0, 255, 256, 65537, 4294967295, -1, 4294967296] 3 (Blk.new w3 _ _) (by have := H.out.hgl; omega) (by omega) (by simp only [List.length_cons, List.length_nil]; omega) (by decide) (by omega)).mono ?_; rintro e w4 ⟨y, rfl, ⟨t4, ht4, hc⟩, hg⟩; clear k0 k1 k2 k3 k4 mm0 mm1 mm2 mm3 mm4; replace H := Lib.hid ((H.out.below (below_more (Below.refl _ _) _)).draw hg hc); replace HOE := Lib.hid (own_cur (HOE.out.alloc _) hg hgl); clear hc hg; have k0 := H.out.loc.cell 0 _ rfl; have k1 := H.out.loc.cell 1 _ rfl; have k2 := H.out.loc.cell 2 _ rfl; have k3 := H.out.loc.cell 3 _ rfl; have k4 := H.out.loc.cell 4 _ rfl; have q0 := H.out.res.cell 0 _ rfl; have f0 := H.out.res.free 0; have q1 := H.out.res.cell 1 _ rfl; have f1 := H.out.res.free 1; have q2 := H.out.res.cell 2 _ rfl; have f2 := H.out.res.free 2; have q3 := H.out.res.cell 3 _ rfl; have f3 := H.out.res.free 3; have q4 := H.out.res.cell 4 _ rfl; have f4 := H.out.res.free 4) | fail)
  all_goals
    go_wp2_with fail
    have hZ := Lib.hid (((((H.out.res.set 0 (.int .i64 c)).set 1 (.int .i64 wd)).set 2 (.bool s)).set 3 (.int .i64 r)).set 4 (.int .i64 i))
    have hX := Lib.hid (below_set (below_set (below_set (below_set (below_set H.out.bl (g := w.heap.size) (j := 0) (Nat.le_refl _) (.int .i64 c)) (g := w.heap.size) (j := 1) (Nat.le_refl _) (.int .i64 wd)) (g := w.heap.size) (j := 2) (Nat.le_refl _) (.bool s)) (g := w.heap.size) (j := 3) (Nat.le_refl _) (.int .i64 r)) (g := w.heap.size) (j := 4) (Nat.le_refl _) (.int .i64 i))
    have hO := Lib.hid (own_five HOE.out HL.out (.int .i64 c) (.int .i64 wd) (.bool s) (.int .i64 r) (.int .i64 i))
    clear k0 q0 f0 k1 q1 f1 k2 q2 f2 k3 q3 f3 k4 q4 f4
    revert hZ hX hO
    generalize (World.setCell (World.setCell (World.setCell (World.setCell (World.setCell _ _ _) _ _) _ _) _ _) _ _) = wz
    intro hZ hX hO
    have z0 := hZ.out.cell 0 _ rfl
    have z1 := hZ.out.cell 1 _ rfl
    have z2 := hZ.out.cell 2 _ rfl
    have z3 := hZ.out.cell 3 _ rfl
    have z4 := hZ.out.cell 4 _ rfl
    exact bodyPost_ret (v := .tuple #[.agg #[.int .i64 c, .int .i64 wd, .bool s, .int .i64 r, .int .i64 i], .slice A1 L.length c1, .int .i64 y]) (by simp [results, Try.results42, go_sem, z0, z1, z2, z3, z4]) rfl ⟨c, wd, s, r, i, A1, c1, L, y, rfl, hL, hO.out, hX.out⟩
end Go.Proofs.Ytaamjnpknmimmaa.Draw
