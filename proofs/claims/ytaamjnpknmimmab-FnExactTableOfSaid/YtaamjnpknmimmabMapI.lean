/- What impl.MapPage answers. -/
import Derived.Test.YtaamjnpknmimmabMapS
import Derived.Test.YtaamjnpknmimmabRepE
import Derived.Test.YtaamjnpknmimmabCopyT
namespace Go.Proofs.Ytaamjnpknmimmab.L4
open Go Go.RowKit Go.Proofs.Ytaamjnpknmimmab.Mem Go.Proofs.Ytaamjnpknmimmab.Own Go.Proofs.Ytaamjnpknmimmab.L1
set_option maxRecDepth 100000 in
set_option maxHeartbeats 4000000 in
theorem implMap_any (A : Option Addr) (n c : Nat) (D : Option Addr) (m d : Nat) (page frame : Int) (write : Bool) (t : Tab) (w : World) (hr : ReadsT w w.heap.size A n D m t) (hn : n ≤ 1048576) (hm : m ≤ 1048576) (hl : ∀ xs ∈ t.leaves, xs.length ≤ 1048576) (T : Tab) (b : Bool) (hT : mapOf t page frame write = (T, b)) :
    Calls Try.prog 41 #[.agg #[.slice A n c, .slice D m d], .int .i64 page, .int .i64 frame, .bool write] w fun e w' => ∃ A' c' D' d', e = .returned (.tuple #[.agg #[.slice A' T.dirs.length c', .slice D' T.leaves.length d'], .bool b]) ∧ OwnT w' w.heap.size w'.heap.size A' T.dirs.length c' D' T.leaves.length d' T ∧ Below w.heap.size w w' := by
  obtain ⟨wb, hwb⟩ : ∃ wb, (w.alloc (.cells #[.slice A n c, .slice D m d] 29)).alloc (.cells #[.slice none 0 0, .slice none 0 0] 29) = wb := ⟨_, rfl⟩
  have hb0 : Below w.heap.size w wb := by rw [← hwb]; exact below_more (below_more (Below.refl _ _) _) _
  have h0 : Blk wb w.heap.size 29 #[.slice A n c, .slice D m d] := by rw [← hwb]; exact Blk.alloc (Blk.new _ _ _) _
  have h1 : Blk wb (w.heap.size + 1) 29 #[.slice none 0 0, .slice none 0 0] := by
    rw [← hwb]
    have h := Blk.new (w.alloc (.cells #[.slice A n c, .slice D m d] 29)) #[.slice none 0 0, .slice none 0 0] 29
    rwa [size1] at h
  have hsz : wb.heap.size = w.heap.size + 1 + 1 := by rw [← hwb, size1, size1]
  have hml := hr.leaves.len
  have HR := Lib.hid (hr.grow hb0)
  have H0 := Lib.hid h0
  have H1 := Lib.hid h1
  have HB0 := Lib.hid hb0
  have HWB := Lib.hid hwb
  have HSZ := Lib.hid hsz
  have k0 := h0.cell 0 _ rfl
  have k1 := h0.cell 1 _ rfl
  clear hr h0 h1 hb0 hwb hsz
  by_cases ok : OkT t
  · by_cases hp : 0 ≤ page ∧ page < 16
    · obtain ⟨p, rfl⟩ : ∃ p : Nat, page = p := ⟨page.toNat, by omega⟩
      have hp16 : p < 16 := by omega
      by_cases hfr : 0 ≤ frame ∧ frame < 16
      · by_cases hz : faultOf t p ≠ 0
        · rcases dir_cases ok hml hp16 with hq | ⟨q, hq, hqm⟩
          · have hTT : T = setE (newLeaf t p) p ⟨frame, write⟩ ∧ b = true := by
              unfold mapOf at hT
              rw [if_pos ⟨ok, hp, hfr, hz⟩, mapT, Int.toNat_natCast, if_pos hq] at hT
              exact ⟨(congrArg Prod.fst hT).symm, (congrArg Prod.snd hT).symm⟩
            obtain ⟨rfl, rfl⟩ := hTT
            clear hT
            have hnd : (newLeaf t p).dirs.length = 4 := by simp [newLeaf, ok.1]
            have hnl : (newLeaf t p).leaves.length = m + 1 := by simp [newLeaf, hml]
            rw [setE_dirs, setE_leaves, hnl, hnd]
            have hQ : dirOf (newLeaf t p) p = (m : Int) := by rw [newLeaf_dir ok.1 hp16, hml]
            have hLF := newLeaf_leaf t p
            rw [hml] at hLF
            have HQw := Lib.hid hQ
            have HLw : Hid (((newLeaf t p).leaves.getD m ([] : List Ent)).length = 4) := Lib.hid (by rw [hLF]; rfl)
            have HD := Lib.hid hq
            have HZF := Lib.hid hz
            obtain ⟨i0, hi, hz0, hz1, hz2⟩ := info_parts leafInfo
            clear hq hz hQ hLF hnd hnl
            go_enter Try.func41, Try.ntmps41
            go_upto_region 1 with fail
            rw [HWB.out]
            clear HWB
            go_wp2_with fail
            refine (implIsTable_any A n c D m d t _ HR.out hn hm hl true (decide_eq_true ok)).mono ?_
            rintro e w1 ⟨rfl, hb⟩
            clear k0 k1
            have HB1 := Lib.hid (below_then HB0.out hb)
            replace HR := Lib.hid (HR.out.grow hb)
            replace H0 := Lib.hid (Blk.kept hb H0.out)
            replace H1 := Lib.hid (Blk.kept hb H1.out)
            have HS1 := Lib.hid hb.size
            have k0 := H0.out.cell 0 _ rfl
            have k1 := H0.out.cell 1 _ rfl
            clear hb HB0
            go_wp2_with fail
            refine (isPage_any p true (decide_eq_true hp) _).mono ?_
            rintro e w2 ⟨rfl, hw⟩
            subst hw
            go_wp2_with fail
            refine (isFrame_any frame true (decide_eq_true hfr) _).mono ?_
            rintro e w2 ⟨rfl, hw⟩
            subst hw
            go_wp2_with fail
            refine (isMapped_any A n c D m d p t _ HR.out ok hp16 false (decide_eq_false HZF.out)).mono ?_
            rintro e w2 ⟨rfl, hb⟩
            clear k0 k1
            have HB2 := Lib.hid (below_then HB1.out hb)
            replace HR := Lib.hid (HR.out.grow hb)
            replace H0 := Lib.hid (Blk.kept hb H0.out)
            replace H1 := Lib.hid (Blk.kept hb H1.out)
            have HS2 := Lib.hid hb.size
            have k0 := H0.out.cell 0 _ rfl
            have k1 := H0.out.cell 1 _ rfl
            clear hb HB1
            go_wp2_with fail
            refine (copyTable_any A n c D m d t _ HR.out ok hm).mono ?_
            rintro e w3 ⟨A', c', D', d', rfl, hown, hb⟩
            have hs2 := hb.size
            have hlow : w.heap.size + 1 + 1 ≤ w2.heap.size := by have := HSZ.out; have := HS1.out; have := HS2.out; omega
            obtain ⟨wc, hwc⟩ : ∃ wc, w3.alloc (.cells #[.slice A' 4 c', .slice D' m d'] 29) = wc := ⟨_, rfl⟩
            obtain ⟨cp, hcp⟩ : ∃ cp, w3.heap.size = cp := ⟨_, rfl⟩
            have hb3 : Below w3.heap.size w3 wc := by rw [← hwc]; exact below_more (Below.refl _ _) _
            have hcc : Blk wc cp 29 #[.slice A' 4 c', .slice D' m d'] := by rw [← hwc, ← hcp]; exact Blk.new _ _ _
            have HB3 := Lib.hid (below_then (below_then HB2.out hb) hb3)
            have HO := Lib.hid ((hown.below hb3).mono (lo' := w.heap.size + 1 + 1) (hi' := cp) hlow (by omega))
            have HCW := Lib.hid hcc.lt
            replace H1 := Lib.hid (Blk.kept hb3 (Blk.kept hb H1.out))
            have HC := Lib.hid hcc
            have HORD : Hid (w.heap.size + 1 + 1 ≤ cp) := Lib.hid (by omega)
            have HWC := Lib.hid hwc
            have HCP := Lib.hid hcp
            have x0 := hcc.cell 0 _ rfl
            have x1 := hcc.cell 1 _ rfl
            clear hown hb hs2 hlow hb3 hcc hwc hcp k0 k1 H0 HB2 HR
            obtain ⟨k, hk⟩ : ∃ k, p / 4 = k := ⟨_, rfl⟩
            have HKK := Lib.hid hk
            have k4 : (k : Int) < 4 := by omega
            have ew : IntKind.i64.wrap ((p : Int) / 4) = (k : Int) := by rw [IntWalk.i64_in _ (by omega)]; omega
            clear hk
            go_upto_region 4 with fail
            rw [HWC.out, HCP.out]
            clear HWC HCP HSZ HS1 HS2
            obtain ⟨bx, rfl, c0, g0, hT2, ho2, hlo, hne⟩ := dir_spot HO.out HD.out hp16 (m : Int)
            rw [HKK.out] at c0 g0 hT2 ho2
            obtain ⟨wd, hwd⟩ : ∃ wd, wc.setCell ⟨bx, k, none⟩ (.int .i64 m) = wd := ⟨_, rfl⟩
            have hord := HORD.out
            have hres := H1.out.other (j := k) (.int .i64 m) (hne _ _ _ H1.out (by decide))
            have hcpy := HC.out.other (j := k) (.int .i64 m) (hne _ _ _ HC.out (by decide))
            have hbel := below_set HB3.out (g := bx) (by omega) (j := k) (.int .i64 m)
            have hszd : wd.heap.size = wc.heap.size := by rw [← hwd]; simp
            rw [hwd] at hT2 ho2 hres hcpy hbel
            have HT2 := Lib.hid hT2
            have HRES := Lib.hid hres
            have HCPY := Lib.hid hcpy
            have HBEL := Lib.hid hbel
            have HWD := Lib.hid hwd
            have hcw : cp < wd.heap.size := hcpy.lt
            clear hT2 ho2 hlo hne hres hcpy hbel hwd hszd HC H1 HO HB3 HCW
            go_upto_region 7 with fail
            rw [HWD.out]
            clear HWD c0 g0 x0 x1
            obtain ⟨vs, hv, hinn⟩ := HT2.out.leaves
            have hv' := hv.own
            have hb0 : Below wd.heap.size wd (wd.alloc (.cells #[.int .i64 (-1), .bool false] 70)).drew := below_then (below_more (Below.refl _ _) (.cells #[.int .i64 (-1), .bool false] 70)) (below_drew1 _)
            have HRB := Lib.hid (show Blk (wd.alloc (.cells #[.int .i64 (-1), .bool false] 70)).drew wd.heap.size 70 #[.int .i64 (-1), .bool false] from Blk.new wd _ _)
            have HB0 := Lib.hid hb0
            have p1 := HCPY.out.cell 1 _ rfl
            have p1a := (HCPY.out.alloc (.cells #[.int .i64 (-1), .bool false] 70)).cell 1 _ rfl
            have p1d : wd.drew.cell? ⟨cp, 1, none⟩ = some (.slice D' m d') := p1
            have HVV := Lib.hid hv'
            have HII := Lib.hid hinn
            clear hb0 hv hinn hv'
            go_region_law (first
              | (refine step_append_lies _ rfl (.tmp 49) (.tmp 53) 27 rfl (w.heap.size + 1 + 1) 74 i0 (.slice none 0 0) 1 24 Try.underlying27 hi hz0 hz1 hz2 rfl (by decide) (.slice D' m d') m vs (by simp [Act.eval]) ((own_below HVV.out hb4).alloc _) ⟨w4.heap.size, 0, none⟩ 1 1 [.slice (some ⟨g4, 0, none⟩) 4 4] (by simp [Act.eval]) rfl (cell_one_new _ _ _) (fun x hx => by simp at hx; subst hx; rfl) (by decide) (by unfold maxLen; omega) (by omega) (by simp; omega) _ rfl ?_; intro g5 cap5 w5 hown5 hgrow5 hat5 hlt5; have c9 := (grown_blk ((Blk.kept hb4 HCPY.out).alloc (.cells #[.slice (some ⟨g4, 0, none⟩) 4 4] 74)) ((own_below HVV.out hb4).alloc _) (by decide) hgrow5).cell 1 _ rfl; have f9 := (grown_blk ((Blk.kept hb4 HCPY.out).alloc (.cells #[.slice (some ⟨g4, 0, none⟩) 4 4] 74)) ((own_below HVV.out hb4).alloc _) (by decide) hgrow5).free 1)
              | (go_simp; go_at_call 91; (with_reducible refine (repeatE_any wd.heap.size (-1) false (wd.alloc (.cells #[.int .i64 (-1), .bool false] 70)).drew HRB.out).mono ?_); rintro e w4 ⟨g4, rfl, hge, hblk, hb4'⟩; have hb4 : Below wd.heap.size wd w4 := below_then HB0.out hb4'; have hbs4 := hb4.size; have c2 := (Blk.kept hb4 HCPY.out).cell 1 _ rfl; have c2a := ((Blk.kept hb4 HCPY.out).alloc (.cells #[.slice (some ⟨g4, 0, none⟩) 4 4] 74)).cell 1 _ rfl))
            all_goals
              have hbx : Below wd.heap.size wd (w4.alloc (.cells #[.slice (some ⟨g4, 0, none⟩) 4 4] 74)) := below_more hb4 (.cells #[.slice (some ⟨g4, 0, none⟩) 4 4] 74)
              have HOO := Lib.hid (own_below HVV.out hbx)
              have HONLY := Lib.hid (Only.set w5 cp 1 (.slice (some ⟨g5, 0, none⟩) (m + 1) cap5))
              have HCP3 := Lib.hid (grown_blk (Blk.kept hbx HCPY.out) HOO.out (by decide) hgrow5)
              have hge2 : wd.heap.size ≤ g4 := Nat.le_trans HB0.out.size hge
              have hleaf : w4.ownsRow wd.heap.size 70 2 (.slice (some ⟨g4, 0, none⟩) 4 4) 4 (FL noLeaf) :=
                ⟨by simp [FL, noLeaf, Cells.cells], .inr ⟨g4, 4, _, rfl, hge2, hblk, Nat.le_refl _, by decide, by rfl, by rfl⟩⟩
              have hI := HII.out.snoc (xs := noLeaf) (Nat.le_of_lt hcw) hb4 hleaf (by omega)
              have hs4 := hgrow5.size
              have hsx : w4.heap.size ≤ (w4.alloc (.cells #[.slice (some ⟨g4, 0, none⟩) 4 4] 74)).heap.size := alloc_le _ _
              have hs6 : (w5.setCell ⟨cp, 1, none⟩ (.slice (some ⟨g5, 0, none⟩) (m + 1) cap5)).heap.size = w5.heap.size := by simp
              have hnlq : newLeaf t p = ⟨t.dirs.set k (m : Int), t.leaves ++ [noLeaf]⟩ := by unfold newLeaf; rw [HKK.out, hml]
              have HOw : Hid (OwnT (w5.setCell ⟨cp, 1, none⟩ (.slice (some ⟨g5, 0, none⟩) (m + 1) cap5)) (w.heap.size + 1 + 1) (w5.setCell ⟨cp, 1, none⟩ (.slice (some ⟨g5, 0, none⟩) (m + 1) cap5)).heap.size (some ⟨bx, 0, none⟩) 4 c' (some ⟨g5, 0, none⟩) (m + 1) cap5 (newLeaf t p)) := Lib.hid (by
                rw [hnlq]
                exact ⟨(((HT2.out.dirs.below hbx).away hgrow5 (apart_types HOO.out (HT2.out.dirs.below hbx).own (by decide))).onlyT HCP3.out (by decide) HONLY.out).mono (Nat.le_refl _) (by omega),
                  vs ++ [.slice (some ⟨g4, 0, none⟩) 4 4], ((Row.of hown5).onlyT HCP3.out (by decide) HONLY.out).mono (Nat.le_refl _) (by omega),
                  (((hI.below (below_more (Below.refl _ _) _)).away HOO.out (by decide) hgrow5).onlyT HCP3.out (by decide) HONLY.out).mono (Nat.le_refl _) (by omega)⟩)
              have H1w := Lib.hid ((grown_blk (Blk.kept hbx HRES.out) HOO.out (by decide) hgrow5).other (j := 1) (.slice (some ⟨g5, 0, none⟩) (m + 1) cap5) (g' := cp) (by omega))
              have HCw : Hid (Blk (w5.setCell ⟨cp, 1, none⟩ (.slice (some ⟨g5, 0, none⟩) (m + 1) cap5)) cp 29 #[.slice (some ⟨bx, 0, none⟩) 4 c', .slice (some ⟨g5, 0, none⟩) (m + 1) cap5]) := Lib.hid (HCP3.out.set 1 _)
              have HBw := Lib.hid (below_set ((HBEL.out.trans (hbx.mono HBEL.out.size)).grown hgrow5 (by have := HBEL.out.size; omega) (fun q hq => by have := (HOO.out.lt q hq).1; omega)) (g := cp) (j := 1) (by omega) (.slice (some ⟨g5, 0, none⟩) (m + 1) cap5))
              clear hbx HOO HONLY HCP3 hge2 hleaf hI hs4 hsx hs6 hnlq hown5 hgrow5 hat5 hlt5 hge hblk hb4' hb4 hbs4 c2 c2a c9 f9 p1 p1a p1d HVV HII HB0 HRB HT2 HRES HCPY HBEL hcw HORD
              revert H1w HCw HOw HBw
              generalize w5.setCell _ _ = wz
              intro HOw H1w HCw HBw
              have HHW := Lib.hid (Nat.le_refl wz.heap.size)
              go_upto_region 8 with fail
              have q0 := HCw.out.cell 0 _ rfl
              have q1 := HCw.out.cell 1 _ rfl
              go_wp2_with fail
              refine (setEntry_all _ _ c' (m + 1) cap5 _ _ p m (newLeaf t p) frame write _ HOw.out HQw.out (by omega) hp16 HLw.out).mono ?_
              rintro e w9 ⟨rfl, hown, honly, hkeep⟩
              have hcp := hkeep _ _ _ HCw.out (by decide)
              have h1p := hkeep _ _ _ H1w.out (by decide)
              have hbp := honly.below HBw.out (by omega)
              have hs9 := honly.size
              replace q0 := hcp.cell 0 _ rfl
              replace q1 := hcp.cell 1 _ rfl
              have r0 := h1p.cell 0 _ rfl
              have r1 := h1p.cell 1 _ rfl
              have r2 := h1p.free 0
              have r3 := h1p.free 1
              have hZ := (Blk.set (Blk.set h1p 0 (.slice (some ⟨bx, 0, none⟩) 4 c')) 1 (.slice (some ⟨g5, 0, none⟩) (m + 1) cap5))
              have hX := below_set (below_set hbp (g := w.heap.size + 1) (j := 0) (by omega) (.slice (some ⟨bx, 0, none⟩) 4 c')) (g := w.heap.size + 1) (j := 1) (by omega) (.slice (some ⟨g5, 0, none⟩) (m + 1) cap5)
              have ho := ((Only.set w9 (w.heap.size + 1) 0 (.slice (some ⟨bx, 0, none⟩) 4 c')).trans (Only.set _ (w.heap.size + 1) 1 (.slice (some ⟨g5, 0, none⟩) (m + 1) cap5)))
              have hT9 := hown.only ho (.inr (by omega))
              have HZ := Lib.hid hZ
              have HX := Lib.hid hX
              have HT9 := Lib.hid hT9
              have HS : Hid (wz.heap.size ≤ ((w9.setCell ⟨w.heap.size + 1, 0, none⟩ (.slice (some ⟨bx, 0, none⟩) 4 c')).setCell ⟨w.heap.size + 1, 1, none⟩ (.slice (some ⟨g5, 0, none⟩) (m + 1) cap5)).heap.size) := Lib.hid (by have := HHW.out; simp; omega)
              clear hZ hX ho hT9 hcp h1p hbp hown honly hs9 hkeep HCw H1w HOw HBw HQw HLw
              go_wp2_with fail
              clear q0 q1 r0 r1 r2 r3
              revert HZ HX HT9 HS
              generalize ((w9.setCell _ _).setCell _ _) = wy
              intro HZ HX HT9 HS
              have z0 := HZ.out.cell 0 _ rfl
              have z1 := HZ.out.cell 1 _ rfl
              exact bodyPost_ret (v := .tuple #[.agg #[.slice (some ⟨bx, 0, none⟩) 4 c', .slice (some ⟨g5, 0, none⟩) (m + 1) cap5], .bool true]) (by simp [results, Try.results41, go_sem, z0, z1]) rfl ⟨_, _, _, _, rfl, HT9.out.mono (by omega) HS.out, HX.out⟩
          · have hTT : T = setE t p ⟨frame, write⟩ ∧ b = true := by
              unfold mapOf at hT
              rw [if_pos ⟨ok, hp, hfr, hz⟩, mapT, Int.toNat_natCast, if_neg (by omega)] at hT
              exact ⟨(congrArg Prod.fst hT).symm, (congrArg Prod.snd hT).symm⟩
            obtain ⟨rfl, rfl⟩ := hTT
            clear hT
            rw [setE_dirs, setE_leaves, hml, ok.1]
            have HLw : Hid ((t.leaves.getD q ([] : List Ent)).length = 4) := Lib.hid (ok.2.2 q (by omega)).2.1
            have HQw := Lib.hid hq
            have HZF := Lib.hid hz
            clear hq hz
            go_enter Try.func41, Try.ntmps41
            go_upto_region 1 with fail
            rw [HWB.out]
            clear HWB
            go_wp2_with fail
            refine (implIsTable_any A n c D m d t _ HR.out hn hm hl true (decide_eq_true ok)).mono ?_
            rintro e w1 ⟨rfl, hb⟩
            clear k0 k1
            have HB1 := Lib.hid (below_then HB0.out hb)
            replace HR := Lib.hid (HR.out.grow hb)
            replace H0 := Lib.hid (Blk.kept hb H0.out)
            replace H1 := Lib.hid (Blk.kept hb H1.out)
            have HS1 := Lib.hid hb.size
            have k0 := H0.out.cell 0 _ rfl
            have k1 := H0.out.cell 1 _ rfl
            clear hb HB0
            go_wp2_with fail
            refine (isPage_any p true (decide_eq_true hp) _).mono ?_
            rintro e w2 ⟨rfl, hw⟩
            subst hw
            go_wp2_with fail
            refine (isFrame_any frame true (decide_eq_true hfr) _).mono ?_
            rintro e w2 ⟨rfl, hw⟩
            subst hw
            go_wp2_with fail
            refine (isMapped_any A n c D m d p t _ HR.out ok hp16 false (decide_eq_false HZF.out)).mono ?_
            rintro e w2 ⟨rfl, hb⟩
            clear k0 k1
            have HB2 := Lib.hid (below_then HB1.out hb)
            replace HR := Lib.hid (HR.out.grow hb)
            replace H0 := Lib.hid (Blk.kept hb H0.out)
            replace H1 := Lib.hid (Blk.kept hb H1.out)
            have HS2 := Lib.hid hb.size
            have k0 := H0.out.cell 0 _ rfl
            have k1 := H0.out.cell 1 _ rfl
            clear hb HB1
            go_wp2_with fail
            refine (copyTable_any A n c D m d t _ HR.out ok hm).mono ?_
            rintro e w3 ⟨A', c', D', d', rfl, hown, hb⟩
            have hs2 := hb.size
            have hlow : w.heap.size + 1 + 1 ≤ w2.heap.size := by have := HSZ.out; have := HS1.out; have := HS2.out; omega
            obtain ⟨wc, hwc⟩ : ∃ wc, w3.alloc (.cells #[.slice A' 4 c', .slice D' m d'] 29) = wc := ⟨_, rfl⟩
            obtain ⟨cp, hcp⟩ : ∃ cp, w3.heap.size = cp := ⟨_, rfl⟩
            have hb3 : Below w3.heap.size w3 wc := by rw [← hwc]; exact below_more (Below.refl _ _) _
            have hcc : Blk wc cp 29 #[.slice A' 4 c', .slice D' m d'] := by rw [← hwc, ← hcp]; exact Blk.new _ _ _
            have HB3 := Lib.hid (below_then (below_then HB2.out hb) hb3)
            have HO := Lib.hid ((hown.below hb3).mono (lo' := w.heap.size + 1 + 1) (hi' := cp) hlow (by omega))
            have HCW := Lib.hid hcc.lt
            replace H1 := Lib.hid (Blk.kept hb3 (Blk.kept hb H1.out))
            have HC := Lib.hid hcc
            have HORD : Hid (w.heap.size + 1 + 1 ≤ cp) := Lib.hid (by omega)
            have HWC := Lib.hid hwc
            have HCP := Lib.hid hcp
            have x0 := hcc.cell 0 _ rfl
            have x1 := hcc.cell 1 _ rfl
            clear hown hb hs2 hlow hb3 hcc hwc hcp k0 k1 H0 HB2 HR
            obtain ⟨k, hk⟩ : ∃ k, p / 4 = k := ⟨_, rfl⟩
            have HKK := Lib.hid hk
            have k4 : (k : Int) < 4 := by omega
            have ew : IntKind.i64.wrap ((p : Int) / 4) = (k : Int) := by rw [IntWalk.i64_in _ (by omega)]; omega
            clear hk
            go_upto_region 4 with fail
            rw [HWC.out, HCP.out]
            clear HWC HCP HSZ HS1 HS2
            obtain ⟨bx, ox, zx, hA, _, hzx, hc⟩ := HO.out.reads.dirs.int_at (k := p / 4) (by omega)
            have hzq : zx = q := by
              have : dirOf t p = zx := by unfold dirOf; rw [List.getD, hzx]; rfl
              rw [← this, HQw.out]
            subst hzq hA
            rw [HKK.out] at hc
            have hqn : ((q : Int) == -1) = false := by simp
            clear hzx
            go_upto_region 8 with fail
            clear hc x0 x1
            have HCw := HC
            have H1w := H1
            have HOw := HO
            have HBw := HB3
            have HHW := Lib.hid (Nat.le_of_lt HCW.out)
            have hord := HORD.out
            clear HC H1 HO HB3 HORD HCW
            have q0 := HCw.out.cell 0 _ rfl
            have q1 := HCw.out.cell 1 _ rfl
            go_wp2_with fail
            refine (setEntry_all _ _ c' (m) d' _ _ p q t frame write _ HOw.out HQw.out (hqm) hp16 HLw.out).mono ?_
            rintro e w9 ⟨rfl, hown, honly, hkeep⟩
            have hcp := hkeep _ _ _ HCw.out (by decide)
            have h1p := hkeep _ _ _ H1w.out (by decide)
            have hbp := honly.below HBw.out (by omega)
            have hs9 := honly.size
            replace q0 := hcp.cell 0 _ rfl
            replace q1 := hcp.cell 1 _ rfl
            have r0 := h1p.cell 0 _ rfl
            have r1 := h1p.cell 1 _ rfl
            have r2 := h1p.free 0
            have r3 := h1p.free 1
            have hZ := (Blk.set (Blk.set h1p 0 (.slice (some ⟨bx, ox, none⟩) 4 c')) 1 (.slice D' (m) d'))
            have hX := below_set (below_set hbp (g := w.heap.size + 1) (j := 0) (by omega) (.slice (some ⟨bx, ox, none⟩) 4 c')) (g := w.heap.size + 1) (j := 1) (by omega) (.slice D' (m) d')
            have ho := ((Only.set w9 (w.heap.size + 1) 0 (.slice (some ⟨bx, ox, none⟩) 4 c')).trans (Only.set _ (w.heap.size + 1) 1 (.slice D' (m) d')))
            have hT9 := hown.only ho (.inr (by omega))
            have HZ := Lib.hid hZ
            have HX := Lib.hid hX
            have HT9 := Lib.hid hT9
            have HS : Hid (cp ≤ ((w9.setCell ⟨w.heap.size + 1, 0, none⟩ (.slice (some ⟨bx, ox, none⟩) 4 c')).setCell ⟨w.heap.size + 1, 1, none⟩ (.slice D' (m) d')).heap.size) := Lib.hid (by have := HHW.out; simp; omega)
            clear hZ hX ho hT9 hcp h1p hbp hown honly hs9 hkeep HCw H1w HOw HBw HQw HLw
            go_wp2_with fail
            clear q0 q1 r0 r1 r2 r3
            revert HZ HX HT9 HS
            generalize ((w9.setCell _ _).setCell _ _) = wy
            intro HZ HX HT9 HS
            have z0 := HZ.out.cell 0 _ rfl
            have z1 := HZ.out.cell 1 _ rfl
            exact bodyPost_ret (v := .tuple #[.agg #[.slice (some ⟨bx, ox, none⟩) 4 c', .slice D' (m) d'], .bool true]) (by simp [results, Try.results41, go_sem, z0, z1]) rfl ⟨_, _, _, _, rfl, HT9.out.mono (by omega) HS.out, HX.out⟩
        · have hTT : T = noTab ∧ b = false := by
            unfold mapOf at hT
            rw [if_neg (fun h => hz h.2.2.2)] at hT
            exact ⟨(congrArg Prod.fst hT).symm, (congrArg Prod.snd hT).symm⟩
          obtain ⟨rfl, rfl⟩ := hTT
          clear hT
          go_enter Try.func41, Try.ntmps41
          go_upto_region 1 with fail
          rw [HWB.out]
          clear HWB
          go_wp2_with fail
          refine (implIsTable_any A n c D m d t _ HR.out hn hm hl true (decide_eq_true ok)).mono ?_
          rintro e w1 ⟨rfl, hb⟩
          clear k0 k1
          have HB1 := Lib.hid (below_then HB0.out hb)
          replace HR := Lib.hid (HR.out.grow hb)
          replace H0 := Lib.hid (Blk.kept hb H0.out)
          replace H1 := Lib.hid (Blk.kept hb H1.out)
          have HS1 := Lib.hid hb.size
          have k0 := H0.out.cell 0 _ rfl
          have k1 := H0.out.cell 1 _ rfl
          clear hb HB0
          go_wp2_with fail
          refine (isPage_any p true (decide_eq_true hp) _).mono ?_
          rintro e w2 ⟨rfl, hw⟩
          subst hw
          go_wp2_with fail
          refine (isFrame_any frame true (decide_eq_true hfr) _).mono ?_
          rintro e w2 ⟨rfl, hw⟩
          subst hw
          go_wp2_with fail
          refine (isMapped_any A n c D m d p t _ HR.out ok hp16 true (decide_eq_true (by omega))).mono ?_
          rintro e w2 ⟨rfl, hb⟩
          clear k0 k1
          have HB2 := Lib.hid (below_then HB1.out hb)
          replace HR := Lib.hid (HR.out.grow hb)
          replace H0 := Lib.hid (Blk.kept hb H0.out)
          replace H1 := Lib.hid (Blk.kept hb H1.out)
          have HS2 := Lib.hid hb.size
          have k0 := H0.out.cell 0 _ rfl
          have k1 := H0.out.cell 1 _ rfl
          clear hb HB1
          have r0 := H1.out.cell 0 _ rfl
          have r1 := H1.out.cell 1 _ rfl
          have r2 := H1.out.free 0
          have r3 := H1.out.free 1
          have hZ := (Blk.set (Blk.set H1.out 0 (.slice none 0 0)) 1 (.slice none 0 0))
          have hX := below_set (below_set HB2.out (g := w.heap.size + 1) (j := 0) (by omega) (.slice none 0 0)) (g := w.heap.size + 1) (j := 1) (by omega) (.slice none 0 0)
          have HZ := Lib.hid hZ
          have HX := Lib.hid hX
          clear hZ hX
          go_wp2_with fail
          clear r0 r1 r2 r3 k0 k1
          revert HZ HX
          generalize ((World.setCell _ _ _).setCell _ _) = wz
          intro HZ HX
          have z0 := HZ.out.cell 0 _ rfl
          have z1 := HZ.out.cell 1 _ rfl
          exact bodyPost_ret (v := .tuple #[.agg #[.slice none 0 0, .slice none 0 0], .bool false]) (by simp [results, Try.results41, go_sem, z0, z1]) rfl ⟨none, 0, none, 0, rfl, own_none _ _ _, HX.out⟩
      · have hTT : T = noTab ∧ b = false := by
          unfold mapOf at hT
          rw [if_neg (fun h => hfr h.2.2.1)] at hT
          exact ⟨(congrArg Prod.fst hT).symm, (congrArg Prod.snd hT).symm⟩
        obtain ⟨rfl, rfl⟩ := hTT
        clear hT
        go_enter Try.func41, Try.ntmps41
        go_upto_region 1 with fail
        rw [HWB.out]
        clear HWB
        go_wp2_with fail
        refine (implIsTable_any A n c D m d t _ HR.out hn hm hl true (decide_eq_true ok)).mono ?_
        rintro e w1 ⟨rfl, hb⟩
        clear k0 k1
        have HB1 := Lib.hid (below_then HB0.out hb)
        replace HR := Lib.hid (HR.out.grow hb)
        replace H0 := Lib.hid (Blk.kept hb H0.out)
        replace H1 := Lib.hid (Blk.kept hb H1.out)
        have HS1 := Lib.hid hb.size
        have k0 := H0.out.cell 0 _ rfl
        have k1 := H0.out.cell 1 _ rfl
        clear hb HB0
        go_wp2_with fail
        refine (isPage_any p true (decide_eq_true hp) _).mono ?_
        rintro e w2 ⟨rfl, hw⟩
        subst hw
        go_wp2_with fail
        refine (isFrame_any frame false (decide_eq_false hfr) _).mono ?_
        rintro e w2 ⟨rfl, hw⟩
        subst hw
        have r0 := H1.out.cell 0 _ rfl
        have r1 := H1.out.cell 1 _ rfl
        have r2 := H1.out.free 0
        have r3 := H1.out.free 1
        have hZ := (Blk.set (Blk.set H1.out 0 (.slice none 0 0)) 1 (.slice none 0 0))
        have hX := below_set (below_set HB1.out (g := w.heap.size + 1) (j := 0) (by omega) (.slice none 0 0)) (g := w.heap.size + 1) (j := 1) (by omega) (.slice none 0 0)
        have HZ := Lib.hid hZ
        have HX := Lib.hid hX
        clear hZ hX
        go_wp2_with fail
        clear r0 r1 r2 r3 k0 k1
        revert HZ HX
        generalize ((World.setCell _ _ _).setCell _ _) = wz
        intro HZ HX
        have z0 := HZ.out.cell 0 _ rfl
        have z1 := HZ.out.cell 1 _ rfl
        exact bodyPost_ret (v := .tuple #[.agg #[.slice none 0 0, .slice none 0 0], .bool false]) (by simp [results, Try.results41, go_sem, z0, z1]) rfl ⟨none, 0, none, 0, rfl, own_none _ _ _, HX.out⟩
    · have hTT : T = noTab ∧ b = false := by
        unfold mapOf at hT
        rw [if_neg (fun h => hp h.2.1)] at hT
        exact ⟨(congrArg Prod.fst hT).symm, (congrArg Prod.snd hT).symm⟩
      obtain ⟨rfl, rfl⟩ := hTT
      clear hT
      go_enter Try.func41, Try.ntmps41
      go_upto_region 1 with fail
      rw [HWB.out]
      clear HWB
      go_wp2_with fail
      refine (implIsTable_any A n c D m d t _ HR.out hn hm hl true (decide_eq_true ok)).mono ?_
      rintro e w1 ⟨rfl, hb⟩
      clear k0 k1
      have HB1 := Lib.hid (below_then HB0.out hb)
      replace HR := Lib.hid (HR.out.grow hb)
      replace H0 := Lib.hid (Blk.kept hb H0.out)
      replace H1 := Lib.hid (Blk.kept hb H1.out)
      have HS1 := Lib.hid hb.size
      have k0 := H0.out.cell 0 _ rfl
      have k1 := H0.out.cell 1 _ rfl
      clear hb HB0
      go_wp2_with fail
      refine (isPage_any page false (decide_eq_false hp) _).mono ?_
      rintro e w2 ⟨rfl, hw⟩
      subst hw
      have r0 := H1.out.cell 0 _ rfl
      have r1 := H1.out.cell 1 _ rfl
      have r2 := H1.out.free 0
      have r3 := H1.out.free 1
      have hZ := (Blk.set (Blk.set H1.out 0 (.slice none 0 0)) 1 (.slice none 0 0))
      have hX := below_set (below_set HB1.out (g := w.heap.size + 1) (j := 0) (by omega) (.slice none 0 0)) (g := w.heap.size + 1) (j := 1) (by omega) (.slice none 0 0)
      have HZ := Lib.hid hZ
      have HX := Lib.hid hX
      clear hZ hX
      go_wp2_with fail
      clear r0 r1 r2 r3 k0 k1
      revert HZ HX
      generalize ((World.setCell _ _ _).setCell _ _) = wz
      intro HZ HX
      have z0 := HZ.out.cell 0 _ rfl
      have z1 := HZ.out.cell 1 _ rfl
      exact bodyPost_ret (v := .tuple #[.agg #[.slice none 0 0, .slice none 0 0], .bool false]) (by simp [results, Try.results41, go_sem, z0, z1]) rfl ⟨none, 0, none, 0, rfl, own_none _ _ _, HX.out⟩
  · have hTT : T = noTab ∧ b = false := by
      unfold mapOf at hT
      rw [if_neg (fun h => ok h.1)] at hT
      exact ⟨(congrArg Prod.fst hT).symm, (congrArg Prod.snd hT).symm⟩
    obtain ⟨rfl, rfl⟩ := hTT
    clear hT
    go_enter Try.func41, Try.ntmps41
    go_upto_region 1 with fail
    rw [HWB.out]
    clear HWB
    go_wp2_with fail
    refine (implIsTable_any A n c D m d t _ HR.out hn hm hl false (decide_eq_false ok)).mono ?_
    rintro e w1 ⟨rfl, hb⟩
    clear k0 k1
    have HB1 := Lib.hid (below_then HB0.out hb)
    replace HR := Lib.hid (HR.out.grow hb)
    replace H0 := Lib.hid (Blk.kept hb H0.out)
    replace H1 := Lib.hid (Blk.kept hb H1.out)
    have HS1 := Lib.hid hb.size
    have k0 := H0.out.cell 0 _ rfl
    have k1 := H0.out.cell 1 _ rfl
    clear hb HB0
    have r0 := H1.out.cell 0 _ rfl
    have r1 := H1.out.cell 1 _ rfl
    have r2 := H1.out.free 0
    have r3 := H1.out.free 1
    have hZ := (Blk.set (Blk.set H1.out 0 (.slice none 0 0)) 1 (.slice none 0 0))
    have hX := below_set (below_set HB1.out (g := w.heap.size + 1) (j := 0) (by omega) (.slice none 0 0)) (g := w.heap.size + 1) (j := 1) (by omega) (.slice none 0 0)
    have HZ := Lib.hid hZ
    have HX := Lib.hid hX
    clear hZ hX
    go_wp2_with fail
    clear r0 r1 r2 r3 k0 k1
    revert HZ HX
    generalize ((World.setCell _ _ _).setCell _ _) = wz
    intro HZ HX
    have z0 := HZ.out.cell 0 _ rfl
    have z1 := HZ.out.cell 1 _ rfl
    exact bodyPost_ret (v := .tuple #[.agg #[.slice none 0 0, .slice none 0 0], .bool false]) (by simp [results, Try.results41, go_sem, z0, z1]) rfl ⟨none, 0, none, 0, rfl, own_none _ _ _, HX.out⟩
end Go.Proofs.Ytaamjnpknmimmab.L4
