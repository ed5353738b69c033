/- What spec.l4Own answers. -/
import Derived.Test.YtaamjnpknmimmabCopyT
namespace Go.Proofs.Ytaamjnpknmimmab.L4
open Go Go.RowKit Go.Proofs.Ytaamjnpknmimmab.Mem Go.Proofs.Ytaamjnpknmimmab.Own Go.Proofs.Ytaamjnpknmimmab.L1
set_option maxRecDepth 100000 in
set_option maxHeartbeats 4000000 in
theorem l4Own_any (A : Option Addr) (n c : Nat) (D : Option Addr) (m d : Nat) (t : Tab) (w : World) (hr : ReadsT w w.heap.size A n D m t) (ok : OkT t) (hm : m ≤ 1048576) :
    Calls Try.prog 97 #[.agg #[.slice A n c, .slice D m d]] w fun e w' => ∃ A' c' D' d', e = .returned (.agg #[.slice A' 4 c', .slice D' m d']) ∧ OwnT w' w.heap.size w'.heap.size A' 4 c' D' m d' t ∧ Below w.heap.size w w' := by
  obtain ⟨i0, hi, hz0, hz1, hz2⟩ := info_parts leafInfo
  obtain ⟨i1, hj, hy0, hy1, hy2⟩ := info_parts entInfo
  have hn4 : n = 4 := by rw [← hr.dlen]; exact ok.1
  subst hn4
  obtain ⟨b, off, rfl, hbw, _⟩ := hr.dirs.2 (by omega)
  obtain ⟨wb, hwb⟩ : ∃ wb, (w.alloc (.cells #[.slice (some ⟨b, off, none⟩) 4 c, .slice D m d] 29)).alloc (.cells #[.slice none 0 0, .slice none 0 0] 29) = wb := ⟨_, rfl⟩
  have hb0 : Below w.heap.size w wb := by rw [← hwb]; exact below_more (below_more (Below.refl _ _) _) _
  have h0 : Blk wb w.heap.size 29 #[.slice (some ⟨b, off, none⟩) 4 c, .slice D m d] := by rw [← hwb]; exact Blk.alloc (Blk.new _ _ _) _
  have h1 : Blk wb (w.heap.size + 1) 29 #[.slice none 0 0, .slice none 0 0] := by
    rw [← hwb]
    have h := Blk.new (w.alloc (.cells #[.slice (some ⟨b, off, none⟩) 4 c, .slice D m d] 29)) #[.slice none 0 0, .slice none 0 0] 29
    rwa [size1] at h
  have hsz : wb.heap.size = w.heap.size + 1 + 1 := by rw [← hwb, size1, size1]
  have HR := Lib.hid hr
  have HRB := Lib.hid (hr.grow hb0)
  have H0 := Lib.hid h0
  have H1 := Lib.hid h1
  have HB0 := Lib.hid hb0
  have HWB := Lib.hid hwb
  have HSZ := Lib.hid hsz
  have k0 := h0.cell 0 _ rfl
  clear hr h0 h1 hb0 hwb hsz
  go_enter Try.func97, Try.ntmps97
  go_upto_region 1 with fail
  rw [HWB.out]
  clear HWB
  go_wp2_with fail
  refine (l1Own_some b off 4 c _ t.dirs _ HRB.out.dirs (by omega) (by omega)).mono ?_
  rintro e w1 ⟨g, cc, rfl, hown, hb⟩
  have hst : AtCpy w ((w1.alloc (.cells #[] 74)).alloc (.cells #[.slice (some ⟨g, 0, none⟩) 4 cc, .slice (some ⟨w1.heap.size, 0, none⟩) 0 0] 29)) (w1.heap.size + 1) (some ⟨b, off, none⟩) c D m d g cc 0 (some ⟨w1.heap.size, 0, none⟩) 0 [] t := by
    have hba := below_more (below_more (Below.refl w1.heap.size w1) (.cells #[] 74)) (.cells #[.slice (some ⟨g, 0, none⟩) 4 cc, .slice (some ⟨w1.heap.size, 0, none⟩) 0 0] 29)
    have hs := hb.size
    have hs2 := HSZ.out
    have hz := hba.size
    have hnew := Blk.new (w1.alloc (.cells #[] 74)) #[.slice (some ⟨g, 0, none⟩) 4 cc, .slice (some ⟨w1.heap.size, 0, none⟩) 0 0] 29
    rw [size1] at hnew
    exact ⟨((Blk.kept hb H0.out).alloc _).alloc _, ((Blk.kept hb H1.out).alloc _).alloc _, hnew, (((Row.of hown).mono (by omega) (Nat.le_refl _)).below hba).mono (Nat.le_refl _) hz, own_mono (own_below (World.ownsRow_made w1 #[] 0 (Nat.le_refl _) (Nat.zero_le _) rfl) (below_more (Below.refl _ _) _)) (by omega), Inn.nil, below_more (below_more (below_then HB0.out hb) _) _, by omega⟩
  have HST := Lib.hid hst
  have hst2 := HST.out.par
  obtain ⟨wc, hwc⟩ : ∃ wc, (w1.alloc (.cells #[] 74)).alloc (.cells #[.slice (some ⟨g, 0, none⟩) 4 cc, .slice (some ⟨w1.heap.size, 0, none⟩) 0 0] 29) = wc := ⟨_, rfl⟩
  rw [hwc] at HST hst2
  have HWC := Lib.hid hwc
  obtain ⟨cp, hcp⟩ : ∃ cp, w1.heap.size + 1 = cp := ⟨_, rfl⟩
  rw [hcp] at HST
  have HCP := Lib.hid hcp
  have k1 := hst2.cell 1 _ rfl
  clear hst hst2 hwc hcp hown hb k0 H0 H1 HB0 HRB
  go_upto_region 2 with fail
  rw [HWC.out, HCP.out]
  clear HWC HCP
  go_wp2_with fail
  go_loopw [4] (fun i wr => ∃ (k : Nat) (D' : Option Addr) (d' : Nat) (vs : List Value), i = .int .i64 k ∧ k ≤ m ∧ Hid (AtCpy w wr cp (some ⟨b, off, none⟩) c D m d g cc k D' d' vs t)) (fun i _ => m - (intOf i).toNat)
  case atStart => exact ⟨0, _, 0, [], rfl, Nat.zero_le _, HST⟩
  case round =>
    clear HST k1
    obtain ⟨k, D', d', vs, rfl, hk, HA⟩ := hrel
    have HML := Lib.hid HR.out.leaves.len
    by_cases hlt : k < m
    · obtain ⟨b1, o1, A3, n3, c3, xs, rfl, hb1, hu, hc, hx, hn3, hnc3, hcm3⟩ := (HR.out.grow HA.out.below).leaves.at_ hlt
      have hg4 : t.leaves.getD k ([] : List Ent) = xs := by rw [List.getD, hu]; rfl
      have hl4 := (ok.2.2 k (by rw [HML.out]; exact hlt)).2
      rw [hg4] at hl4
      have h4 : n3 = 4 := by rw [hn3]; exact hl4.1
      subst h4
      obtain ⟨b3, o3, rfl, hb3, _⟩ := hx.2 (by omega)
      have HX := Lib.hid hx
      have HU := Lib.hid hu
      have HXL : Hid (xs.length = 4) := Lib.hid hl4.1
      have p1 := HA.out.par.cell 1 _ rfl
      have c1 := HA.out.cpy.cell 1 _ rfl
      have hcpl := HA.out.cpy.lt
      have hord := HA.out.ord
      have hbs := HA.out.below.size
      clear hx hu hg4 hl4 hn3 hnc3 hcm3
      go_upto_region 5 with fail
      have hE : (wr.drew.alloc (.cells #[] 70)).ownsRow wr.heap.size 70 2 (.slice (some ⟨wr.heap.size, 0, none⟩) 0 0) 0 [] :=
        World.ownsRow_made wr.drew #[] 0 (Nat.le_refl _) (Nat.zero_le _) rfl
      have HE := Lib.hid hE
      have hB1 : Below wr.heap.size wr (wr.drew.alloc (.cells #[] 70)) := below_more (below_drew1 wr) _
      have HB1 := Lib.hid hB1
      have hw1 : wr.heap.size ≤ (wr.drew.alloc (.cells #[] 70)).heap.size := hB1.size
      have hx1 : ∀ j u, (FL xs)[j]? = some u → (wr.drew.alloc (.cells #[] 70)).cell? ((⟨b3, o3, none⟩ : Addr).add j) = some u := by
        intro j u hu
        obtain ⟨b', off', e, hb, hc'⟩ := HX.out.2 (by omega)
        simp only [Option.some.injEq, Addr.mk.injEq, and_true] at e
        obtain ⟨rfl, rfl⟩ := e
        rw [Go.WideShapes.add_plain, World.cell?_alloc_lt _ _ _ (World.block_lt_of_cell? wr.drew _ (hc' j u hu))]
        exact hc' j u hu
      have HX2 : Hid ((FL xs).length = 4 * 2 ∧ (∀ j u, (FL xs)[j]? = some u → (wr.drew.alloc (.cells #[] 70)).cell? ((⟨b3, o3, none⟩ : Addr).add j) = some u) ∧ (∀ u ∈ FL xs, u.oneCell' = true)) := Lib.hid ⟨HX.out.1, hx1, FLE_one xs⟩
      have HPA := HA.out.par.alloc (.cells #[] 70)
      have pa1 := HPA.cell 1 _ rfl
      have HCA := HA.out.cpy.alloc (.cells #[] 70)
      have ca1 := HCA.cell 1 _ rfl
      have hca : (wr.alloc (.cells #[] 70)).cell? ⟨b1, o1 + k, none⟩ = some (.slice (some ⟨b3, o3, none⟩) 4 c3) := by
        rw [World.cell?_alloc_lt _ _ _ (World.block_lt_of_cell? wr _ hc)]; exact hc
      clear hE hB1 hx1 HPA HCA
      go_region_law (first
        | (refine step_append_lies _ rfl (.tmp 18) (.tmp 26) 27 rfl w.heap.size 74 i0 (.slice none 0 0) 1 24 Try.underlying27 hi hz0 hz1 hz2 rfl (by decide) (.slice D' k d') k vs (by simp [Act.eval]) ((own_below HA.out.outer hb3').alloc _) ⟨w2.heap.size, 0, none⟩ 1 1 [.slice (some ⟨g3, 0, none⟩) 4 c3'] (by simp [Act.eval]) rfl (cell_one_new _ _ _) (fun x hx => by simp at hx; subst hx; rfl) (by decide) (by unfold maxLen; omega) (by omega) (by simp; omega) _ rfl ?_; intro g4 cap4 w3 hown4 hgrow4 hat4 hlt4; have c9 := (grown_blk ((Blk.kept hb3' HA.out.cpy).alloc (.cells #[.slice (some ⟨g3, 0, none⟩) 4 c3'] 74)) ((own_below HA.out.outer hb3').alloc _) (by decide) hgrow4).cell 1 _ rfl; have f9 := (grown_blk ((Blk.kept hb3' HA.out.cpy).alloc (.cells #[.slice (some ⟨g3, 0, none⟩) 4 c3'] 74)) ((own_below HA.out.outer hb3').alloc _) (by decide) hgrow4).free 1)
        | (refine step_append_lies _ rfl (.tmp 19) (.tmp 24) 74 rfl wr.heap.size 70 i1 (.agg #[.int .i64 0, .bool false]) 2 16 Try.underlying74 hj hy0 hy1 hy2 rfl (by decide) (.slice (some ⟨wr.heap.size, 0, none⟩) 0 0) 0 [] (by simp [Act.eval]) HE.out ⟨b3, o3, none⟩ 4 c3 (FL xs) (by simp [Act.eval]) HX2.out.1 HX2.out.2.1 HX2.out.2.2 (by decide) (by unfold maxLen; omega) (by omega) hw1 _ rfl ?_; intro g3 c3' w2 hown3' hgrow3 hat3 hlt3; have hown3 : w2.ownsRow wr.heap.size 70 2 (.slice (some ⟨g3, 0, none⟩) 4 c3') 4 (FL xs) := hown3'; clear hown3'; have hb3' : Below wr.heap.size wr w2 := HB1.out.grown hgrow3 (by omega) (fun q hq => (HE.out.lt q hq).1); have hbs2 := hb3'.size; have c2 := (Blk.kept hb3' HA.out.cpy).cell 1 _ rfl; have c2a := ((Blk.kept hb3' HA.out.cpy).alloc (.cells #[.slice (some ⟨g3, 0, none⟩) 4 c3'] 74)).cell 1 _ rfl))
      all_goals
        have hgr1 : Below wr.heap.size wr (w2.alloc (.cells #[.slice (some ⟨g3, 0, none⟩) 4 c3'] 74)) := below_more hb3' _
        have HO := Lib.hid (own_below HA.out.outer hgr1)
        have HONLY := Lib.hid (Only.set w3 cp 1 (.slice (some ⟨g4, 0, none⟩) (k + 1) cap4))
        have HCP := Lib.hid (grown_blk (Blk.kept hgr1 HA.out.cpy) HO.out (by decide) hgrow4)
        have HI0 := Lib.hid (HA.out.inn.snoc (Nat.le_refl _) hb3' (by rw [HXL.out]; exact hown3) HA.out.below.size)
        have hs4 := hgrow4.size
        have hs5 : w2.heap.size ≤ (w2.alloc (.cells #[.slice (some ⟨g3, 0, none⟩) 4 c3'] 74)).heap.size := alloc_le _ _
        have hs6 : (w3.setCell ⟨cp, 1, none⟩ (.slice (some ⟨g4, 0, none⟩) (k + 1) cap4)).heap.size = w3.heap.size := by simp
        have htk : t.leaves.take (k + 1) = t.leaves.take k ++ [xs] := by rw [List.take_add_one, HU.out]; rfl
        have HN : Hid (AtCpy w (w3.setCell ⟨cp, 1, none⟩ (.slice (some ⟨g4, 0, none⟩) (k + 1) cap4)) cp (some ⟨b, off, none⟩) c (some ⟨b1, o1, none⟩) m d g cc (k + 1) (some ⟨g4, 0, none⟩) cap4 (vs ++ [.slice (some ⟨g3, 0, none⟩) 4 c3']) t) := Lib.hid
          ⟨(grown_blk (Blk.kept hgr1 HA.out.par) HO.out (by decide) hgrow4).other _ (by omega),
           (grown_blk (Blk.kept hgr1 HA.out.res) HO.out (by decide) hgrow4).other _ (by omega),
           HCP.out.set 1 _,
           (((HA.out.dirs.below hgr1).away hgrow4 (apart_types HO.out (HA.out.dirs.below hgr1).own (by decide))).onlyT HCP.out (by decide) HONLY.out).mono (Nat.le_refl _) (by omega),
           ((Row.of hown4).onlyT HCP.out (by decide) HONLY.out).own,
           by rw [htk]; exact (((HI0.out.below (below_more (Below.refl _ _) _)).away HO.out (by decide) hgrow4).onlyT HCP.out (by decide) HONLY.out).mono (Nat.le_refl _) (by omega),
           below_set (((HA.out.below.trans (hgr1.mono hbs)).grown hgrow4 (by omega) (fun q hq => (HO.out.lt q hq).1))) (by omega) _,
           hord⟩
        clear hgr1 HO HONLY HCP HI0 htk hs6 c9 f9
        go_wp2_with fail
        go_roundw
        case rel => exact ⟨k + 1, _, _, _, by go_num, by omega, HN⟩
        case measure => simp [intOf]; omega
    · have hkm : k = m := by omega
      subst hkm
      have hpar := HA.out.res
      have p1 := HA.out.par.cell 1 _ rfl
      have c0 := HA.out.cpy.cell 0 _ rfl
      have c1 := HA.out.cpy.cell 1 _ rfl
      have r0 := hpar.cell 0 _ rfl
      have r1 := hpar.cell 1 _ rfl
      have r2 := hpar.free 0
      have r3 := hpar.free 1
      have hord := HA.out.ord
      have hZ := (Blk.set (Blk.set hpar 0 (.slice (some ⟨g, 0, none⟩) 4 cc)) 1 (.slice D' k d'))
      have hX := below_set (below_set HA.out.below (g := w.heap.size + 1) (j := 0) (by omega) (.slice (some ⟨g, 0, none⟩) 4 cc)) (g := w.heap.size + 1) (j := 1) (by omega) (.slice D' k d')
      have ho := ((Only.set wr (w.heap.size + 1) 0 (.slice (some ⟨g, 0, none⟩) 4 cc)).trans (Only.set _ (w.heap.size + 1) 1 (.slice D' k d')))
      have htl : t.leaves.take k = t.leaves := List.take_of_length_le (by rw [HML.out]; exact Nat.le_refl _)
      have hin := HA.out.inn
      rw [htl] at hin
      have HT : Hid (OwnT ((wr.setCell ⟨w.heap.size + 1, 0, none⟩ (.slice (some ⟨g, 0, none⟩) 4 cc)).setCell ⟨w.heap.size + 1, 1, none⟩ (.slice D' k d')) w.heap.size wr.heap.size (some ⟨g, 0, none⟩) 4 cc D' k d' t) := Lib.hid
        ⟨HA.out.dirs.onlyT hpar (by decide) ho, ⟨vs, (Row.of HA.out.outer).onlyT hpar (by decide) ho, hin.onlyT hpar (by decide) ho⟩⟩
      have hsz : ((wr.setCell ⟨w.heap.size + 1, 0, none⟩ (.slice (some ⟨g, 0, none⟩) 4 cc)).setCell ⟨w.heap.size + 1, 1, none⟩ (.slice D' k d')).heap.size = wr.heap.size := by simp
      have HZ := Lib.hid hZ
      have HX := Lib.hid hX
      have HS := Lib.hid hsz
      have hkk : ¬ ((k : Int) < k) := by omega
      clear hpar hZ hX ho htl hin hsz
      go_wp2_with fail
      clear c0 c1 r0 r1 r2 r3
      revert HT HZ HX HS
      generalize ((wr.setCell _ _).setCell _ _) = wz
      intro HT HZ HX HS
      have z0 := HZ.out.cell 0 _ rfl
      have z1 := HZ.out.cell 1 _ rfl
      exact bodyPost_ret (v := .agg #[.slice (some ⟨g, 0, none⟩) 4 cc, .slice D' k d']) (by simp [results, Try.results97, go_sem, z0, z1]) rfl ⟨_, _, _, _, rfl, HT.out.mono (Nat.le_refl _) (by rw [HS.out]; exact Nat.le_refl _), HX.out⟩
end Go.Proofs.Ytaamjnpknmimmab.L4
