/- What spec.l4Map answers for a page whose leaf is not there. -/
import Derived.Test.YtaamjnpknmimmabL4Map
namespace Go.Proofs.Ytaamjnpknmimmab.L4
open Go Go.RowKit Go.Proofs.Ytaamjnpknmimmab.Mem Go.Proofs.Ytaamjnpknmimmab.Own Go.Proofs.Ytaamjnpknmimmab.L1
def noLeaf : List Ent := [noEnt, noEnt, noEnt, noEnt]
/-- one more leaf, without frames, for a page's directory -/
def newLeaf (t : Tab) (p : Nat) : Tab := ⟨t.dirs.set (p / 4) (t.leaves.length : Int), t.leaves ++ [noLeaf]⟩
theorem newLeaf_dir {t : Tab} {p : Nat} (hd : t.dirs.length = 4) (hp : p < 16) : dirOf (newLeaf t p) p = (t.leaves.length : Nat) := by
  unfold dirOf newLeaf
  rw [List.getD, List.getElem?_set_self (by omega)]
  rfl
theorem newLeaf_leaf (t : Tab) (p : Nat) : (newLeaf t p).leaves.getD t.leaves.length ([] : List Ent) = noLeaf := by
  unfold newLeaf
  simp [List.getD]
theorem I_set (zs : List Int) (k : Nat) (z : Int) : I (zs.set k z) = (I zs).set k (.int .i64 z) := by simp [I, List.map_set]
/-- what a store of the leaves' count into a directory does -/
theorem dir_spot {wb : World} {lo hi c m d p : Nat} {A D : Option Addr} {t : Tab} (hT : OwnT wb lo hi A 4 c D m d t) (hq : dirOf t p = -1) (hp : p < 16) (z : Int) :
    ∃ b, A = some ⟨b, 0, none⟩ ∧ wb.cell? ⟨b, p / 4, none⟩ = some (.int .i64 (-1)) ∧ wb.frozen? ⟨b, p / 4, none⟩ = false ∧
      OwnT (wb.setCell ⟨b, p / 4, none⟩ (.int .i64 z)) lo hi A 4 c D m d ⟨t.dirs.set (p / 4) z, t.leaves⟩ ∧ Only lo hi wb (wb.setCell ⟨b, p / 4, none⟩ (.int .i64 z)) ∧ lo ≤ b ∧ (∀ g' ty cs, Blk wb g' ty cs → 3 ≠ ty → g' ≠ b) := by
  obtain ⟨b, hA⟩ := own_head hT.dirs.own (by omega)
  subst hA
  have hl : t.dirs.length = 4 := by have := hT.dirs.own.1; simpa [I] using this
  have hc : (I t.dirs)[p / 4]? = some (.int .i64 (-1)) := by
    unfold dirOf at hq
    have hi : t.dirs[p / 4]? = some (t.dirs[p / 4]'(by omega)) := List.getElem?_eq_getElem (by omega)
    rw [List.getD, hi] at hq
    simp only [Option.getD_some] at hq
    rw [I, List.getElem?_map, hi, hq]
    rfl
  have s0 := hT.dirs.own.stored (p / 4) (.int .i64 z)
  rw [← I_set] at s0
  obtain ⟨vs, hv, hinn⟩ := hT.leaves
  have hg : wb.grownBy (wb.setCell ⟨b, p / 4, none⟩ (.int .i64 z)) (Value.slice (some ⟨b, 0, none⟩) 4 c).ownBlock := s0.2
  refine ⟨b, rfl, (hT.dirs.own.cellAt (p / 4) (by omega)).trans hc, hT.dirs.own.frozenAt _, ⟨⟨s0.1, hT.dirs.lt⟩, vs, hv.away hg (apart_types hT.dirs.own hv.own (by decide)), hinn.away hT.dirs.own (by decide) hg⟩, Only.of_Row hT.dirs hg, (hT.dirs.own.lt b rfl).1, ?_⟩
  intro g' ty cs hb he hk
  subst hk
  obtain ⟨cur, h3⟩ := block_of_own hT.dirs.own rfl
  unfold Blk at hb
  rw [hb] at h3
  simp only [Option.some.injEq, Obj.cells.injEq] at h3
  exact he h3.2.1.symm
set_option maxRecDepth 100000 in
set_option maxHeartbeats 4000000 in
theorem l4Map_no (A : Option Addr) (n c : Nat) (D : Option Addr) (m d p : Nat) (t : Tab) (f : Int) (wr : Bool) (w : World) (hr : ReadsT w w.heap.size A n D m t) (ok : OkT t) (hm : m ≤ 1048576) (hq : dirOf t p = -1) (hp : p < 16) :
    Calls Try.prog 52 #[.agg #[.slice A n c, .slice D m d], .int .i64 p, .agg #[.int .i64 f, .bool wr]] w fun e w' => ∃ A' c' D' d', e = .returned (.agg #[.slice A' 4 c', .slice D' (m + 1) d']) ∧ OwnT w' w.heap.size w'.heap.size A' 4 c' D' (m + 1) d' (setE (newLeaf t p) p ⟨f, wr⟩) ∧ Below w.heap.size w w' := by
  have hn4 : n = 4 := by rw [← hr.dlen]; exact ok.1
  subst hn4
  have hml := hr.leaves.len
  obtain ⟨i0, hi, hz0, hz1, hz2⟩ := info_parts leafInfo
  obtain ⟨wb, hwb⟩ : ∃ wb, ((w.alloc (.cells #[.slice A 4 c, .slice D m d] 29)).alloc (.cells #[.int .i64 f, .bool wr] 70)).alloc (.cells #[.slice none 0 0, .slice none 0 0] 29) = wb := ⟨_, rfl⟩
  have hb0 : Below w.heap.size w wb := by rw [← hwb]; exact below_more (below_more (below_more (Below.refl _ _) _) _) _
  have h0 : Blk wb w.heap.size 29 #[.slice A 4 c, .slice D m d] := by rw [← hwb]; exact Blk.alloc (Blk.alloc (Blk.new _ _ _) _) _
  have h1 : Blk wb (w.heap.size + 1) 70 #[.int .i64 f, .bool wr] := by
    rw [← hwb]
    have h := Blk.new (w.alloc (.cells #[.slice A 4 c, .slice D m d] 29)) #[.int .i64 f, .bool wr] 70
    rw [size1] at h
    exact h.alloc _
  have h2 : Blk wb (w.heap.size + 1 + 1) 29 #[.slice none 0 0, .slice none 0 0] := by
    rw [← hwb]
    have h := Blk.new ((w.alloc (.cells #[.slice A 4 c, .slice D m d] 29)).alloc (.cells #[.int .i64 f, .bool wr] 70)) #[.slice none 0 0, .slice none 0 0] 29
    rwa [size1, size1] at h
  have hsz : wb.heap.size = w.heap.size + 1 + 1 + 1 := by rw [← hwb, size1, size1, size1]
  have k0 := h0.cell 0 _ rfl
  have k1 := h0.cell 1 _ rfl
  have hrb := hr.grow hb0
  have HC := Lib.hid (l4Own_any A 4 c D m d t wb hrb ok hm)
  have H1 := Lib.hid h1
  have H2 := Lib.hid h2
  have HB0 := Lib.hid hb0
  have HWB := Lib.hid hwb
  have HSZ := Lib.hid hsz
  clear hr h0 h1 h2 hb0 hwb hsz hrb
  go_enter Try.func52, Try.ntmps52
  go_upto_region 1 with fail
  rw [HWB.out]
  clear HWB
  go_wp2_with fail
  refine HC.out.mono ?_
  rintro e w1 ⟨A', c', D', d', rfl, hown, hb⟩
  have hst : AtMap w (w1.alloc (.cells #[.slice A' 4 c', .slice D' m d'] 29)) w1.heap.size f wr A' c' D' m d' t := by
    have hs := hb.size
    have hs2 := HSZ.out
    have hba := below_more (Below.refl w1.heap.size w1) (.cells #[.slice A' 4 c', .slice D' m d'] 29)
    exact ⟨(Blk.kept hb H1.out).alloc _, (Blk.kept hb H2.out).alloc _, Blk.new _ _ _, (hown.below hba).mono (by omega) (alloc_le _ _), below_more (below_then HB0.out hb) _, by omega⟩
  obtain ⟨wc, hwc⟩ : ∃ wc, w1.alloc (.cells #[.slice A' 4 c', .slice D' m d'] 29) = wc := ⟨_, rfl⟩
  obtain ⟨cp, hcp⟩ : ∃ cp, w1.heap.size = cp := ⟨_, rfl⟩
  rw [hwc, hcp] at hst
  have HST := Lib.hid hst
  have HWC := Lib.hid hwc
  have HCP := Lib.hid hcp
  obtain ⟨b, rfl, c0, g0, hT2, ho2, hlo, hne⟩ := dir_spot hst.own hq hp (m : Int)
  have e0 := hst.ent.cell 0 _ rfl
  have e1 := hst.ent.cell 1 _ rfl
  have p0 := hst.cpy.cell 0 _ rfl
  have p1 := hst.cpy.cell 1 _ rfl
  obtain ⟨k, hk⟩ : ∃ k, p / 4 = k := ⟨_, rfl⟩
  obtain ⟨j, hj⟩ : ∃ j, p % 4 = j := ⟨_, rfl⟩
  rw [hk] at c0 g0 hT2 ho2
  have k4 : (k : Int) < 4 := by omega
  have j4 : (j : Int) < 4 := by omega
  have ew : IntKind.i64.wrap ((p : Int) / 4) = (k : Int) := by rw [IntWalk.i64_in _ (by omega)]; omega
  have em2 : (p : Int).tmod 4 = (j : Int) := by rw [Int.tmod_eq_emod_of_nonneg (by omega)]; omega
  have hQ : dirOf (newLeaf t p) p = (m : Int) := by rw [newLeaf_dir ok.1 hp, hml]
  have hLF := newLeaf_leaf t p
  rw [hml] at hLF
  obtain ⟨wd, hwd⟩ : ∃ wd, wc.setCell ⟨b, k, none⟩ (.int .i64 m) = wd := ⟨_, rfl⟩
  rw [hwd] at hT2 ho2
  have hbe : w.heap.size ≤ b := by omega
  have HT2 := Lib.hid hT2
  have hent := hst.ent.other (j := k) (.int .i64 m) (hne _ _ _ hst.ent (by decide))
  have hres := hst.res.other (j := k) (.int .i64 m) (hne _ _ _ hst.res (by decide))
  have hcpy := hst.cpy.other (j := k) (.int .i64 m) (hne _ _ _ hst.cpy (by decide))
  have hbel := below_set hst.below hbe (j := k) (.int .i64 m)
  rw [hwd] at hent hres hcpy hbel
  have HENT := Lib.hid hent
  have HRES := Lib.hid hres
  have HCPY := Lib.hid hcpy
  have HBEL := Lib.hid hbel
  have HORD := Lib.hid hst.ord
  have HWD := Lib.hid hwd
  have HQ := Lib.hid hQ
  have HLF := Lib.hid hLF
  have HKJ := Lib.hid (And.intro hk hj)
  have HSZD : Hid (wd.heap.size = wc.heap.size) := Lib.hid (by rw [← hwd]; simp)
  clear hst hwc hcp hown hb k0 k1 H1 H2 HB0 hlo hne hk hj hq HC hT2 ho2 hbe hent hres hcpy hbel hwd hQ hLF
  go_upto_region 2 with fail
  rw [HWC.out, HCP.out]
  clear HWC HCP HSZ
  go_upto_region 4 with fail
  rw [HWD.out]
  clear HWD c0 g0 e0 e1 p0 p1
  obtain ⟨we, hwe⟩ : ∃ we, wd.alloc (.cells #[.int .i64 (-1), .bool false] 70) = we := ⟨_, rfl⟩
  obtain ⟨ne, hn_⟩ : ∃ ne, wd.heap.size = ne := ⟨_, rfl⟩
  have hb1 : Below wd.heap.size wd we := by rw [← hwe]; exact below_more (Below.refl _ _) _
  have hnb : Blk we ne 70 #[.int .i64 (-1), .bool false] := by rw [← hwe, ← hn_]; exact Blk.new _ _ _
  have HWE := Lib.hid hwe
  have HNE0 := Lib.hid hn_
  have e0 := hnb.cell 0 _ rfl
  have e1 := hnb.cell 1 _ rfl
  replace HT2 := Lib.hid (HT2.out.below hb1)
  replace HENT := Lib.hid (HENT.out.below hb1)
  replace HRES := Lib.hid (HRES.out.below hb1)
  replace HCPY := Lib.hid (HCPY.out.below hb1)
  replace HBEL := Lib.hid (below_then HBEL.out hb1)
  have HSE : Hid (wc.heap.size < we.heap.size) := Lib.hid (by rw [← HSZD.out, ← hwe, size1]; omega)
  clear hb1 hnb hwe hn_ HSZD
  go_upto_region 5 with fail
  rw [HWE.out, HNE0.out]
  clear HWE HNE0
  obtain ⟨vs, hv, hinn⟩ := HT2.out.leaves
  have p1 := HCPY.out.cell 1 _ rfl
  have hcpl := HCPY.out.lt
  have hord := HORD.out
  have hb2 : Below we.heap.size we (we.alloc (.cells #[.int .i64 (-1), .bool false, .int .i64 (-1), .bool false, .int .i64 (-1), .bool false, .int .i64 (-1), .bool false] 70)) := below_more (Below.refl _ _) _
  have hb3 : Below we.heap.size we ((we.alloc (.cells #[.int .i64 (-1), .bool false, .int .i64 (-1), .bool false, .int .i64 (-1), .bool false, .int .i64 (-1), .bool false] 70)).alloc (.cells #[.slice (some ⟨we.heap.size, 0, none⟩) 4 4] 74)) := below_more hb2 _
  have hown3 := (hv.below hb3).own
  have hleaf : (we.alloc (.cells #[.int .i64 (-1), .bool false, .int .i64 (-1), .bool false, .int .i64 (-1), .bool false, .int .i64 (-1), .bool false] 70)).ownsRow we.heap.size 70 2 (.slice (some ⟨we.heap.size, 0, none⟩) 4 4) 4 (FL noLeaf) :=
    ⟨by simp [FL, noLeaf, Cells.cells], .inr ⟨we.heap.size, 4, _, rfl, Nat.le_refl _, heap_alloc_new we _, Nat.le_refl _, by decide, by rfl, by rfl⟩⟩
  have hinn3 := hinn.snoc (xs := noLeaf) (Nat.le_of_lt HSE.out) hb2 hleaf (by omega)
  have HL2 := Lib.hid hleaf
  have HO3 := Lib.hid hown3
  have HB3 := Lib.hid hb3
  have HI3 := Lib.hid hinn3
  have HHV := Lib.hid hv
  have hnw : ∀ j u, [(Value.slice (some ⟨we.heap.size, 0, none⟩) 4 4)][j]? = some u → ((we.alloc (.cells #[.int .i64 (-1), .bool false, .int .i64 (-1), .bool false, .int .i64 (-1), .bool false, .int .i64 (-1), .bool false] 70)).alloc (.cells #[.slice (some ⟨we.heap.size, 0, none⟩) 4 4] 74)).cell? ((⟨we.heap.size + 1, 0, none⟩ : Addr).add j) = some u := by
    have h := Blk.new (we.alloc (.cells #[.int .i64 (-1), .bool false, .int .i64 (-1), .bool false, .int .i64 (-1), .bool false, .int .i64 (-1), .bool false] 70)) #[.slice (some ⟨we.heap.size, 0, none⟩) 4 4] 74
    rw [size1] at h
    exact World.news_of_block h
  have HNW := Lib.hid hnw
  have p1a := (HCPY.out.below hb3).cell 1 _ rfl
  clear hb2 hb3 hown3 hleaf hv hinn hinn3 hnw
  go_upto_region 6 with (at_builtin; refine wpList_append_lies _ rfl (.tmp 28) (.tmp 34) 27 rfl (w.heap.size + 1 + 1 + 1) 74 i0 (.slice none 0 0) 1 24 Try.underlying27 hi hz0 hz1 hz2 rfl (by decide) (.slice D' m d') m vs (by simp [Act.eval]) HO3.out ⟨we.heap.size + 1, 0, none⟩ 1 1 [.slice (some ⟨we.heap.size, 0, none⟩) 4 4] (by simp [Act.eval]) rfl HNW.out (fun x hx => by simp at hx; subst hx; rfl) (by decide) (by unfold maxLen; omega) (by omega) (by simp; omega) _ rfl ?_; intro g4 cap4 w3 hown4 hgrow4 hat4 hlt4; have HCP3 := Lib.hid (grown_blk (HCPY.out.below HB3.out) HO3.out (by decide) hgrow4); have c9 := HCP3.out.cell 1 _ rfl; have f9 := HCP3.out.free 1)
  have HONLY := Lib.hid (Only.set w3 cp 1 (.slice (some ⟨g4, 0, none⟩) (m + 1) cap4))
  have hs3 := HB3.out.size
  have hs4 := hgrow4.size
  have hse := HSE.out
  have hs6 : (w3.setCell ⟨cp, 1, none⟩ (.slice (some ⟨g4, 0, none⟩) (m + 1) cap4)).heap.size = w3.heap.size := by simp
  have hnl : newLeaf t p = ⟨t.dirs.set k (m : Int), t.leaves ++ [noLeaf]⟩ := by unfold newLeaf; rw [HKJ.out.1, hml]
  have hst : AtMap w (w3.setCell ⟨cp, 1, none⟩ (.slice (some ⟨g4, 0, none⟩) (m + 1) cap4)) cp f wr (some ⟨b, 0, none⟩) c' (some ⟨g4, 0, none⟩) (m + 1) cap4 (newLeaf t p) :=
    ⟨(grown_blk (HENT.out.below HB3.out) HO3.out (by decide) hgrow4).other _ (by omega),
     (grown_blk (HRES.out.below HB3.out) HO3.out (by decide) hgrow4).other _ (by omega),
     HCP3.out.set 1 _,
     by
      rw [hnl]
      exact ⟨(((HT2.out.dirs.below HB3.out).away hgrow4 (apart_types HO3.out (HT2.out.dirs.below HB3.out).own (by decide))).onlyT HCP3.out (by decide) HONLY.out).mono (Nat.le_refl _) (by omega),
       vs ++ [.slice (some ⟨we.heap.size, 0, none⟩) 4 4], ((Row.of hown4).onlyT HCP3.out (by decide) HONLY.out).mono (Nat.le_refl _) (by omega),
       (((HI3.out.below (below_more (Below.refl _ _) _)).away HO3.out (by decide) hgrow4).onlyT HCP3.out (by decide) HONLY.out).mono (Nat.le_refl _) (by rw [hs6]; exact Nat.le_trans (alloc_le _ _) hs4)⟩,
     below_set ((HBEL.out.trans (HB3.out.mono HBEL.out.size)).grown hgrow4 (by omega) (fun q hq => by have := (HO3.out.lt q hq).1; omega)) (by omega) _,
     hord⟩
  revert hst
  clear HONLY hs3 hs4 hs6 hnl HCP3 c9 f9 p1 p1a HO3 HB3 HI3 HHV HNW HL2 hown4 hgrow4 hat4 hlt4 HST HT2 HENT HRES HCPY HBEL
  generalize w3.setCell _ _ = wg
  intro hst
  have HST := Lib.hid hst
  obtain ⟨bb, oo, b2, o2, g, c3, y0, y1, hbb, hdd, c0, c1, d0, d1, g0, g1, hfin, honly, hlo, hne⟩ := entry_spot hst.own HQ.out (by omega) hp (by rw [HLF.out]; rfl) f wr
  obtain ⟨rfl, rfl⟩ : bb = b ∧ oo = 0 := by simp only [Option.some.injEq, Addr.mk.injEq, and_true] at hbb; exact ⟨hbb.1.symm, hbb.2.symm⟩
  obtain ⟨rfl, rfl⟩ : b2 = g4 ∧ o2 = 0 := by simp only [Option.some.injEq, Addr.mk.injEq, and_true] at hdd; exact ⟨hdd.1.symm, hdd.2.symm⟩
  have e0 := hst.ent.cell 0 _ rfl
  have e1 := hst.ent.cell 1 _ rfl
  have p0 := hst.cpy.cell 0 _ rfl
  have p1 := hst.cpy.cell 1 _ rfl
  have HFIN := Lib.hid hfin
  have HONLY := Lib.hid honly
  have HLO := Lib.hid hlo
  have HNE := Lib.hid hne
  rw [Nat.zero_add, HKJ.out.1] at c0
  rw [Nat.zero_add] at c1
  rw [HKJ.out.2] at HFIN HONLY d0 d1 g0 g1
  have qm : (m : Int) < (m : Int) + 1 := by omega
  have qm2 : (m : Int) < ((m + 1 : Nat) : Int) := by omega
  clear hst hfin honly hlo hne hbb hdd HQ HLF HKJ hse
  have HY := Lib.hid (show ∃ wz, (wg.setCell ⟨g, j * 2, none⟩ (.int .i64 f)).setCell ⟨g, j * 2 + 1, none⟩ (.bool wr) = wz from ⟨_, rfl⟩)
  have e0d : wg.drew.cell? ⟨w.heap.size + 1, 0, none⟩ = some (.int .i64 f) := e0
  have e1d : wg.drew.cell? ⟨w.heap.size + 1, 1, none⟩ = some (.bool wr) := e1
  have p0d : wg.drew.cell? ⟨cp, 0, none⟩ = some (.slice (some ⟨bb, 0, none⟩) 4 c') := p0
  have p1d : wg.drew.cell? ⟨cp, 1, none⟩ = some (.slice (some ⟨b2, 0, none⟩) (m + 1) cap4) := p1
  have c0d : wg.drew.cell? ⟨bb, k, none⟩ = some (.int .i64 m) := c0
  have c1d : wg.drew.cell? ⟨b2, m, none⟩ = some (.slice (some ⟨g, 0, none⟩) 4 c3) := c1
  go_still_tail 14, (by kernel_rfl)
  change wpList _ _ _ _ _ wg.drew
  go_upto_region 7 with fail
  clear e0 e1 p0 p1 c0 c1 e0d e1d p0d p1d c0d c1d d0 d1 g0 g1
  have hcpy := HST.out.cpy
  have hres := HST.out.res
  have hent := HST.out.ent
  have n1 := HNE.out _ _ _ hcpy (by decide)
  have n2 := HNE.out _ _ _ hres (by decide)
  have hz1 := Lib.hid (((Blk.other hcpy (.int .i64 f) (j := j * 2) n1).other (.bool wr) (j := j * 2 + 1) n1).below (below_drew1 _))
  have hz2 := Lib.hid (((Blk.other hres (.int .i64 f) (j := j * 2) n2).other (.bool wr) (j := j * 2 + 1) n2).below (below_drew1 _))
  have hz3 := Lib.hid (HFIN.out.below (below_drew1 _))
  have hz4 := Lib.hid (((HONLY.out.trans (Only.of_below (below_drew1 _))).below HST.out.below (by omega)))
  have hz5 : Hid (((wg.setCell ⟨g, j * 2, none⟩ (.int .i64 f)).setCell ⟨g, j * 2 + 1, none⟩ (.bool wr)).drew.heap.size = wg.heap.size) := Lib.hid (by simp [World.drew])
  have HORD := Lib.hid HST.out.ord
  clear hcpy hres hent n1 n2 HY HFIN HONLY HLO HNE
  revert hz1 hz2 hz3 hz4 hz5
  generalize ((wg.setCell _ _).setCell _ _).drew = wz
  intro hz1 hz2 hz3 hz4 hz5
  have q0 := hz1.out.cell 0 _ rfl
  have q1 := hz1.out.cell 1 _ rfl
  have r0 := hz2.out.cell 0 _ rfl
  have r1 := hz2.out.cell 1 _ rfl
  have r2 := hz2.out.free 0
  have r3 := hz2.out.free 1
  have hZ := (Blk.set (Blk.set hz2.out 0 (.slice (some ⟨bb, 0, none⟩) 4 c')) 1 (.slice (some ⟨b2, 0, none⟩) (m + 1) cap4))
  have hX := below_set (below_set hz4.out (g := w.heap.size + 1 + 1) (j := 0) (by omega) (.slice (some ⟨bb, 0, none⟩) 4 c')) (g := w.heap.size + 1 + 1) (j := 1) (by omega) (.slice (some ⟨b2, 0, none⟩) (m + 1) cap4)
  have ho := ((Only.set wz (w.heap.size + 1 + 1) 0 (.slice (some ⟨bb, 0, none⟩) 4 c')).trans (Only.set _ (w.heap.size + 1 + 1) 1 (.slice (some ⟨b2, 0, none⟩) (m + 1) cap4)))
  have hT := hz3.out.only ho (.inr (Nat.le_refl _))
  have HZ := Lib.hid hZ
  have HX := Lib.hid hX
  have HT := Lib.hid hT
  have HS : Hid (((wz.setCell ⟨w.heap.size + 1 + 1, 0, none⟩ (.slice (some ⟨bb, 0, none⟩) 4 c')).setCell ⟨w.heap.size + 1 + 1, 1, none⟩ (.slice (some ⟨b2, 0, none⟩) (m + 1) cap4)).heap.size = wg.heap.size) := Lib.hid (by simp [hz5.out])
  clear hZ hX ho hT hz1 hz2 hz3 hz4 hz5
  go_wp2_with fail
  clear q0 q1 r0 r1 r2 r3
  revert HT HZ HX HS
  generalize ((wz.setCell _ _).setCell _ _) = wy
  intro HZ HX HT HS
  have z0 := HZ.out.cell 0 _ rfl
  have z1 := HZ.out.cell 1 _ rfl
  exact bodyPost_ret (v := .agg #[.slice (some ⟨bb, 0, none⟩) 4 c', .slice (some ⟨b2, 0, none⟩) (m + 1) cap4]) (by simp [results, Try.results52, go_sem, z0, z1]) rfl ⟨_, _, _, _, rfl, HT.out.mono (by omega) (by rw [HS.out]; exact Nat.le_refl _), HX.out⟩
end Go.Proofs.Ytaamjnpknmimmab.L4
