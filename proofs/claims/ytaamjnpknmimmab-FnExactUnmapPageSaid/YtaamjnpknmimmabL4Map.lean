/- What spec.l4Map answers for a page whose leaf is there. -/
import Derived.Test.YtaamjnpknmimmabSetE
import Derived.Test.YtaamjnpknmimmabL4Own
namespace Go.Proofs.Ytaamjnpknmimmab.L4
open Go Go.RowKit Go.Proofs.Ytaamjnpknmimmab.Mem Go.Proofs.Ytaamjnpknmimmab.Own Go.Proofs.Ytaamjnpknmimmab.L1
/-- where an entry lies, and what a store there does -/
theorem entry_spot {wb : World} {lo hi c m d p q : Nat} {A D : Option Addr} {t : Tab} (hT : OwnT wb lo hi A 4 c D m d t) (hq : dirOf t p = (q : Int)) (hqm : q < m) (hp : p < 16) (hl4 : (t.leaves.getD q ([] : List Ent)).length = 4) (f : Int) (wr : Bool) :
    ∃ b o b2 o2 g c3 y0 y1, A = some ⟨b, o, none⟩ ∧ D = some ⟨b2, o2, none⟩ ∧ wb.cell? ⟨b, o + p / 4, none⟩ = some (.int .i64 q) ∧ wb.cell? ⟨b2, o2 + q, none⟩ = some (.slice (some ⟨g, 0, none⟩) 4 c3) ∧
      wb.cell? ⟨g, p % 4 * 2, none⟩ = some y0 ∧ wb.cell? ⟨g, p % 4 * 2 + 1, none⟩ = some y1 ∧ wb.frozen? ⟨g, p % 4 * 2, none⟩ = false ∧ wb.frozen? ⟨g, p % 4 * 2 + 1, none⟩ = false ∧
      OwnT ((wb.setCell ⟨g, p % 4 * 2, none⟩ (.int .i64 f)).setCell ⟨g, p % 4 * 2 + 1, none⟩ (.bool wr)) lo hi A 4 c D m d (setE t p ⟨f, wr⟩) ∧
      Only lo hi wb ((wb.setCell ⟨g, p % 4 * 2, none⟩ (.int .i64 f)).setCell ⟨g, p % 4 * 2 + 1, none⟩ (.bool wr)) ∧ lo ≤ g ∧ (∀ g' ty cs, Blk wb g' ty cs → 70 ≠ ty → g' ≠ g) := by
  have hrd := hT.reads
  obtain ⟨b, o, z, hA, _, hz, hc⟩ := hrd.dirs.int_at (k := p / 4) (by omega)
  have hzq : z = q := by
    have : dirOf t p = z := by unfold dirOf; rw [List.getD, hz]; rfl
    rw [← this, hq]
  subst hzq
  obtain ⟨vs, hv, hinn⟩ := hT.leaves
  obtain ⟨b2, o2, v, hD, _, hvq, hcv⟩ := hv.reads.at_ hqm
  have hlen : q < t.leaves.length := by rw [← hinn.len]; exact (List.getElem?_eq_some_iff.1 hvq).1
  obtain ⟨xs, hx⟩ : ∃ xs, t.leaves[q]? = some xs := ⟨_, List.getElem?_eq_getElem hlen⟩
  have hgx : t.leaves.getD q ([] : List Ent) = xs := by rw [List.getD, hx]; rfl
  rw [hgx] at hl4
  have hrow := hinn.row q v xs hvq hx
  obtain ⟨A3, c3, hv3, _, _⟩ := own_form hrow.own
  subst hv3
  rw [hl4] at hrow hcv
  obtain ⟨g, hg⟩ := own_head hrow.own (by omega)
  subst hg
  subst hA hD
  have s0 := hrow.own.stored (p % 4 * 2) (.int .i64 f)
  have s1 := s0.1.stored (p % 4 * 2 + 1) (.bool wr)
  have hset := FLE_set xs (p % 4) ⟨f, wr⟩
  simp only at hset
  rw [← hset] at s1
  have hgr := grown_trans s0.2 s1.2
  have hxl : (xs.set (p % 4) ⟨f, wr⟩).length = 4 := by rw [List.length_set]; exact hl4
  have hinn2 : Inn ((wb.setCell ⟨g, p % 4 * 2, none⟩ (.int .i64 f)).setCell ⟨g, p % 4 * 2 + 1, none⟩ (.bool wr)) lo hi vs (t.leaves.set q (xs.set (p % 4) ⟨f, wr⟩)) :=
    hinn.mark hvq hx (v := .slice (some ⟨g, 0, none⟩) xs.length c3) (by rw [hl4]; exact hgr) (by rw [hxl, hl4]; exact ⟨s1.1, hrow.lt⟩)
  have hdirs2 := hT.dirs.away hgr (apart_types hrow.own hT.dirs.own (by decide))
  have hv2 := hv.away hgr (apart_types hrow.own hv.own (by decide))
  have hfin : OwnT ((wb.setCell ⟨g, p % 4 * 2, none⟩ (.int .i64 f)).setCell ⟨g, p % 4 * 2 + 1, none⟩ (.bool wr)) lo hi (some ⟨b, o, none⟩) 4 c (some ⟨b2, o2, none⟩) m d (setE t p ⟨f, wr⟩) := by
    unfold setE
    rw [hq, Int.toNat_natCast, hgx]
    exact ⟨hdirs2, vs, hv2, hinn2⟩
  have honly := Only.of_Row hrow hgr
  refine ⟨b, o, b2, o2, g, c3, _, _, rfl, rfl, hc, hcv, (hrow.own.cellAt (p % 4 * 2) (by omega)).trans (List.getElem?_eq_getElem (by rw [FL_len, hl4]; show p % 4 * 2 < 4 * 2; omega)), (hrow.own.cellAt (p % 4 * 2 + 1) (by omega)).trans (List.getElem?_eq_getElem (by rw [FL_len, hl4]; show p % 4 * 2 + 1 < 4 * 2; omega)), hrow.own.frozenAt _, hrow.own.frozenAt _, hfin, honly, (hrow.own.lt g rfl).1, ?_⟩
  intro g' ty cs hb he hk
  subst hk
  obtain ⟨cur, h3⟩ := block_of_own hrow.own rfl
  unfold Blk at hb
  rw [hb] at h3
  simp only [Option.some.injEq, Obj.cells.injEq] at h3
  exact he h3.2.1.symm
/-- where l4Map stands ahead of its last store -/
structure AtMap (w ww : World) (cp : Nat) (f : Int) (wr : Bool) (A : Option Addr) (c : Nat) (D : Option Addr) (m d : Nat) (t : Tab) : Prop where
  ent : Blk ww (w.heap.size + 1) 70 #[.int .i64 f, .bool wr]
  res : Blk ww (w.heap.size + 1 + 1) 29 #[.slice none 0 0, .slice none 0 0]
  cpy : Blk ww cp 29 #[.slice A 4 c, .slice D m d]
  own : OwnT ww (w.heap.size + 1 + 1 + 1) ww.heap.size A 4 c D m d t
  below : Below w.heap.size w ww
  ord : w.heap.size + 1 + 1 < cp
set_option maxRecDepth 100000 in
set_option maxHeartbeats 4000000 in
theorem l4Map_yes (A : Option Addr) (n c : Nat) (D : Option Addr) (m d p q : Nat) (t : Tab) (f : Int) (wr : Bool) (w : World) (hr : ReadsT w w.heap.size A n D m t) (ok : OkT t) (hm : m ≤ 1048576) (hq : dirOf t p = (q : Int)) (hqm : q < m) (hp : p < 16) :
    Calls Try.prog 52 #[.agg #[.slice A n c, .slice D m d], .int .i64 p, .agg #[.int .i64 f, .bool wr]] w fun e w' => ∃ A' c' D' d', e = .returned (.agg #[.slice A' 4 c', .slice D' m d']) ∧ OwnT w' w.heap.size w'.heap.size A' 4 c' D' m d' (setE t p ⟨f, wr⟩) ∧ Below w.heap.size w w' := by
  have hn4 : n = 4 := by rw [← hr.dlen]; exact ok.1
  subst hn4
  have hml := hr.leaves.len
  have hl4 : (t.leaves.getD q ([] : List Ent)).length = 4 := (ok.2.2 q (by omega)).2.1
  obtain ⟨wb, hwb⟩ : ∃ wb, ((w.alloc (.cells #[.slice A 4 c, .slice D m d] 29)).alloc (.cells #[.int .i64 f, .bool wr] 70)).alloc (.cells #[.slice none 0 0, .slice none 0 0] 29) = wb := ⟨_, rfl⟩
  have hb0 : Below w.heap.size w wb := by rw [← hwb]; exact below_more (below_more (below_more (Below.refl _ _) _) _) _
  have h0 : Blk wb w.heap.size 29 #[.slice A 4 c, .slice D m d] := by rw [← hwb]; exact Blk.alloc (Blk.alloc (Blk.new _ _ _) _) _
  have h1 : Blk wb (w.heap.size + 1) 70 #[.int .i64 f, .bool wr] := by
    rw [← hwb]
    have h := Blk.new (w.alloc (.cells #[.slice A 4 c, .slice D m d] 29)) #[.int .i64 f, .bool wr] 70
    rw [size1] at h
    exact h.alloc _
  have h2 : Blk wb (w.heap.size + 1 + 1) 29 #[.slice none 0 0, .slice none 0 0] := by
    rw [← hwb]
    have h := Blk.new ((w.alloc (.cells #[.slice A 4 c, .slice D m d] 29)).alloc (.cells #[.int .i64 f, .bool wr] 70)) #[.slice none 0 0, .slice none 0 0] 29
    rwa [size1, size1] at h
  have hsz : wb.heap.size = w.heap.size + 1 + 1 + 1 := by rw [← hwb, size1, size1, size1]
  have k0 := h0.cell 0 _ rfl
  have k1 := h0.cell 1 _ rfl
  have hrb := hr.grow hb0
  have HC := Lib.hid (l4Own_any A 4 c D m d t wb hrb ok hm)
  have H1 := Lib.hid h1
  have H2 := Lib.hid h2
  have HB0 := Lib.hid hb0
  have HWB := Lib.hid hwb
  have HSZ := Lib.hid hsz
  clear hr h0 h1 h2 hb0 hwb hsz hrb
  go_enter Try.func52, Try.ntmps52
  go_upto_region 1 with fail
  rw [HWB.out]
  clear HWB
  go_wp2_with fail
  refine HC.out.mono ?_
  rintro e w1 ⟨A', c', D', d', rfl, hown, hb⟩
  have hst : AtMap w (w1.alloc (.cells #[.slice A' 4 c', .slice D' m d'] 29)) w1.heap.size f wr A' c' D' m d' t := by
    have hs := hb.size
    have hs2 := HSZ.out
    have hba := below_more (Below.refl w1.heap.size w1) (.cells #[.slice A' 4 c', .slice D' m d'] 29)
    exact ⟨(Blk.kept hb H1.out).alloc _, (Blk.kept hb H2.out).alloc _, Blk.new _ _ _, (hown.below hba).mono (by omega) (alloc_le _ _), below_more (below_then HB0.out hb) _, by omega⟩
  obtain ⟨wc, hwc⟩ : ∃ wc, w1.alloc (.cells #[.slice A' 4 c', .slice D' m d'] 29) = wc := ⟨_, rfl⟩
  obtain ⟨cp, hcp⟩ : ∃ cp, w1.heap.size = cp := ⟨_, rfl⟩
  rw [hwc, hcp] at hst
  have HST := Lib.hid hst
  have HWC := Lib.hid hwc
  have HCP := Lib.hid hcp
  obtain ⟨b, o, b2, o2, g, c3, y0, y1, rfl, rfl, c0, c1, d0, d1, g0, g1, hfin, honly, hlo, hne⟩ := entry_spot hst.own hq hqm hp hl4 f wr
  have e0 := hst.ent.cell 0 _ rfl
  have e1 := hst.ent.cell 1 _ rfl
  have p0 := hst.cpy.cell 0 _ rfl
  have p1 := hst.cpy.cell 1 _ rfl
  have HFIN := Lib.hid hfin
  have HONLY := Lib.hid honly
  have HLO := Lib.hid hlo
  have HNE := Lib.hid hne
  obtain ⟨k, hk⟩ : ∃ k, p / 4 = k := ⟨_, rfl⟩
  obtain ⟨j, hj⟩ : ∃ j, p % 4 = j := ⟨_, rfl⟩
  rw [hk] at c0
  rw [hj] at HFIN HONLY d0 d1 g0 g1
  have k4 : (k : Int) < 4 := by omega
  have j4 : (j : Int) < 4 := by omega
  have ew : IntKind.i64.wrap ((p : Int) / 4) = (k : Int) := by rw [IntWalk.i64_in _ (by omega)]; omega
  have em2 : (p : Int).tmod 4 = (j : Int) := by rw [Int.tmod_eq_emod_of_nonneg (by omega)]; omega
  have qm : (q : Int) < m := by omega
  have hqn : ((q : Int) == -1) = false := by simp
  clear hst hwc hcp hown hb k0 k1 H1 H2 HB0 hfin honly hlo hne hk hj hq hl4 HC
  go_upto_region 2 with fail
  rw [HWC.out, HCP.out]
  clear HWC HCP HSZ
  go_wp2_with fail
  have HY := Lib.hid (show ∃ wz, (wc.setCell ⟨g, j * 2, none⟩ (.int .i64 f)).setCell ⟨g, j * 2 + 1, none⟩ (.bool wr) = wz from ⟨_, rfl⟩)
  have e0d : wc.drew.cell? ⟨w.heap.size + 1, 0, none⟩ = some (.int .i64 f) := e0
  have e1d : wc.drew.cell? ⟨w.heap.size + 1, 1, none⟩ = some (.bool wr) := e1
  have p0d : wc.drew.cell? ⟨cp, 0, none⟩ = some (.slice (some ⟨b, o, none⟩) 4 c') := p0
  have p1d : wc.drew.cell? ⟨cp, 1, none⟩ = some (.slice (some ⟨b2, o2, none⟩) m d') := p1
  have c0d : wc.drew.cell? ⟨b, o + k, none⟩ = some (.int .i64 q) := c0
  have c1d : wc.drew.cell? ⟨b2, o2 + q, none⟩ = some (.slice (some ⟨g, 0, none⟩) 4 c3) := c1
  go_still_tail 14, (by kernel_rfl)
  change wpList _ _ _ _ _ wc.drew
  go_upto_region 7 with fail
  clear e0 e1 p0 p1 c0 c1 e0d e1d p0d p1d c0d c1d d0 d1 g0 g1
  have hcpy := HST.out.cpy
  have hres := HST.out.res
  have hent := HST.out.ent
  have n1 := HNE.out _ _ _ hcpy (by decide)
  have n2 := HNE.out _ _ _ hres (by decide)
  have hz1 := Lib.hid (((Blk.other hcpy (.int .i64 f) (j := j * 2) n1).other (.bool wr) (j := j * 2 + 1) n1).below (below_drew1 _))
  have hz2 := Lib.hid (((Blk.other hres (.int .i64 f) (j := j * 2) n2).other (.bool wr) (j := j * 2 + 1) n2).below (below_drew1 _))
  have hz3 := Lib.hid (HFIN.out.below (below_drew1 _))
  have hz4 := Lib.hid (((HONLY.out.trans (Only.of_below (below_drew1 _))).below HST.out.below (by omega)))
  have hz5 : Hid (((wc.setCell ⟨g, j * 2, none⟩ (.int .i64 f)).setCell ⟨g, j * 2 + 1, none⟩ (.bool wr)).drew.heap.size = wc.heap.size) := Lib.hid (by simp [World.drew])
  have HORD := Lib.hid HST.out.ord
  clear hcpy hres hent n1 n2 HY HFIN HONLY HLO HNE
  revert hz1 hz2 hz3 hz4 hz5
  generalize ((wc.setCell _ _).setCell _ _).drew = wz
  intro hz1 hz2 hz3 hz4 hz5
  have q0 := hz1.out.cell 0 _ rfl
  have q1 := hz1.out.cell 1 _ rfl
  have r0 := hz2.out.cell 0 _ rfl
  have r1 := hz2.out.cell 1 _ rfl
  have r2 := hz2.out.free 0
  have r3 := hz2.out.free 1
  have hZ := (Blk.set (Blk.set hz2.out 0 (.slice (some ⟨b, o, none⟩) 4 c')) 1 (.slice (some ⟨b2, o2, none⟩) m d'))
  have hX := below_set (below_set hz4.out (g := w.heap.size + 1 + 1) (j := 0) (by omega) (.slice (some ⟨b, o, none⟩) 4 c')) (g := w.heap.size + 1 + 1) (j := 1) (by omega) (.slice (some ⟨b2, o2, none⟩) m d')
  have ho := ((Only.set wz (w.heap.size + 1 + 1) 0 (.slice (some ⟨b, o, none⟩) 4 c')).trans (Only.set _ (w.heap.size + 1 + 1) 1 (.slice (some ⟨b2, o2, none⟩) m d')))
  have hT := hz3.out.only ho (.inr (Nat.le_refl _))
  have HZ := Lib.hid hZ
  have HX := Lib.hid hX
  have HT := Lib.hid hT
  have HS : Hid (((wz.setCell ⟨w.heap.size + 1 + 1, 0, none⟩ (.slice (some ⟨b, o, none⟩) 4 c')).setCell ⟨w.heap.size + 1 + 1, 1, none⟩ (.slice (some ⟨b2, o2, none⟩) m d')).heap.size = wc.heap.size) := Lib.hid (by simp [hz5.out])
  clear hZ hX ho hT hz1 hz2 hz3 hz4 hz5
  go_wp2_with fail
  clear q0 q1 r0 r1 r2 r3
  revert HT HZ HX HS
  generalize ((wz.setCell _ _).setCell _ _) = wy
  intro HZ HX HT HS
  have z0 := HZ.out.cell 0 _ rfl
  have z1 := HZ.out.cell 1 _ rfl
  exact bodyPost_ret (v := .agg #[.slice (some ⟨b, o, none⟩) 4 c', .slice (some ⟨b2, o2, none⟩) m d']) (by simp [results, Try.results52, go_sem, z0, z1]) rfl ⟨_, _, _, _, rfl, HT.out.mono (by omega) (by rw [HS.out]; exact Nat.le_refl _), HX.out⟩
end Go.Proofs.Ytaamjnpknmimmab.L4
