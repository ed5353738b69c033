/- What impl.setEntry does. -/
import Derived.Test.YtaamjnpknmimmabCopyT
import Derived.Test.YtaamjnpknmimmabMarkT
import Derived.StillTailTactics
namespace Go.Proofs.Ytaamjnpknmimmab.L4
open Go Go.RowKit Go.Proofs.Ytaamjnpknmimmab.Mem Go.Proofs.Ytaamjnpknmimmab.Own Go.Proofs.Ytaamjnpknmimmab.L1
theorem FLE_set (xs : List Ent) (j : Nat) (x : Ent) : FL (xs.set j x) = ((FL xs).set (j * 2) (.int .i64 x.f)).set (j * 2 + 1) (.bool x.wr) := by
  induction xs generalizing j with
  | nil => simp [FL]
  | cons y ys ih =>
    cases j with
    | zero => simp [FL, Cells.cells]
    | succ j =>
      simp only [List.set_cons_succ, FL, ih]
      rw [show (j + 1) * 2 = j * 2 + 1 + 1 by omega]
      simp [Cells.cells]
/-- a page's entry changed, its directory kept -/
def setE (t : Tab) (p : Nat) (x : Ent) : Tab := ⟨t.dirs, t.leaves.set (dirOf t p).toNat ((t.leaves.getD (dirOf t p).toNat ([] : List Ent)).set (p % 4) x)⟩
set_option maxRecDepth 100000 in
set_option maxHeartbeats 4000000 in
theorem setEntry_all (A D : Option Addr) (c m d lo hi p q : Nat) (t : Tab) (f : Int) (wr : Bool) (w : World) (h : OwnT w lo hi A 4 c D m d t) (hq : dirOf t p = (q : Int)) (hqm : q < m) (hp : p < 16) (hl4 : (t.leaves.getD q ([] : List Ent)).length = 4) :
    Calls Try.prog 58 #[.agg #[.slice A 4 c, .slice D m d], .int .i64 p, .agg #[.int .i64 f, .bool wr]] w fun e w' => e = .returned (.tuple #[]) ∧ OwnT w' lo hi A 4 c D m d (setE t p ⟨f, wr⟩) ∧ Only lo hi w w' ∧ (∀ g' ty cs, Blk w g' ty cs → 70 ≠ ty → Blk w' g' ty cs) := by
  obtain ⟨wb, hwb⟩ : ∃ wb, (w.alloc (.cells #[.slice A 4 c, .slice D m d] 29)).alloc (.cells #[.int .i64 f, .bool wr] 70) = wb := ⟨_, rfl⟩
  have hb0 : Below w.heap.size w wb := by rw [← hwb]; exact below_more (below_more (Below.refl _ _) _) _
  have h0 : Blk wb w.heap.size 29 #[.slice A 4 c, .slice D m d] := by rw [← hwb]; exact Blk.alloc (Blk.new _ _ _) _
  have h1 : Blk wb (w.heap.size + 1) 70 #[.int .i64 f, .bool wr] := by
    rw [← hwb]
    have h := Blk.new (w.alloc (.cells #[.slice A 4 c, .slice D m d] 29)) #[.int .i64 f, .bool wr] 70
    rwa [size1] at h
  have hT := h.below hb0
  have hrd := hT.reads
  obtain ⟨b, o, z, hA, _, hz, hc⟩ := hrd.dirs.int_at (k := p / 4) (by omega)
  have hzq : z = q := by
    have : dirOf t p = z := by unfold dirOf; rw [List.getD, hz]; rfl
    rw [← this, hq]
  subst hzq
  obtain ⟨vs, hv, hinn⟩ := hT.leaves
  obtain ⟨b2, o2, v, hD, _, hvq, hcv⟩ := hv.reads.at_ hqm
  have hlen : q < t.leaves.length := by rw [← hinn.len]; exact (List.getElem?_eq_some_iff.1 hvq).1
  obtain ⟨xs, hx⟩ : ∃ xs, t.leaves[q]? = some xs := ⟨_, List.getElem?_eq_getElem hlen⟩
  have hgx : t.leaves.getD q ([] : List Ent) = xs := by rw [List.getD, hx]; rfl
  rw [hgx] at hl4
  have hrow := hinn.row q v xs hvq hx
  obtain ⟨A3, c3, hv3, _, _⟩ := own_form hrow.own
  subst hv3
  rw [hl4] at hrow hcv
  obtain ⟨g, hg⟩ := own_head hrow.own (by omega)
  subst hg
  subst hA hD
  have s0 := hrow.own.stored (p % 4 * 2) (.int .i64 f)
  have s1 := s0.1.stored (p % 4 * 2 + 1) (.bool wr)
  have hset := FLE_set xs (p % 4) ⟨f, wr⟩
  simp only at hset
  rw [← hset] at s1
  have hgr := grown_trans s0.2 s1.2
  have hxl : (xs.set (p % 4) ⟨f, wr⟩).length = 4 := by rw [List.length_set]; exact hl4
  have hinn2 : Inn ((wb.setCell ⟨g, p % 4 * 2, none⟩ (.int .i64 f)).setCell ⟨g, p % 4 * 2 + 1, none⟩ (.bool wr)) lo hi vs (t.leaves.set q (xs.set (p % 4) ⟨f, wr⟩)) :=
    hinn.mark hvq hx (v := .slice (some ⟨g, 0, none⟩) xs.length c3) (by rw [hl4]; exact hgr) (by rw [hxl, hl4]; exact ⟨s1.1, hrow.lt⟩)
  have hdirs2 := hT.dirs.away hgr (apart_types hrow.own hT.dirs.own (by decide))
  have hv2 := hv.away hgr (apart_types hrow.own hv.own (by decide))
  have hfin : OwnT ((wb.setCell ⟨g, p % 4 * 2, none⟩ (.int .i64 f)).setCell ⟨g, p % 4 * 2 + 1, none⟩ (.bool wr)) lo hi (some ⟨b, o, none⟩) 4 c (some ⟨b2, o2, none⟩) m d (setE t p ⟨f, wr⟩) := by
    unfold setE
    rw [hq, Int.toNat_natCast, hgx]
    exact ⟨hdirs2, vs, hv2, hinn2⟩
  have honly : Only lo hi w ((wb.setCell ⟨g, p % 4 * 2, none⟩ (.int .i64 f)).setCell ⟨g, p % 4 * 2 + 1, none⟩ (.bool wr)) := (Only.of_below hb0).trans (Only.of_Row hrow hgr)
  have hkeep : ∀ g' ty cs, Blk w g' ty cs → 70 ≠ ty → Blk ((wb.setCell ⟨g, p % 4 * 2, none⟩ (.int .i64 f)).setCell ⟨g, p % 4 * 2 + 1, none⟩ (.bool wr)) g' ty cs := fun g' ty cs hb he => grown_blk (hb.below hb0) hrow.own he hgr
  have HKEEP := Lib.hid hkeep
  have HFIN := Lib.hid hfin
  have HONLY := Lib.hid honly
  have HWB := Lib.hid hwb
  have k0 : wb.drew.cell? ⟨w.heap.size, 0, none⟩ = some (.slice (some ⟨b, o, none⟩) 4 c) := h0.cell 0 _ rfl
  have k1 : wb.drew.cell? ⟨w.heap.size, 1, none⟩ = some (.slice (some ⟨b2, o2, none⟩) m d) := h0.cell 1 _ rfl
  have e0 : wb.drew.cell? ⟨w.heap.size + 1, 0, none⟩ = some (.int .i64 f) := h1.cell 0 _ rfl
  have e1 : wb.drew.cell? ⟨w.heap.size + 1, 1, none⟩ = some (.bool wr) := h1.cell 1 _ rfl
  have c0 : wb.drew.cell? ⟨b, o + p / 4, none⟩ = some (.int .i64 q) := hc
  have c1 : wb.drew.cell? ⟨b2, o2 + q, none⟩ = some (.slice (some ⟨g, 0, none⟩) 4 c3) := hcv
  obtain ⟨y0, d0'⟩ : ∃ y, wb.cell? ⟨g, p % 4 * 2, none⟩ = some y := ⟨_, (hrow.own.cellAt (p % 4 * 2) (by omega)).trans (List.getElem?_eq_getElem (by rw [FL_len, hl4]; show p % 4 * 2 < 4 * 2; omega))⟩
  obtain ⟨y1, d1'⟩ : ∃ y, wb.cell? ⟨g, p % 4 * 2 + 1, none⟩ = some y := ⟨_, (hrow.own.cellAt (p % 4 * 2 + 1) (by omega)).trans (List.getElem?_eq_getElem (by rw [FL_len, hl4]; show p % 4 * 2 + 1 < 4 * 2; omega))⟩
  have d0 : wb.drew.cell? ⟨g, p % 4 * 2, none⟩ = some y0 := d0'
  have d1 : wb.drew.cell? ⟨g, p % 4 * 2 + 1, none⟩ = some y1 := d1'
  have f0 : wb.drew.frozen? ⟨g, p % 4 * 2, none⟩ = false := hrow.own.frozenAt _
  have g0' : wb.frozen? ⟨g, p % 4 * 2, none⟩ = false := hrow.own.frozenAt _
  have g1' : wb.frozen? ⟨g, p % 4 * 2 + 1, none⟩ = false := hrow.own.frozenAt _
  have f1 : wb.drew.frozen? ⟨g, p % 4 * 2 + 1, none⟩ = false := hrow.own.frozenAt _
  clear h hwb hb0 h0 h1 hT hrd hz hc hinn hvq hcv hlen hx hgx hrow s0 s1 hset hgr hxl hinn2 hdirs2 hv2 hfin honly hkeep hv hq hl4
  obtain ⟨k, hk⟩ : ∃ k, p / 4 = k := ⟨_, rfl⟩
  obtain ⟨j, hj⟩ : ∃ j, p % 4 = j := ⟨_, rfl⟩
  rw [hk] at c0
  rw [hj] at HFIN HONLY HKEEP d0 d1 f0 f1 d0' d1' g0' g1'
  have k4 : (k : Int) < 4 := by omega
  have j4 : (j : Int) < 4 := by omega
  have ew : IntKind.i64.wrap ((p : Int) / 4) = (k : Int) := by rw [IntWalk.i64_in _ (by omega)]; omega
  have em : IntKind.i64.wrap ((p : Int) % 4) = (j : Int) := by rw [IntWalk.i64_in _ (by omega)]; omega
  have em2 : (p : Int).tmod 4 = (j : Int) := by rw [Int.tmod_eq_emod_of_nonneg (by omega)]; omega
  have qm : (q : Int) < m := by omega
  clear hk hj
  go_enter Try.func58, Try.ntmps58
  go_upto_region 1 with fail
  rw [HWB.out]
  clear HWB
  go_still_tail 14, (by kernel_rfl)
  change wpList _ _ _ _ _ wb.drew
  go_wp2_with fail
  go_end0
  exact ⟨rfl, HFIN.out.below (below_drew1 _), HONLY.out.trans (Only.of_below (below_drew1 _)), fun g' ty cs hb he => (HKEEP.out g' ty cs hb he).below (below_drew1 _)⟩
theorem setEntry_any (A D : Option Addr) (c m d lo hi p q : Nat) (t : Tab) (f : Int) (wr : Bool) (w : World) (h : OwnT w lo hi A 4 c D m d t) (hq : dirOf t p = (q : Int)) (hqm : q < m) (hp : p < 16) (hl4 : (t.leaves.getD q ([] : List Ent)).length = 4) :
    Calls Try.prog 58 #[.agg #[.slice A 4 c, .slice D m d], .int .i64 p, .agg #[.int .i64 f, .bool wr]] w fun e w' => e = .returned (.tuple #[]) ∧ OwnT w' lo hi A 4 c D m d (setE t p ⟨f, wr⟩) ∧ Only lo hi w w' :=
  (setEntry_all A D c m d lo hi p q t f wr w h hq hqm hp hl4).mono fun _ _ ⟨h1, h2, h3, _⟩ => ⟨h1, h2, h3⟩
end Go.Proofs.Ytaamjnpknmimmab.L4
