/- What impl.withIrq and spec.l6With answer: a new list with another element. -/
import Derived.Test.YtclnhdjnmfkeaaaDst
import Derived.Test.YtclnhdjnmfkeaaaIrqK
import Derived.Deep.Cut
namespace Go.Proofs.Ytclnhdjnmfkeaaa.L6
open Go Go.RowKit Go.Proofs.Ytclnhdjnmfkeaaa.Mem Go.Proofs.Ytclnhdjnmfkeaaa.Own
/-- a new list of eight -/
def NewL (w : World) (l : List Irq) (e : Ending) (w' : World) : Prop :=
  ∃ g cc, e = .returned (.slice (some ⟨g, 0, none⟩) 8 cc) ∧ w'.ownsRow w.heap.size 53 5 (.slice (some ⟨g, 0, none⟩) 8 cc) 8 (FL l) ∧ Below w.heap.size w w'
set_option maxRecDepth 100000 in
set_option maxHeartbeats 2000000 in
theorem withIrq_any (A : Option Addr) (c k : Nat) (xs : List Irq) (x : Irq) (w : World) (hr : Reads w w.heap.size 5 A 8 (FL xs)) (hk : k < 8) :
    Calls Try.prog 62 #[.slice A 8 c, .int .i64 k, .agg #[.bool x.en, .bool x.pe, .bool x.ac, .int .i64 x.pr, .int .i64 x.tg]] w (NewL w (xs.set k x)) := by
  obtain ⟨b, off, rfl, hbw, _⟩ := hr.2 (by omega)
  have hl : xs.length = 8 := reads_len hr
  have HB0 := Lib.hid (below_more (Below.refl w.heap.size w) (.cells #[.bool x.en, .bool x.pe, .bool x.ac, .int .i64 x.pr, .int .i64 x.tg] 53))
  have HX := Lib.hid (Blk.new w #[.bool x.en, .bool x.pe, .bool x.ac, .int .i64 x.pr, .int .i64 x.tg] 53)
  have HR := Lib.hid (hr.below HB0.out)
  clear hr
  go_enter Try.func62, Try.ntmps62
  go_wp2_with fail
  refine (irq_clone b off 8 c _ xs _ HR.out (by omega) (by omega)).mono ?_
  rintro e w1 ⟨g, cc, rfl, hown, hb⟩
  have hx := Blk.kept hb HX.out
  have d0 := hx.cell 0 _ rfl
  have d1 := hx.cell 1 _ rfl
  have d2 := hx.cell 2 _ rfl
  have d3 := hx.cell 3 _ rfl
  have d4 := hx.cell 4 _ rfl
  have hle := (below_then HB0.out hb).size
  have hown1 : w1.ownsRow w.heap.size 53 5 (.slice (some ⟨g, 0, none⟩) 8 cc) 8 (FL xs) := own_mono hown HB0.out.size
  have hgw : w.heap.size ≤ g := (hown1.lt g rfl).1
  have HP := Lib.hid (irq_put hown1 (k := k) (by omega) x)
  have HW := Lib.hid (below_set (below_set (below_set (below_set (below_set (below_then HB0.out hb) hgw (j := k * 5) (.bool x.en)) hgw (j := k * 5 + 1) (.bool x.pe)) hgw (j := k * 5 + 2) (.bool x.ac)) hgw (j := k * 5 + 3) (.int .i64 x.pr)) hgw (j := k * 5 + 4) (.int .i64 x.tg))
  have f0 := hown1.frozenAt (k * 5)
  have f1 := hown1.frozenAt (k * 5 + 1)
  have f2 := hown1.frozenAt (k * 5 + 2)
  have f3 := hown1.frozenAt (k * 5 + 3)
  have f4 := hown1.frozenAt (k * 5 + 4)
  have hfl : (FL xs).length = 40 := by rw [FL_len, hl]; rfl
  obtain ⟨y0, c0⟩ : ∃ z, w1.cell? ⟨g, k * 5, none⟩ = some z := ⟨_, (hown1.cellAt (k * 5) (by omega)).trans (List.getElem?_eq_getElem (by omega))⟩
  obtain ⟨y1, c1⟩ : ∃ z, w1.cell? ⟨g, k * 5 + 1, none⟩ = some z := ⟨_, (hown1.cellAt (k * 5 + 1) (by omega)).trans (List.getElem?_eq_getElem (by omega))⟩
  obtain ⟨y2, c2⟩ : ∃ z, w1.cell? ⟨g, k * 5 + 2, none⟩ = some z := ⟨_, (hown1.cellAt (k * 5 + 2) (by omega)).trans (List.getElem?_eq_getElem (by omega))⟩
  obtain ⟨y3, c3⟩ : ∃ z, w1.cell? ⟨g, k * 5 + 3, none⟩ = some z := ⟨_, (hown1.cellAt (k * 5 + 3) (by omega)).trans (List.getElem?_eq_getElem (by omega))⟩
  obtain ⟨y4, c4⟩ : ∃ z, w1.cell? ⟨g, k * 5 + 4, none⟩ = some z := ⟨_, (hown1.cellAt (k * 5 + 4) (by omega)).trans (List.getElem?_eq_getElem (by omega))⟩
  clear hown hb hx hown1 hl hfl
  go_wp2_with fail
  go_ret
  exact ⟨g, cc, rfl, HP.out.1, HW.out⟩
set_option maxRecDepth 100000 in
set_option maxHeartbeats 2000000 in
theorem l6With_any (A : Option Addr) (c k : Nat) (xs : List Irq) (x : Irq) (w : World) (hr : Reads w w.heap.size 5 A 8 (FL xs)) (hk : k < 8) :
    Calls Try.prog 60 #[.slice A 8 c, .int .i64 k, .agg #[.bool x.en, .bool x.pe, .bool x.ac, .int .i64 x.pr, .int .i64 x.tg]] w (NewL w (xs.set k x)) := by
  obtain ⟨i0, hi, hz0, hz1, hz2⟩ := info_parts infoIrq
  obtain ⟨b, off, rfl, hbw, _⟩ := hr.2 (by omega)
  have hl : xs.length = 8 := reads_len hr
  have hfl : (FL xs).length = 40 := by rw [FL_len, hl]; rfl
  obtain ⟨L, hL⟩ : ∃ L, L = FL xs := ⟨_, rfl⟩
  obtain ⟨wb, hwb⟩ : ∃ wb, (w.alloc (.cells #[.bool x.en, .bool x.pe, .bool x.ac, .int .i64 x.pr, .int .i64 x.tg] 53)).alloc (.cells #[] 53) = wb := ⟨_, rfl⟩
  have hB0 : Below w.heap.size w wb := by rw [← hwb]; exact below_more (below_more (Below.refl _ _) _) _
  have hX : Blk wb w.heap.size 53 #[.bool x.en, .bool x.pe, .bool x.ac, .int .i64 x.pr, .int .i64 x.tg] := by rw [← hwb]; exact Blk.alloc (Blk.new _ _ _) _
  have hown0 : wb.ownsRow (w.heap.size + 1) 53 5 (.slice (some ⟨w.heap.size + 1, 0, none⟩) 0 0) 0 [] := by
    rw [← hwb]
    have h := World.ownsRow_made (w.alloc (.cells #[.bool x.en, .bool x.pe, .bool x.ac, .int .i64 x.pr, .int .i64 x.tg] 53)) (e := 53) (size := 5) #[] 0 (base := w.heap.size + 1) (by rw [size1]; exact Nat.le_refl _) (Nat.zero_le _) rfl
    rw [size1] at h
    exact h
  have hcells : ∀ j u, L[j]? = some u → wb.cell? ((⟨b, off, none⟩ : Addr).add j) = some u := by
    intro j u hu
    subst hL
    obtain ⟨b', off', e, hb, hc⟩ := (hr.below hB0).2 (by omega)
    simp only [Option.some.injEq, Addr.mk.injEq, and_true] at e
    obtain ⟨rfl, rfl⟩ := e
    rw [Go.WideShapes.add_plain]
    exact hc j u hu
  have h1 : ∀ u ∈ L, u.oneCell' = true := by rw [hL]; exact irq_one xs
  have hl2 : L.length = 8 * 5 := by rw [hL]; exact hr.1
  have HL := Lib.hid hL
  have HB0 := Lib.hid hB0
  have HX := Lib.hid hX
  have HWB := Lib.hid hwb
  have hsz : wb.heap.size = w.heap.size + 1 + 1 := by rw [← hwb, size1, size1]
  clear hL hr hB0 hX hwb
  go_enter Try.func60, Try.ntmps60
  go_upto_region 2 with (at_builtin; rw [HWB.out]; refine wpList_append_own _ rfl _ _ 25 rfl (w.heap.size + 1) 53 i0 (.agg #[.bool false, .bool false, .bool false, .int .i64 0, .int .i64 0]) 5 24 Try.underlying25 hi hz0 hz1 hz2 rfl (by decide) _ _ _ rfl hown0 ⟨b, off, none⟩ 8 c L rfl hl2 hcells h1 (by unfold maxLen; omega) (by omega) (by omega) ?_; intro v' w1 hown1 hgrow1 _)
  have hbel1 : Below w.heap.size w w1 := HB0.out.grown hgrow1 (by omega) (fun q hq => Nat.le_of_succ_le (hown0.lt q hq).1)
  have hown2 : w1.ownsRow (w.heap.size + 1) 53 5 v' 8 (FL xs) := by rw [← HL.out]; simpa using hown1
  obtain ⟨A', cc, rfl, _, _⟩ := own_form hown2
  obtain ⟨g, rfl⟩ := own_head hown2 (by omega)
  have hgw := (hown2.lt g rfl).1
  have hx : Blk w1 w.heap.size 53 #[.bool x.en, .bool x.pe, .bool x.ac, .int .i64 x.pr, .int .i64 x.tg] := by
    have hg1 : wb.grownBy w1 (some (w.heap.size + 1)) := hgrow1
    exact (hg1.block w.heap.size HX.out.lt (fun e => by injection e with e; omega)).trans HX.out
  have d0 := hx.cell 0 _ rfl
  have d1 := hx.cell 1 _ rfl
  have d2 := hx.cell 2 _ rfl
  have d3 := hx.cell 3 _ rfl
  have d4 := hx.cell 4 _ rfl
  have hgw0 : w.heap.size ≤ g := by omega
  have hown3 := own_mono hown2 (Nat.le_succ w.heap.size)
  have HP := Lib.hid (irq_put hown3 (k := k) (by omega) x)
  have HW := Lib.hid (below_set (below_set (below_set (below_set (below_set hbel1 hgw0 (j := k * 5) (.bool x.en)) hgw0 (j := k * 5 + 1) (.bool x.pe)) hgw0 (j := k * 5 + 2) (.bool x.ac)) hgw0 (j := k * 5 + 3) (.int .i64 x.pr)) hgw0 (j := k * 5 + 4) (.int .i64 x.tg))
  have f0 := hown3.frozenAt (k * 5)
  have f1 := hown3.frozenAt (k * 5 + 1)
  have f2 := hown3.frozenAt (k * 5 + 2)
  have f3 := hown3.frozenAt (k * 5 + 3)
  have f4 := hown3.frozenAt (k * 5 + 4)
  obtain ⟨y0, c0⟩ : ∃ z, w1.cell? ⟨g, k * 5, none⟩ = some z := ⟨_, (hown3.cellAt (k * 5) (by omega)).trans (List.getElem?_eq_getElem (by omega))⟩
  obtain ⟨y1, c1⟩ : ∃ z, w1.cell? ⟨g, k * 5 + 1, none⟩ = some z := ⟨_, (hown3.cellAt (k * 5 + 1) (by omega)).trans (List.getElem?_eq_getElem (by omega))⟩
  obtain ⟨y2, c2⟩ : ∃ z, w1.cell? ⟨g, k * 5 + 2, none⟩ = some z := ⟨_, (hown3.cellAt (k * 5 + 2) (by omega)).trans (List.getElem?_eq_getElem (by omega))⟩
  obtain ⟨y3, c3⟩ : ∃ z, w1.cell? ⟨g, k * 5 + 3, none⟩ = some z := ⟨_, (hown3.cellAt (k * 5 + 3) (by omega)).trans (List.getElem?_eq_getElem (by omega))⟩
  obtain ⟨y4, c4⟩ : ∃ z, w1.cell? ⟨g, k * 5 + 4, none⟩ = some z := ⟨_, (hown3.cellAt (k * 5 + 4) (by omega)).trans (List.getElem?_eq_getElem (by omega))⟩
  clear hown0 hown1 hown2 hown3 hx hgrow1 hbel1 hl hfl HL HX HB0 HWB hcells h1
  go_wp2_with fail
  go_ret
  exact ⟨g, cc, rfl, HP.out.1, HW.out⟩
end Go.Proofs.Ytclnhdjnmfkeaaa.L6
