/- What spec.l8With answers: slots with another one. -/
import Derived.Test.YtadpjkghfgnbbaaSlo
import Derived.Test.YtadpjkghfgnbbaaSltA
import Derived.Test.YtadpjkghfgnbbaaSltT
import Derived.Test.YtadpjkghfgnbbaaBlk
import Derived.Deep.Cut
namespace Go.Proofs.Ytadpjkghfgnbbaa.L8
open Go Go.RowKit Go.Proofs.Ytadpjkghfgnbbaa.Mem Go.Proofs.Ytadpjkghfgnbbaa.Own
/-- four slots of the call's own -/
def NewS (w : World) (l : List Slt) (e : Ending) (w' : World) : Prop :=
  ∃ g cc, e = .returned (.slice (some ⟨g, 0, none⟩) 4 cc) ∧ w'.ownsRow w.heap.size 33 3 (.slice (some ⟨g, 0, none⟩) 4 cc) 4 (FL l) ∧ Below w.heap.size w w'
set_option maxRecDepth 100000 in
set_option maxHeartbeats 2000000 in
theorem l8With_any (A : Option Addr) (c k : Nat) (xs : List Slt) (x : Slt) (w : World) (hr : Reads w w.heap.size 3 A 4 (FL xs)) (hk : k < 4) :
    Calls Try.prog 58 #[.slice A 4 c, .int .i64 k, .agg #[.int .i64 x.st, .int .i64 x.iq, .int .i64 x.pr]] w (NewS w (xs.set k x)) := by
  obtain ⟨i0, hi, hz0, hz1, hz2⟩ := info_parts infoSlt
  obtain ⟨b, off, rfl, hbw, _⟩ := hr.2 (by omega)
  have hl : xs.length = 4 := reads_len hr
  have hfl : (FL xs).length = 12 := by rw [FL_len, hl]; rfl
  obtain ⟨L, hL⟩ : ∃ L, L = FL xs := ⟨_, rfl⟩
  obtain ⟨wb, hwb⟩ : ∃ wb, (w.alloc (.cells #[.int .i64 x.st, .int .i64 x.iq, .int .i64 x.pr] 33)).alloc (.cells #[] 33) = wb := ⟨_, rfl⟩
  have hB0 : Below w.heap.size w wb := by rw [← hwb]; exact below_more (below_more (Below.refl _ _) _) _
  have hX : Blk wb w.heap.size 33 #[.int .i64 x.st, .int .i64 x.iq, .int .i64 x.pr] := by rw [← hwb]; exact Blk.alloc (Blk.new _ _ _) _
  have hown0 : wb.ownsRow (w.heap.size + 1) 33 3 (.slice (some ⟨w.heap.size + 1, 0, none⟩) 0 0) 0 [] := by
    rw [← hwb]
    have h := World.ownsRow_made (w.alloc (.cells #[.int .i64 x.st, .int .i64 x.iq, .int .i64 x.pr] 33)) (e := 33) (size := 3) #[] 0 (base := w.heap.size + 1) (by rw [size1]; exact Nat.le_refl _) (Nat.zero_le _) rfl
    rw [size1] at h
    exact h
  have hcells : ∀ j u, L[j]? = some u → wb.cell? ((⟨b, off, none⟩ : Addr).add j) = some u := by
    intro j u hu
    subst hL
    obtain ⟨b', off', e, hb, hc⟩ := (hr.below hB0).2 (by omega)
    simp only [Option.some.injEq, Addr.mk.injEq, and_true] at e
    obtain ⟨rfl, rfl⟩ := e
    rw [Go.WideShapes.add_plain]
    exact hc j u hu
  have h1 : ∀ u ∈ L, u.oneCell' = true := by rw [hL]; exact slt_one xs
  have hl2 : L.length = 4 * 3 := by rw [hL]; exact hr.1
  have HL := Lib.hid hL
  have HB0 := Lib.hid hB0
  have HX := Lib.hid hX
  have HWB := Lib.hid hwb
  have hsz : wb.heap.size = w.heap.size + 1 + 1 := by rw [← hwb, size1, size1]
  clear hL hr hB0 hX hwb
  go_enter Try.func58, Try.ntmps58
  go_upto_region 2 with (at_builtin; rw [HWB.out]; refine wpList_append_own _ rfl _ _ 24 rfl (w.heap.size + 1) 33 i0 (.agg #[.int .i64 0, .int .i64 0, .int .i64 0]) 3 24 Try.underlying24 hi hz0 hz1 hz2 rfl (by decide) _ _ _ rfl hown0 ⟨b, off, none⟩ 4 c L rfl hl2 hcells h1 (by unfold maxLen; omega) (by omega) (by omega) ?_; intro v' w1 hown1 hgrow1 _)
  have hbel1 : Below w.heap.size w w1 := HB0.out.grown hgrow1 (by omega) (fun q hq => Nat.le_of_succ_le (hown0.lt q hq).1)
  have hown2 : w1.ownsRow (w.heap.size + 1) 33 3 v' 4 (FL xs) := by rw [← HL.out]; simpa using hown1
  obtain ⟨A', cc, rfl, _, _⟩ := own_form hown2
  obtain ⟨g, rfl⟩ := own_head hown2 (by omega)
  have hgw := (hown2.lt g rfl).1
  have hx : Blk w1 w.heap.size 33 #[.int .i64 x.st, .int .i64 x.iq, .int .i64 x.pr] := by
    have hg1 : wb.grownBy w1 (some (w.heap.size + 1)) := hgrow1
    exact (hg1.block w.heap.size HX.out.lt (fun e => by injection e with e; omega)).trans HX.out
  have d0 := hx.cell 0 _ rfl
  have d1 := hx.cell 1 _ rfl
  have d2 := hx.cell 2 _ rfl
  have hgw0 : w.heap.size ≤ g := by omega
  have hown3 := own_mono hown2 (Nat.le_succ w.heap.size)
  have HP := Lib.hid (slt_put hown3 (k := k) (by omega) x)
  have HW := Lib.hid (below_set (below_set (below_set hbel1 hgw0 (j := k * 3) (.int .i64 x.st)) hgw0 (j := k * 3 + 1) (.int .i64 x.iq)) hgw0 (j := k * 3 + 2) (.int .i64 x.pr))
  have f0 := hown3.frozenAt (k * 3)
  have f1 := hown3.frozenAt (k * 3 + 1)
  have f2 := hown3.frozenAt (k * 3 + 2)
  obtain ⟨y0, c0⟩ : ∃ z, w1.cell? ⟨g, k * 3, none⟩ = some z := ⟨_, (hown3.cellAt (k * 3) (by omega)).trans (List.getElem?_eq_getElem (by omega))⟩
  obtain ⟨y1, c1⟩ : ∃ z, w1.cell? ⟨g, k * 3 + 1, none⟩ = some z := ⟨_, (hown3.cellAt (k * 3 + 1) (by omega)).trans (List.getElem?_eq_getElem (by omega))⟩
  obtain ⟨y2, c2⟩ : ∃ z, w1.cell? ⟨g, k * 3 + 2, none⟩ = some z := ⟨_, (hown3.cellAt (k * 3 + 2) (by omega)).trans (List.getElem?_eq_getElem (by omega))⟩
  clear hown0 hown1 hown2 hown3 hx hgrow1 hbel1 hl hfl HL HX HB0 HWB hcells h1
  go_wp2_with fail
  go_ret
  exact ⟨g, cc, rfl, HP.out.1, HW.out⟩
end Go.Proofs.Ytadpjkghfgnbbaa.L8
