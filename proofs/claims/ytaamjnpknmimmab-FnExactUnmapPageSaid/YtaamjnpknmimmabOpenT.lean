/- The laws' arguments of chapter 4, opened. -/
import Derived.Test.YtaamjnpknmimmabTab
namespace Go.Proofs.Ytaamjnpknmimmab.L4
open Go Go.RowKit Go.ChangeShapes Go.WideShapes Go.Deep Go.Joins Go.Proofs.Ytaamjnpknmimmab.Mem Go.Proofs.Ytaamjnpknmimmab.Own
structure LV where
  v : Value
  xs : List Ent
deriving Inhabited
instance : Cells LV where
  size := 1
  cells l := [l.v]
  len _ := rfl
  pos := by decide
theorem FL_lv (ls : List LV) : FL ls = ls.map (·.v) := by
  induction ls with
  | nil => rfl
  | cons l ls ih => simp [FL, ih, Cells.cells]
section
variable {H : Type} {enc : TypeId × Value → H} {w : World}
theorem cellsEnt : Try.prog.cellsOf 116 = 2 := by kernel_rfl
theorem cells2 {P : Program} {e : TypeId} {f0 f1 : Field} {fuel : Nat} {cs : List Value} {y : DataW H × List MemPlace} (he : P.underlying e = some (.struct #[f0, f1])) (hone : oneCellFields P #[f0, f1] = true) (hc : P.cellsOf e = 2)
    (h : DataW.trod enc P w 0 (fun _ => true) true fuel e cs = some y) : ∃ (v0 v1 : Value) (y0 y1 : DataW H × List MemPlace) (m : Nat), cs = [v0, v1] ∧
      DataW.trod enc P w 0 (fun _ => true) true m f0.type [v0] = some y0 ∧ DataW.trod enc P w 0 (fun _ => true) true m f1.type [v1] = some y1 := by
  obtain ⟨y0, y1, m, _, hl, g0, g1⟩ := trod_struct2 he h
  rw [hc] at hl
  obtain ⟨o0, k0⟩ := hone_of hone 0 f0 rfl
  obtain ⟨o1, k1⟩ := hone_of hone 1 f1 rfl
  match cs, hl with
  | [v0, v1], _ => exact ⟨v0, v1, y0, y1, m, rfl, by simpa [o0, k0] using g0, by simpa [o1, k1] using g1⟩
theorem nums_cells {t e : TypeId} {fuel : Nat} {cs : List Value} {y : DataW H × List MemPlace} (ht : Try.prog.underlying t = some (.slice e)) (he : Try.prog.underlying e = some (.int .i64)) (hc : Try.prog.cellsOf e = 1)
    (hf : DataW.trod enc Try.prog w 0 (fun _ => true) true fuel t cs = some y) : ∃ (A : Option Addr) (n c : Nat) (zs : List Int), cs = [.slice A n c] ∧ n ≤ c ∧ c ≤ maxLen ∧ Reads w w.heap.size 1 A n (I zs) := by
  obtain ⟨a, len, cap, hcs⟩ := slice_form ht hf
  subst hcs
  rcases open_ints ht he hc hf with ⟨h1, _⟩ | ⟨a', len', cap', zs, h1, _, hl, hm, hz, _, hcell, hws⟩
  · have h2 : a = none ∧ len = 0 ∧ cap = 0 := by simpa using h1
    obtain ⟨rfl, rfl, rfl⟩ := h2
    exact ⟨none, 0, 0, [], rfl, Nat.le_refl _, Nat.zero_le _, Reads.nil_⟩
  · have h2 : a = some a' ∧ len = len' ∧ cap = cap' := by simpa using h1
    obtain ⟨rfl, rfl, rfl⟩ := h2
    have hz' : zs.length = cap := by simpa using hz
    refine ⟨some a', len, cap, zs.take len, rfl, hl, hm, ?_⟩
    refine reads_of_add (f := fun i => .int .i64 (zs.getD i 0)) hcell (by omega) (by simp [I]; omega) (fun j hj => ?_)
    unfold I
    rw [List.getElem?_map, List.getElem?_take_of_lt hj, List.getElem?_eq_getElem (by omega)]
    simp [List.getD, List.getElem?_eq_getElem (show j < zs.length by omega)]
set_option maxRecDepth 100000 in
theorem leaf_cells {fuel : Nat} {cs : List Value} {y : DataW H × List MemPlace} (hf : DataW.trod enc Try.prog w 0 (fun _ => true) true fuel 106 cs = some y) : ∃ l : LV, LeafAt w w.heap.size l.v l.xs ∧ cs = Cells.cells l := by
  obtain ⟨A, n, c, xs, hcs, h1, h2, _, _, hr, _⟩ := open_recs (α := Ent) (g := fun _ => True) Try.underlying106 cellsEnt (fun fuel cs y h => by
    obtain ⟨v0, v1, y0, y1, m, rfl, g0, g1⟩ := cells2 Try.underlying116 (by kernel_rfl) cellsEnt h
    obtain ⟨a, e0, _, _⟩ := DataW.trod_int Try.underlying3 g0
    obtain ⟨b, e1, _⟩ := DataW.trod_bool Try.underlying4 g1
    simp only [List.cons.injEq, and_true] at e0 e1
    subst e0 e1
    exact ⟨⟨a, b⟩, trivial, rfl⟩) hf
  exact ⟨⟨.slice A n c, xs⟩, ⟨A, n, c, rfl, h1, h2, hr⟩, hcs⟩
set_option maxRecDepth 100000 in
theorem leaves_cells {fuel : Nat} {cs : List Value} {y : DataW H × List MemPlace} (hf : DataW.trod enc Try.prog w 0 (fun _ => true) true fuel 23 cs = some y) :
    ∃ (D : Option Addr) (m d : Nat) (xss : List (List Ent)), cs = [.slice D m d] ∧ m ≤ d ∧ d ≤ maxLen ∧ ReadsL w w.heap.size D m xss := by
  obtain ⟨A, n, c, ls, hcs, h1, h2, hl, hg, hr, _⟩ := open_recs (α := LV) (g := fun l => LeafAt w w.heap.size l.v l.xs) Try.underlying23 (by kernel_rfl) (fun fuel cs y h => leaf_cells h) hf
  refine ⟨A, n, c, ls.map (·.xs), hcs, h1, h2, ls.map (·.v), by rw [← FL_lv]; exact hr, by simp, fun i v xs k1 k2 => ?_⟩
  rw [List.getElem?_map, Option.map_eq_some_iff] at k1 k2
  obtain ⟨l, e1, rfl⟩ := k1
  obtain ⟨l', e2, rfl⟩ := k2
  rw [e1] at e2
  obtain rfl := Option.some.inj e2
  exact hg l (List.mem_of_getElem? e1)
set_option maxRecDepth 100000 in
theorem open_table {base : Nat} {v : Value} {d : DataW H} {p : List MemPlace} (q : Value.okWide Try.prog w .any base 25 v) (h : DataW.Trod enc Try.prog w 0 (fun _ => true) true 25 v d p) :
    ∃ (A : Option Addr) (n c : Nat) (D : Option Addr) (m d : Nat) (t : Tab), v = .agg #[.slice A n c, .slice D m d] ∧ n ≤ maxLen ∧ m ≤ maxLen ∧ ReadsT w w.heap.size A n D m t := by
  obtain ⟨c0, c1, y0, y1, k, rfl, _, _, h0, h1⟩ := open_agg2 Try.underlying25 (by kernel_rfl) (by kernel_rfl) q h
  obtain ⟨A, n, c, zs, e0, hn, hc, hr⟩ := nums_cells Try.underlying22 Try.underlying3 (by kernel_rfl) h0
  obtain ⟨D, m, d, xss, e1, hm, hd, hx⟩ := leaves_cells h1
  simp only [List.cons.injEq, and_true] at e0 e1
  subst e0 e1
  exact ⟨A, n, c, D, m, d, ⟨zs, xss⟩, rfl, Nat.le_trans hn hc, Nat.le_trans hm hd, hr, hx⟩
end
end Go.Proofs.Ytaamjnpknmimmab.L4
