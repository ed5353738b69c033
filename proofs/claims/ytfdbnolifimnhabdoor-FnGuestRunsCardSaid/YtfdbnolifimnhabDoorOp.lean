/- The table of operations. -/
import Derived.Test.YtfdbnolifimnhabDoorInsE
import Derived.Test.YtfdbnolifimnhabDoorFrame
import Derived.Lib.SmallJoins
namespace Go.Proofs.YtfdbnolifimnhabDoor.L3
open Go.RowKit Go.ChangeShapes Go.Deep Go.Proofs.YtfdbnolifimnhabDoor.Mem Go.Proofs.YtfdbnolifimnhabDoor.Own
def opName (k : Nat) : ByteArray := match k with
  | 0 => ⟨#[104, 97, 108, 116]⟩
  | 1 => ⟨#[115, 101, 116]⟩
  | 2 => ⟨#[109, 111, 118, 101]⟩
  | 3 => ⟨#[97, 100, 100]⟩
  | 4 => ⟨#[115, 117, 98]⟩
  | 5 => ⟨#[97, 110, 100]⟩
  | 6 => ⟨#[115, 104, 105, 102, 116]⟩
  | 7 => ⟨#[106, 117, 109, 112]⟩
  | 8 => ⟨#[106, 117, 109, 112, 122, 101, 114, 111]⟩
  | 9 => ⟨#[116, 114, 97, 112]⟩
  | _ => ByteArray.empty
/-- the cells of the table's row k -/
def opRow (k : Nat) : List Value := [.string (opName k), .int .i64 (cntA k), .int .i64 (cntB k), .int .i64 (mostN k + 1)]
def OpsIs (w : World) : Prop := ∀ k, k < 10 → ∀ j v, (opRow k)[j]? = some v → w.cell? ⟨0, k * 4 + j, none⟩ = some v
theorem OpsIs.lt {w : World} (h : OpsIs w) : 0 < w.heap.size := World.block_lt_of_cell? w _ (h 0 (by decide) 0 _ rfl)
theorem ops_below {w w' : World} (hb : Below w.heap.size w w') (h : OpsIs w) : OpsIs w' := fun k hk j v hj => (hb.cell h.lt).trans (h k hk j v hj)
theorem ops_grown {w w' : World} {row : Option Nat} (hg : w.grownBy w' row) (hr : row ≠ some 0) (h : OpsIs w) : OpsIs w' := fun k hk j v hj =>
  (World.cell?_of_block (hg.block _ h.lt (fun e => hr e.symm))).trans (h k hk j v hj)
section
variable {H : Type} {enc : TypeId × Value → H} {P : Program} {w : World} {base : Nat} {sp : Nat → Bool} {held : Bool}
theorem mapM_at' {α β : Type} {f : α → Option β} : ∀ {l : List α} {xs : List β}, l.mapM f = some xs → ∀ (i : Nat) (a : α), l[i]? = some a → ∃ b, xs[i]? = some b ∧ f a = some b := by
  intro l xs h i a ha
  have := mapM_some_get h i a ha
  have hl := mapM_some_length h
  have hi : i < l.length := (List.getElem?_eq_some_iff.1 ha).1
  obtain ⟨b, hb⟩ : ∃ b, xs[i]? = some b := ⟨xs[i]'(by omega), List.getElem?_eq_getElem (by omega)⟩
  exact ⟨b, hb, this.trans hb⟩
theorem array_elem' {fuel : Nat} {t e : TypeId} {n : Nat} {cs : List Value} {ds : List (DataW H)} {p : List MemPlace} (ht : P.underlying t = some (.array n e))
    (h : DataW.trod enc P w base sp held fuel t cs = some (.agg ds, p)) (i : Nat) (hi : i < n) :
    ∃ fuel' d q, ds[i]? = some d ∧ DataW.trod enc P w base sp held fuel' e ((cs.drop (i * P.cellsOf e)).take (P.cellsOf e)) = some (d, q) := by
  cases fuel with
  | zero => simp [DataW.trod] at h
  | succ fuel =>
    simp only [DataW.trod, ht] at h
    split at h
    · obtain ⟨xs, hm, hx⟩ := Option.map_eq_some_iff.1 h
      obtain ⟨b, hb, hf⟩ := mapM_at' hm i i (by simp [hi])
      have hds : xs.map (·.1) = ds := by
        have := congrArg Prod.fst hx
        simpa using this
      exact ⟨fuel, b.1, b.2, by rw [← hds]; simp [hb], hf⟩
    · cases h
/-- an array of structs of four fields, a cell each, element by element -/
theorem array4_elem {fuel : Nat} {t e : TypeId} {n : Nat} {f0 f1 f2 f3 : Field} {cs : List Value} {ds : List (DataW H)} {p : List MemPlace} (ht : P.underlying t = some (.array n e)) (he : P.underlying e = some (.struct #[f0, f1, f2, f3]))
    (hone : oneCellFields P #[f0, f1, f2, f3] = true) (hc : P.cellsOf e = 4)
    (h : DataW.trod enc P w base sp held fuel t cs = some (.agg ds, p)) (i : Nat) (hi : i < n) :
    ∃ (v0 v1 v2 v3 : Value) (y0 y1 y2 y3 : DataW H × List MemPlace) (m : Nat), ds[i]? = some (.agg [y0.1, y1.1, y2.1, y3.1]) ∧ (cs.drop (i * 4)).take 4 = [v0, v1, v2, v3] ∧
      DataW.trod enc P w base sp held m f0.type [v0] = some y0 ∧ DataW.trod enc P w base sp held m f1.type [v1] = some y1 ∧ DataW.trod enc P w base sp held m f2.type [v2] = some y2 ∧ DataW.trod enc P w base sp held m f3.type [v3] = some y3 := by
  obtain ⟨fuel', d, q, hd, hx⟩ := array_elem' ht h i hi
  rw [hc] at hx
  obtain ⟨y0, y1, y2, y3, m, hy, hl, g0, g1, g2, g3⟩ := Go.Joins.trod_struct4 he hx
  rw [hc] at hl
  obtain ⟨o0, k0⟩ := hone_of hone 0 f0 rfl
  obtain ⟨o1, k1⟩ := hone_of hone 1 f1 rfl
  obtain ⟨o2, k2⟩ := hone_of hone 2 f2 rfl
  obtain ⟨o3, k3⟩ := hone_of hone 3 f3 rfl
  match hcs : (cs.drop (i * 4)).take 4, hl with
  | [v0, v1, v2, v3], _ =>
    rw [hcs] at g0 g1 g2 g3
    simp only [Prod.mk.injEq] at hy
    rw [hy.1] at hd
    exact ⟨v0, v1, v2, v3, y0, y1, y2, y3, m, hd, rfl, by simpa [o0, k0] using g0, by simpa [o1, k1] using g1, by simpa [o2, k2] using g2, by simpa [o3, k3] using g3⟩
end
/-- the listed table -/
def opsData : DataW Unit := .agg ((List.range 10).map fun k => .agg [.lit (.string (opName k).data.toList), .lit (.int .i64 (cntA k)), .lit (.int .i64 (cntB k)), .lit (.int .i64 (mostN k + 1))])
theorem opsIs_of_mem {w : World} {l : List (String × DataW Unit)} (h : laidMet Tryd.prog l w) (hm : ("loop.example/g00843/impl.operations", opsData) ∈ l) : OpsIs w := by
  obtain ⟨ps, hl, _⟩ := h
  obtain ⟨g', t', cs, fuel, p, hg', ht', hvar, hd⟩ := Fr.laid_of_mem hl hm
  obtain rfl := Option.some.inj ((show Tryd.prog.globalNamed "loop.example/g00843/impl.operations" = some 0 by kernel_rfl).symm.trans hg')
  obtain rfl := Option.some.inj ((show (Tryd.prog.globals[0]?).map (·.type) = some 63 by kernel_rfl).symm.trans ht')
  intro k hk j v hj
  obtain ⟨v0, v1, v2, v3, y0, y1, y2, y3, m, hx, hcs, g0, g1, g2, g3⟩ := array4_elem Tryd.underlying63 Tryd.underlying62 (by kernel_rfl) (by kernel_rfl) hd k hk
  obtain ⟨s, e0, rfl, _⟩ := DataW.trod_string Tryd.underlying9 g0
  obtain ⟨a, e1, rfl, _⟩ := DataW.trod_int Tryd.underlying3 g1
  obtain ⟨b, e2, rfl, _⟩ := DataW.trod_int Tryd.underlying3 g2
  obtain ⟨c, e3, rfl, _⟩ := DataW.trod_int Tryd.underlying3 g3
  simp only [List.cons.injEq, and_true] at e0 e1 e2 e3
  subst e0 e1 e2 e3
  rw [List.getElem?_map, List.getElem?_range hk, Option.map_some, Option.some.injEq] at hx
  simp only [DataW.agg.injEq, List.cons.injEq, DataW.lit.injEq, Lit.string.injEq, Lit.int.injEq, true_and, and_true] at hx
  obtain ⟨hs, rfl, rfl, rfl⟩ := hx
  have hs2 : s = opName k := by
    have : s.data = (opName k).data := Array.toList_inj.1 hs.symm
    exact ByteArray.ext this
  subst hs2
  have hlen : j < 4 := by have := (List.getElem?_eq_some_iff.1 hj).1; simpa [opRow] using this
  rw [World.var?_cell hg' hvar, ← Array.getElem?_toList]
  have := congrArg (·[j]?) hcs
  simp only [List.getElem?_take, List.getElem?_drop, hlen, if_true] at this
  rw [this]
  exact hj
end Go.Proofs.YtfdbnolifimnhabDoor.L3
