/- The table of traps' names. -/
import Derived.Test.YtaamjnpknmimmaaDoorRows
import Derived.Test.YtaamjnpknmimmaaDoorFrame
import Derived.Test.YtaamjnpknmimmaaDoorBlk
import Derived.Test.YtaamjnpknmimmaaDoorRow
import Derived.Lib.SmallJoins
namespace Go.Proofs.YtaamjnpknmimmaaDoor.L5
open Go Go.RowKit Go.ChangeShapes Go.Deep Go.Proofs.YtaamjnpknmimmaaDoor.Mem Go.Proofs.YtaamjnpknmimmaaDoor.Own
def nmB (k : Nat) : ByteArray := match k with
  | 1 => ⟨#[102, 97, 117, 108, 116]⟩
  | 2 => ⟨#[99, 97, 108, 108]⟩
  | 3 => ⟨#[100, 101, 118, 105, 99, 101]⟩
  | 4 => ⟨#[119, 97, 105, 116]⟩
  | 5 => ⟨#[98, 97, 100]⟩
  | _ => ByteArray.empty
def NamesIs (w : World) : Prop := ∀ k, k < 6 → w.cell? ⟨0, k, none⟩ = some (.string (nmB k))
theorem NamesIs.lt {w : World} (h : NamesIs w) : 0 < w.heap.size := World.block_lt_of_cell? w _ (h 0 (by decide))
theorem names_below {w w' : World} (hb : Below w.heap.size w w') (h : NamesIs w) : NamesIs w' := fun k hk => (hb.cell h.lt).trans (h k hk)
section
variable {H : Type} {enc : TypeId × Value → H} {P : Program} {w : World} {base : Nat} {sp : Nat → Bool} {held : Bool}
theorem mapM_at5 {α β : Type} {f : α → Option β} : ∀ {l : List α} {xs : List β}, l.mapM f = some xs → ∀ (i : Nat) (a : α), l[i]? = some a → ∃ b, xs[i]? = some b ∧ f a = some b := by
  intro l xs h i a ha
  have := mapM_some_get h i a ha
  have hl := mapM_some_length h
  have hi : i < l.length := (List.getElem?_eq_some_iff.1 ha).1
  obtain ⟨b, hb⟩ : ∃ b, xs[i]? = some b := ⟨xs[i]'(by omega), List.getElem?_eq_getElem (by omega)⟩
  exact ⟨b, hb, this.trans hb⟩
theorem array_elem5 {fuel : Nat} {t e : TypeId} {n : Nat} {cs : List Value} {ds : List (DataW H)} {p : List MemPlace} (ht : P.underlying t = some (.array n e))
    (h : DataW.trod enc P w base sp held fuel t cs = some (.agg ds, p)) (i : Nat) (hi : i < n) :
    ∃ fuel' d q, ds[i]? = some d ∧ DataW.trod enc P w base sp held fuel' e ((cs.drop (i * P.cellsOf e)).take (P.cellsOf e)) = some (d, q) := by
  cases fuel with
  | zero => simp [DataW.trod] at h
  | succ fuel =>
    simp only [DataW.trod, ht] at h
    split at h
    · obtain ⟨xs, hm, hx⟩ := Option.map_eq_some_iff.1 h
      obtain ⟨b, hb, hf⟩ := mapM_at5 hm i i (by simp [hi])
      have hds : xs.map (·.1) = ds := by
        have := congrArg Prod.fst hx
        simpa using this
      exact ⟨fuel, b.1, b.2, by rw [← hds]; simp [hb], hf⟩
    · cases h
end
/-- the listed table -/
def namesData : DataW Unit := .agg ((List.range 6).map fun k => .lit (.string (nmB k).data.toList))
theorem namesIs_of_mem {w : World} {l : List (String × DataW Unit)} (h : laidMet Tryd.prog l w) (hm : ("loop.example/g00843/impl.trapNames", namesData) ∈ l) : NamesIs w := by
  obtain ⟨ps, hl, _⟩ := h
  obtain ⟨g', t', cs, fuel, p, hg', ht', hvar, hd⟩ := Fr.laid_of_mem hl hm
  obtain rfl := Option.some.inj ((show Tryd.prog.globalNamed "loop.example/g00843/impl.trapNames" = some 0 by kernel_rfl).symm.trans hg')
  obtain rfl := Option.some.inj ((show (Tryd.prog.globals[0]?).map (·.type) = some 48 by kernel_rfl).symm.trans ht')
  intro k hk
  obtain ⟨fuel', d, q, hx, hcs⟩ := array_elem5 Tryd.underlying48 hd k hk
  rw [show Tryd.prog.cellsOf 9 = 1 by kernel_rfl, Nat.mul_one] at hcs
  obtain ⟨s, e0, hdq, _⟩ := DataW.trod_string Tryd.underlying9 hcs
  obtain ⟨rfl, rfl⟩ := Prod.mk.inj hdq
  rw [List.getElem?_map, List.getElem?_range hk, Option.map_some, Option.some.injEq] at hx
  simp only [DataW.lit.injEq, Lit.string.injEq] at hx
  have hs2 : s = nmB k := by
    have : s.data = (nmB k).data := Array.toList_inj.1 hx.symm
    exact ByteArray.ext this
  subst hs2
  rw [World.var?_cell hg' hvar, ← Array.getElem?_toList]
  have := congrArg (·[0]?) e0
  simpa using this
end Go.Proofs.YtaamjnpknmimmaaDoor.L5
