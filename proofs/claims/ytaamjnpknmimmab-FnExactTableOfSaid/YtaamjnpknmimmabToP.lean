/- TableOf: the pure part, and small laws on cells. -/
import Derived.Test.YtaamjnpknmimmabMrA
import Derived.Test.YtaamjnpknmimmabL4New
namespace Go.Proofs.Ytaamjnpknmimmab.L4
open Go Go.RowKit Go.Proofs.Ytaamjnpknmimmab.Mem Go.Proofs.Ytaamjnpknmimmab.Own Go.Proofs.Ytaamjnpknmimmab.L1
/-- the table behind the first k pages -/
def tabN (ps fs : List Int) : Nat → Option Tab
  | 0 => some newTab
  | k + 1 => match tabN ps fs k with
    | none => none
    | some T => if CanM T (ps.getD k 0) (fs.getD k 0) then some (mapOf T (ps.getD k 0) (fs.getD k 0) true).1 else none
def tabAns (ps fs : List Int) : Tab × Bool :=
  if ps.length = fs.length then match tabN ps fs ps.length with
    | some T => (T, true)
    | none => (noTab, false)
  else (noTab, false)
theorem tabN_succ {ps fs : List Int} {k : Nat} {T : Tab} (h : tabN ps fs k = some T) (hc : CanM T (ps.getD k 0) (fs.getD k 0)) : tabN ps fs (k + 1) = some (mapOf T (ps.getD k 0) (fs.getD k 0) true).1 := by
  simp only [tabN, h]
  rw [if_pos hc]
theorem tabN_stop {ps fs : List Int} {k : Nat} {T : Tab} (h : tabN ps fs k = some T) (hc : ¬ CanM T (ps.getD k 0) (fs.getD k 0)) : tabN ps fs (k + 1) = none := by
  simp only [tabN, h]
  rw [if_neg hc]
theorem tabN_none {ps fs : List Int} {k : Nat} (h : tabN ps fs k = none) : ∀ j, k ≤ j → tabN ps fs j = none := by
  intro j hj
  induction j with
  | zero => rw [show k = 0 by omega] at h; exact h
  | succ j ih =>
    by_cases e : k = j + 1
    · rw [← e]; exact h
    · simp only [tabN, ih (by omega)]
theorem small_new : Small newTab := ⟨by decide, by decide, by decide⟩
theorem tab_stop {ps fs : List Int} {T T' : Tab} {b : Bool} {k : Nat} (h : tabAns ps fs = (T, b)) (hk : tabN ps fs k = some T') (hn : ¬ CanM T' (ps.getD k 0) (fs.getD k 0)) (hlt : k < ps.length) : T = noTab ∧ b = false := by
  unfold tabAns at h
  by_cases e : ps.length = fs.length
  · rw [if_pos e, tabN_none (tabN_stop hk hn) ps.length (by omega)] at h
    exact ⟨(congrArg Prod.fst h).symm, (congrArg Prod.snd h).symm⟩
  · rw [if_neg e] at h
    exact ⟨(congrArg Prod.fst h).symm, (congrArg Prod.snd h).symm⟩
theorem tab_end {ps fs : List Int} {T T' : Tab} {b : Bool} (h : tabAns ps fs = (T, b)) (e : ps.length = fs.length) (hk : tabN ps fs ps.length = some T') : T = T' ∧ b = true := by
  unfold tabAns at h
  rw [if_pos e, hk] at h
  exact ⟨(congrArg Prod.fst h).symm, (congrArg Prod.snd h).symm⟩
theorem tab_no {ps fs : List Int} {T : Tab} {b : Bool} (h : tabAns ps fs = (T, b)) (e : ps.length ≠ fs.length) : T = noTab ∧ b = false := by
  unfold tabAns at h
  rw [if_neg e] at h
  exact ⟨(congrArg Prod.fst h).symm, (congrArg Prod.snd h).symm⟩
theorem tabN_small {ps fs : List Int} {k : Nat} {T : Tab} (h : tabN ps fs k = some T) : Small T := by
  cases k with
  | zero => simp only [tabN, Option.some.injEq] at h; subst h; exact small_new
  | succ k =>
    simp only [tabN] at h
    split at h
    · cases h
    · split at h
      · rename_i hc
        obtain rfl := Option.some.inj h
        exact map_small hc
      · cases h
theorem tabAns_small {ps fs : List Int} {T : Tab} {b : Bool} (h : tabAns ps fs = (T, b)) : Small T := by
  unfold tabAns at h
  split at h
  · split at h
    · rename_i T0 hT
      obtain rfl := congrArg Prod.fst h
      exact tabN_small hT
    · obtain rfl := congrArg Prod.fst h
      exact small_none
  · obtain rfl := congrArg Prod.fst h
    exact small_none
theorem cell_al {w : World} {p : Addr} {v : Value} (h : w.cell? p = some v) (o : Obj) : (w.alloc o).cell? p = some v := (World.cell?_alloc_lt w o p (World.block_lt_of_cell? w _ h)).trans h
theorem cell_bl {w w' : World} {p : Addr} {v : Value} (hb : Below w.heap.size w w') (h : w.cell? p = some v) : w'.cell? p = some v := (hb.cell (World.block_lt_of_cell? w _ h)).trans h
theorem cell_st {w : World} {p : Addr} {v : Value} (h : w.cell? p = some v) {N j : Nat} (u : Value) (hne : p.block ≠ N) : (w.setCell ⟨N, j, none⟩ u).cell? p = some v := (World.cell?_of_block (heap_setCell_other w ⟨N, j, none⟩ p.block u hne)).trans h
/-- the table's variable where it lay already when the call began -/
theorem AtMN.early {w wr w2 : World} {O R c d c' d' k : Nat} {A D A' D' : Option Addr} {T T' : Tab} (h : AtMR w wr O R A c D d T k)
    (hown : OwnT w2 (wr.alloc (.cells #[.slice none 0 0, .slice none 0 0] 29)).heap.size w2.heap.size A' T'.dirs.length c' D' T'.leaves.length d' T')
    (hb : Below (wr.alloc (.cells #[.slice none 0 0, .slice none 0 0] 29)).heap.size (wr.alloc (.cells #[.slice none 0 0, .slice none 0 0] 29)) w2) (hs : Small T') :
    AtMN w ((w2.setCell ⟨wr.heap.size, 0, none⟩ (.slice A' T'.dirs.length c')).setCell ⟨wr.heap.size, 1, none⟩ (.slice D' T'.leaves.length d')) O R wr.heap.size (.slice A T.dirs.length c) (.slice D T.leaves.length d) A' c' D' d' T' := by
  have hN := Blk.kept hb (Blk.new wr #[.slice none 0 0, .slice none 0 0] 29)
  have ho := (Only.set w2 wr.heap.size 0 (.slice A' T'.dirs.length c')).trans (Only.set _ wr.heap.size 1 (.slice D' T'.leaves.length d'))
  have hO := h.out.lt
  have hR := h.res.lt
  have hw := h.below.size
  have h1 : Below w.heap.size w w2 := below_then (below_more h.below _) hb
  exact ⟨((Blk.kept hb (h.out.alloc _)).other _ (by omega)).other _ (by omega), ((Blk.kept hb (h.res.alloc _)).other _ (by omega)).other _ (by omega), Blk.set (Blk.set hN 0 _) 1 _,
    (hown.mono (by rw [size1]; omega) (Nat.le_refl _)).kept1 hN ho, hown.cap, hs, below_set (below_set h1 hw _) hw _, h.hO, h.hR, h.hne⟩
end Go.Proofs.Ytaamjnpknmimmab.L4
