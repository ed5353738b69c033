/- What is read out of the texts of slots, as data. -/
import Derived.Test.YtadpjkghfgnbbaaDoorSlTx
import Derived.Test.YtadpjkghfgnbbaaDoorJW
import Derived.Test.YtadpjkghfgnbbaaDoorRead0
namespace Go.Proofs.YtadpjkghfgnbbaaDoor.L8
open Go Go.RowKit Go.Proofs.YtadpjkghfgnbbaaDoor.Mem Go.Proofs.YtadpjkghfgnbbaaDoor.Own Go.Proofs.YtadpjkghfgnbbaaDoor.L1
theorem num_digits (n : Int) (c : UInt8) (hc : c.toNat < 45 ∨ 57 < c.toNat) : c ∉ (NumB n).data.toList := by
  intro hm
  by_cases h : n < 0
  · rw [numB_neg h] at hm
    rcases List.mem_cons.1 hm with rfl | hm
    · revert hc; decide
    · have := dd_digits _ _ hm; omega
  · rw [numB_pos (by omega)] at hm
    have := dd_digits _ _ hm; omega
theorem toList_app (a b : ByteArray) : (a ++ b).data.toList = a.data.toList ++ b.data.toList := by
  rw [ByteArray.data_append, Array.toList_append]
theorem mkS_list (st : Int) : (mkS st).data.toList = [if st = 1 then 112 else if st = 2 then 97 else 98] := by
  unfold mkS
  split
  · rfl
  · split <;> rfl
theorem mkS_not (st : Int) (c : UInt8) (hc : c.toNat < 97) : c ∉ (mkS st).data.toList := by
  rw [mkS_list]
  intro hm
  rw [List.mem_singleton] at hm
  subst hm
  revert hc
  split
  · decide
  · split <;> decide
/-- the text of a slot that holds an interrupt -/
def fo (st i p : Int) : ByteArray := ((mkS st ++ NumB i) ++ col) ++ NumB p
theorem fo_jb (st i p : Int) : fo st i p = JB [mkS st ++ NumB i, NumB p] ⟨#[58]⟩ := by
  have h1 := jb_one [mkS st ++ NumB i, NumB p] ⟨#[58]⟩ (mkS st ++ NumB i) rfl
  have h2 := jb_succ [mkS st ++ NumB i, NumB p] ⟨#[58]⟩ (NumB p) 1 (Nat.le_refl _) rfl
  have h3 : JB [mkS st ++ NumB i, NumB p] ⟨#[58]⟩ = JB ([mkS st ++ NumB i, NumB p].take (1 + 1)) ⟨#[58]⟩ := rfl
  rw [h3, h2, h1]
  rfl
theorem fo_parts (st i p : Int) : Parts (fo st i p) 58 = [mkS st ++ NumB i, NumB p] := by
  rw [fo_jb]
  refine parts_of_jb _ 58 (by simp) (fun y hy => ?_)
  rcases List.mem_cons.1 hy with rfl | hy
  · rw [toList_app, List.mem_append]
    rintro (h | h)
    · exact mkS_not st 58 (by decide) h
    · exact num_digits i 58 (by decide) h
  · rw [List.mem_singleton] at hy
    subst hy
    exact num_digits p 58 (by decide)
theorem fo_inj {st st' i i' p p' : Int} (h0 : st = 1 ∨ st = 2 ∨ st = 3) (h1 : st' = 1 ∨ st' = 2 ∨ st' = 3) (h : fo st i p = fo st' i' p') : st = st' ∧ i = i' ∧ p = p' := by
  have h2 := congrArg (fun b => Parts b 58) h
  simp only [fo_parts, List.cons.injEq, and_true] at h2
  have h3 := congrArg (fun b : ByteArray => b.data.toList) h2.1
  simp only [toList_app, mkS_list, List.cons_append, List.nil_append, List.cons.injEq] at h3
  refine ⟨?_, numB_inj (ByteArray.ext (Array.toList_inj.1 h3.2)), numB_inj h2.2⟩
  have h4 := h3.1
  rcases h0 with rfl | rfl | rfl <;> rcases h1 with rfl | rfl | rfl <;> first | rfl | (exfalso; revert h4; decide)
theorem fo_dash (st i p : Int) : fo st i p ≠ ⟨#[45]⟩ := by
  intro h
  have h3 := congrArg (fun b : ByteArray => b.data.toList.length) h
  have h4 := congrArg (fun b : ByteArray => b.data.toList) h
  unfold fo at h4
  simp only [toList_app, mkS_list, List.cons_append, List.nil_append, List.cons.injEq] at h4
  have h5 := h4.1
  revert h5
  split
  · decide
  · split <;> decide
theorem tx_fo {x : Slt} (h : x.st ≠ 0) : tx x = fo x.st x.iq x.pr := by unfold tx fo; rw [if_neg h]
theorem tx_no32 {x : Slt} : (32 : UInt8) ∉ (tx x).data.toList := by
  by_cases h : x.st = 0
  · unfold tx
    rw [if_pos h]
    decide
  · rw [tx_fo h]
    unfold fo
    simp only [toList_app, List.mem_append]
    rintro (((h | h) | h) | h)
    · exact mkS_not _ 32 (by decide) h
    · exact num_digits _ 32 (by decide) h
    · revert h; decide
    · exact num_digits _ 32 (by decide) h
/-- the parts of the text of slots are the texts of the slots -/
theorem txs_parts {xs : List Slt} (h : xs ≠ []) : Parts (txs xs) 32 = xs.map tx := by
  unfold txs
  refine parts_of_jb _ 32 (by simpa using h) (fun y hy => ?_)
  obtain ⟨x, _, rfl⟩ := List.mem_map.1 hy
  exact tx_no32
/-- the text tells the slot -/
theorem tx_inj {x y : Slt} (hx : Ok x) (hy : Ok y) (h : tx x = tx y) : x = y := by
  have key : ∀ {x : Slt}, Ok x → x.st = 0 → x = nul := by
    intro x hx h0
    unfold Ok at hx
    obtain ⟨a, b, c⟩ := x
    simp only at hx h0
    have hb : b = 0 := by omega
    have hc : c = 0 := by omega
    subst h0 hb hc
    rfl
  by_cases h0 : x.st = 0
  · by_cases h1 : y.st = 0
    · rw [key hx h0, key hy h1]
    · exfalso
      rw [tx_fo h1] at h
      unfold tx at h
      rw [if_pos h0] at h
      exact fo_dash _ _ _ h.symm
  · by_cases h1 : y.st = 0
    · exfalso
      rw [tx_fo h0] at h
      unfold tx at h
      rw [if_pos h1] at h
      exact fo_dash _ _ _ h
    · rw [tx_fo h0, tx_fo h1] at h
      have a := st_ofT hx
      have b := st_ofT hy
      obtain ⟨e1, e2, e3⟩ := fo_inj (by omega) (by omega) h
      obtain ⟨a, b, c⟩ := x
      obtain ⟨a', b', c'⟩ := y
      simp only at e1 e2 e3
      rw [e1, e2, e3]
/-- what ParseSlots answers: the slots whose text it is, or none -/
def PsIs (s : ByteArray) (l : List Slt) (b : Bool) : Prop := (b = true ∧ okB l = true ∧ txs l = s) ∨ (b = false ∧ l = [] ∧ ∀ xs, okB xs = true → txs xs ≠ s)
theorem psIs_ex (s : ByteArray) : ∃ l b, PsIs s l b := by
  by_cases h : ∃ xs, okB xs = true ∧ txs xs = s
  · obtain ⟨xs, h1, h2⟩ := h
    exact ⟨xs, true, .inl ⟨rfl, h1, h2⟩⟩
  · exact ⟨[], false, .inr ⟨rfl, rfl, fun xs h1 h2 => h ⟨xs, h1, h2⟩⟩⟩
theorem txs_inj {xs ys : List Slt} (hx : okB xs = true) (hy : okB ys = true) (h : txs xs = txs ys) : xs = ys := by
  have hl := okB_len hx
  have hm := okB_len hy
  have h1 := txs_parts (xs := xs) (by intro e; rw [e] at hl; simp at hl)
  have h2 := txs_parts (xs := ys) (by intro e; rw [e] at hm; simp at hm)
  rw [h, h2] at h1
  apply List.ext_getElem?
  intro i
  by_cases hi : i < 4
  · have a := at_getD (xs := xs) (j := i) (by omega)
    have b := at_getD (xs := ys) (j := i) (by omega)
    have h3 := congrArg (fun l => l[i]?) h1
    simp only [List.getElem?_map, a, b, Option.map_some, Option.some.injEq] at h3
    rw [a, b, tx_inj (okB_ok hx a) (okB_ok hy b) h3.symm]
  · rw [List.getElem?_eq_none (by omega), List.getElem?_eq_none (by omega)]
end Go.Proofs.YtadpjkghfgnbbaaDoor.L8
