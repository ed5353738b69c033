/- Compacting by moves: the moves one by one, and what they keep. Nothing of the program. -/
import Derived.Test.YtlpngmcnelmpmaaComp0
import Derived.Test.YtlpngmcnelmpmaaRun3
namespace Go.Proofs.Ytlpngmcnelmpmaa.Fra
theorem comp_step (L : List Int) (k : Nat) : comp L (k + 1) = (if nz (comp L k).2 + 1 < ln (comp L k).2 then ((comp L k).1 ++ [((ln (comp L k).2 - 1 : Nat) : Int), (nz (comp L k).2 : Int)], moved (comp L k).2) else comp L k) := by
  rw [comp]
theorem comp_len_le (L : List Int) (k : Nat) : (comp L k).1.length ≤ 2 * k := by
  induction k with
  | zero => simp [comp]
  | succ k ih =>
    rw [comp_step]
    split
    · simp; omega
    · omega
theorem comp_len_add (L : List Int) (i d : Nat) : (comp L (i + d)).1.length ≤ (comp L i).1.length + 2 * d := by
  induction d with
  | zero => simp
  | succ d ih =>
    rw [show i + (d + 1) = (i + d) + 1 from by omega, comp_step]
    split
    · simp; omega
    · omega
theorem comp_prefix (L : List Int) (i d : Nat) : (comp L i).1 <+: (comp L (i + d)).1 := by
  induction d with
  | zero => exact List.prefix_refl _
  | succ d ih =>
    refine ih.trans ?_
    rw [show i + (d + 1) = (i + d) + 1 from by omega, comp_step]
    split
    · exact List.prefix_append _ _
    · exact List.prefix_refl _
theorem comp_seq {L ps M : List Int} {q : Nat} (h : CompIs L ps M) (hq : ps.length = 2 * q) : comp L q = (ps, M) ∧ ∀ i, i < q → nz (comp L i).2 + 1 < ln (comp L i).2 ∧ ps[i * 2]? = some ((ln (comp L i).2 - 1 : Nat) : Int) ∧ ps[i * 2 + 1]? = some (nz (comp L i).2 : Int) := by
  obtain ⟨k, hk, hs⟩ := h
  have hkq : q ≤ k := by have := comp_len_le L k; rw [hk] at this; simp only at this; omega
  have hgo : ∀ i, i < q → nz (comp L i).2 + 1 < ln (comp L i).2 := by
    intro i hi
    by_cases hm : nz (comp L i).2 + 1 < ln (comp L i).2
    · exact hm
    · exfalso
      have := comp_stay (L := L) (k := i) (ps := (comp L i).1) (M := (comp L i).2) rfl hm (k - i)
      rw [show i + (k - i) = k from by omega, hk] at this
      have h2 := congrArg (fun x => x.1.length) this
      simp only at h2
      have := comp_len_le L i
      omega
  have hlen : ∀ i, i ≤ q → (comp L i).1.length = 2 * i := by
    intro i hi
    induction i with
    | zero => simp [comp]
    | succ i ih =>
      rw [comp_step, if_pos (hgo i (by omega))]
      simp only [List.length_append, List.length_cons, List.length_nil]
      rw [ih (by omega)]
      omega
  have hfin : comp L q = (ps, M) := by
    by_cases hm : nz (comp L q).2 + 1 < ln (comp L q).2
    · exfalso
      rcases Nat.lt_or_ge q k with h1 | h1
      · have e : (comp L (q + 1)).1.length = 2 * q + 2 := by
          rw [comp_step, if_pos hm]
          simp only [List.length_append, List.length_cons, List.length_nil]
          rw [hlen q (Nat.le_refl _)]
        have := (comp_prefix L (q + 1) (k - (q + 1))).length_le
        rw [show q + 1 + (k - (q + 1)) = k from by omega, hk, e] at this
        simp only at this
        omega
      · obtain rfl : q = k := by omega
        rw [hk] at hm
        exact hs hm
    · have := comp_stay (L := L) (k := q) (ps := (comp L q).1) (M := (comp L q).2) rfl hm (k - q)
      rw [show q + (k - q) = k from by omega, hk] at this
      exact this.symm
  refine ⟨hfin, fun i hi => ⟨hgo i hi, ?_⟩⟩
  have hp := comp_prefix L (i + 1) (q - (i + 1))
  rw [show i + 1 + (q - (i + 1)) = q from by omega, hfin] at hp
  obtain ⟨t, ht⟩ := hp
  rw [comp_step, if_pos (hgo i hi)] at ht
  simp only at ht
  have hl := hlen i (by omega)
  rw [← ht]
  constructor
  · rw [List.append_assoc, List.getElem?_append_right (by omega), show i * 2 - (comp L i).1.length = 0 from by omega]
    rfl
  · rw [List.append_assoc, List.getElem?_append_right (by omega), show i * 2 + 1 - (comp L i).1.length = 1 from by omega]
    rfl
theorem moved_perm {M : List Int} (h : nz M + 1 < ln M) : (moved M).Perm M := by
  obtain ⟨f, hf⟩ : ∃ f, ln M = f + 1 := ⟨ln M - 1, by omega⟩
  obtain ⟨hf1, _⟩ := ln_last hf
  have ht := nz_zero (L := M) (by omega)
  have h1 : nz M < M.length := by omega
  have h0 : M[nz M] = 0 := by rw [List.getElem?_eq_getElem h1] at ht; exact Option.some.inj ht
  have := List.set_set_perm h1 hf1
  unfold moved
  rw [hf, Nat.add_sub_cancel, List.getD_eq_getElem?_getD, List.getElem?_eq_getElem hf1]
  rw [h0] at this
  exact this
theorem comp_perm (L : List Int) (k : Nat) : (comp L k).2.Perm L := by
  induction k with
  | zero => exact List.Perm.refl _
  | succ k ih =>
    rw [comp_step]
    split
    · rename_i h
      exact (moved_perm h).trans ih
    · exact ih
theorem fr_count (zs : List Int) (o : Int) (k : Nat) : (fr zs o k).length = (zs.take k).count o := by
  induction k with
  | zero => simp [fr]
  | succ k ih =>
    rw [fr, List.take_add_one, List.count_append]
    by_cases hz : zs[k]? = some o
    · rw [if_pos hz, List.length_append, ih, hz]
      simp
    · rw [if_neg hz, ih]
      cases hk : zs[k]? with
      | none => simp
      | some z =>
        have : z ≠ o := fun e => hz (by rw [hk, e])
        simp [this]
theorem fr_perm {zs M : List Int} (h : M.Perm zs) (o : Int) : (fr M o M.length).length = (fr zs o zs.length).length := by
  rw [fr_count, fr_count, List.take_length, List.take_length]
  exact h.count_eq o
theorem good_perm {zs M : List Int} (h : M.Perm zs) (hg : GoodOw zs) : GoodOw M :=
  ⟨fun z hz => hg.1 z (h.mem_iff.1 hz), by rw [h.length_eq]; exact hg.2.1, by rw [h.length_eq]; exact hg.2.2⟩
theorem packed_sorted {M : List Int} (h : ¬ nz M + 1 < ln M) {i : Nat} (hi : i + 1 < M.length) (h1 : M[i + 1]? ≠ some 0) : M[i]? ≠ some 0 := by
  intro h0
  have e1 : nz M ≤ i := by
    rcases Nat.lt_or_ge i (nz M) with hlt | hge
    · exact absurd h0 (nz_before hlt)
    · exact hge
  have e2 : i + 2 ≤ ln M := by
    rcases Nat.lt_or_ge (i + 1) (ln M) with hlt | hge
    · omega
    · exact absurd (ln_after hge hi) h1
  omega
/-- the longest run is granted, and no longer one -/
theorem run_longest {L xs : List Int} {b m s : Nat} {ok : Bool} (hl : LongIs L b m true) (h : RunIs L 1 m xs s ok) : s = b ∧ ok = true := by
  rcases hl with ⟨hg, h0, hm, _⟩ | ⟨_, _, _, e⟩
  · rcases hm with ⟨e, _⟩ | ⟨h1, h2, h3, h4, h5⟩
    · omega
    · rcases h with ⟨m', e, _, _, _, _, e1, e2, _, e4⟩ | ⟨e, _⟩
      · obtain rfl : m = m' := by omega
        refine ⟨?_, e4⟩
        rcases Nat.lt_trichotomy s b with hs | hs | hs
        · have := h5 s hs; omega
        · exact hs
        · have := e2 b hs; omega
      · have := e hg (by omega) (by omega) (by omega) b
        omega
  · cases e
theorem run_longer {L xs : List Int} {b m s : Nat} {ok : Bool} {k : Int} (hk : k = (m : Int) + 1) (hl : LongIs L b m true) (h : RunIs L 1 k xs s ok) : ok = false := by
  rcases hl with ⟨hg, h0, hm, _⟩ | ⟨_, _, _, e⟩
  · rcases hm with ⟨e, _⟩ | ⟨h1, h2, h3, h4, h5⟩
    · omega
    · rcases h with ⟨m', e, _, _, _, _, e1, e2, _, e4⟩ | ⟨_, _, _, e⟩
      · exfalso
        rcases Nat.lt_or_ge s L.length with hs | hs
        · have := h4 s hs; omega
        · have := zrun_miss (zs := L) (f := s) (by rw [List.getElem?_eq_none hs]; simp)
          omega
      · exact e
  · cases e
end Go.Proofs.Ytlpngmcnelmpmaa.Fra
