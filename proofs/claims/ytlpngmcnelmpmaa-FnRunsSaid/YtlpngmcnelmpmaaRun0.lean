/- Runs of zeros in a list of numbers: lengths, the longest one, lists of runs. Nothing of the program. -/
import Derived.Test.YtlpngmcnelmpmaaFr6
namespace Go.Proofs.Ytlpngmcnelmpmaa.Fra
open Go.RowKit Go.Proofs.Ytlpngmcnelmpmaa.Mem Go.Proofs.Ytlpngmcnelmpmaa.Own Go.Proofs.Ytlpngmcnelmpmaa.L1
/-- zeros at the head -/
def lead : List Int → Nat
  | [] => 0
  | z :: t => if z = 0 then lead t + 1 else 0
/-- zeros from a place on -/
def zrun (zs : List Int) (f : Nat) : Nat := lead (zs.drop f)
theorem zrun_hit {zs : List Int} {f : Nat} (h : zs[f]? = some 0) : zrun zs f = zrun zs (f + 1) + 1 := by
  have hf := (List.getElem?_eq_some_iff.1 h).1
  have he := (List.getElem?_eq_some_iff.1 h).2
  unfold zrun
  rw [List.drop_eq_getElem_cons hf, he, lead, if_pos rfl]
theorem zrun_miss {zs : List Int} {f : Nat} (h : zs[f]? ≠ some 0) : zrun zs f = 0 := by
  unfold zrun
  by_cases hf : f < zs.length
  · rw [List.drop_eq_getElem_cons hf, lead, if_neg]
    intro e
    exact h (by rw [List.getElem?_eq_getElem hf, e])
  · rw [List.drop_eq_nil_of_le (by omega)]; rfl
theorem zrun_le (zs : List Int) (f : Nat) (h : f ≤ zs.length) : f + zrun zs f ≤ zs.length := by
  obtain ⟨d, hd⟩ : ∃ d, zs.length - f = d := ⟨_, rfl⟩
  induction d generalizing f with
  | zero =>
    rw [zrun_miss]
    · omega
    · rw [List.getElem?_eq_none (by omega)]; simp
  | succ d ih =>
    by_cases hz : zs[f]? = some 0
    · rw [zrun_hit hz]
      have := ih (f + 1) (by omega) (by omega)
      omega
    · rw [zrun_miss hz]; omega
/-- a run that ends where no zero is -/
theorem zrun_of {zs : List Int} {f l : Nat} (h : ∀ i, f ≤ i → i < f + l → zs[i]? = some 0) (he : zs[f + l]? ≠ some 0) : zrun zs f = l := by
  induction l generalizing f with
  | zero => exact zrun_miss (by simpa using he)
  | succ l ih =>
    rw [zrun_hit (h f (Nat.le_refl _) (by omega)), ih (fun i h1 h2 => h i (by omega) (by omega)) (by rwa [show f + 1 + l = f + (l + 1) from by omega])]
theorem zrun_zero {zs : List Int} {f i : Nat} (h1 : f ≤ i) (h2 : i < f + zrun zs f) : zs[i]? = some 0 := by
  obtain ⟨d, rfl⟩ : ∃ d, i = f + d := ⟨i - f, by omega⟩
  clear h1
  induction d generalizing f with
  | zero =>
    by_cases hz : zs[f]? = some 0
    · simpa using hz
    · rw [zrun_miss hz] at h2; omega
  | succ d ih =>
    by_cases hz : zs[f]? = some 0
    · rw [zrun_hit hz] at h2
      have := ih (f := f + 1) (by omega)
      rwa [show f + 1 + d = f + (d + 1) from by omega] at this
    · rw [zrun_miss hz] at h2; omega
/-- the longest run among those that begin before k -/
def LM (zs : List Int) (k b m : Nat) : Prop :=
  (m = 0 ∧ b = 0 ∧ ∀ f, f < k → zrun zs f = 0) ∨ (b < k ∧ zrun zs b = m ∧ 0 < m ∧ (∀ f, f < k → zrun zs f ≤ m) ∧ ∀ f, f < b → zrun zs f < m)
theorem LM_zero (zs : List Int) : LM zs 0 0 0 := .inl ⟨rfl, rfl, fun f h => by omega⟩
theorem LM_more {zs : List Int} {k b m : Nat} (h : LM zs k b m) (hm : m < zrun zs k) : LM zs (k + 1) k (zrun zs k) := by
  right
  refine ⟨by omega, rfl, by omega, fun f hf => ?_, fun f hf => ?_⟩
  · rcases Nat.lt_or_ge f k with h1 | h1
    · rcases h with ⟨_, _, h2⟩ | ⟨_, _, _, h2, _⟩ <;> have := h2 f h1 <;> omega
    · rw [show f = k from by omega]; exact Nat.le_refl _
  · rcases h with ⟨_, _, h2⟩ | ⟨_, _, _, h2, _⟩ <;> have := h2 f hf <;> omega
theorem LM_less {zs : List Int} {k b m : Nat} (h : LM zs k b m) (hm : zrun zs k ≤ m) : LM zs (k + 1) b m := by
  rcases h with ⟨rfl, rfl, h⟩ | ⟨h1, h2, h3, h4, h5⟩
  · refine .inl ⟨rfl, rfl, fun f hf => ?_⟩
    rcases Nat.lt_or_ge f k with h1 | h1
    · exact h f h1
    · rw [show f = k from by omega]; omega
  · refine .inr ⟨by omega, h2, h3, fun f hf => ?_, h5⟩
    rcases Nat.lt_or_ge f k with h6 | h6
    · exact h4 f h6
    · rw [show f = k from by omega]; exact hm
theorem LM_ex (zs : List Int) (k : Nat) : ∃ b m, LM zs k b m := by
  induction k with
  | zero => exact ⟨_, _, LM_zero zs⟩
  | succ k ih =>
    obtain ⟨b, m, h⟩ := ih
    by_cases hm : m < zrun zs k
    · exact ⟨_, _, LM_more h hm⟩
    · exact ⟨_, _, LM_less h (by omega)⟩
theorem LM_unique {zs : List Int} {k b m b' m' : Nat} (h : LM zs k b m) (h' : LM zs k b' m') : b = b' ∧ m = m' := by
  rcases h with ⟨rfl, rfl, h⟩ | ⟨h1, h2, h3, h4, h5⟩ <;> rcases h' with ⟨rfl, rfl, h'⟩ | ⟨h1', h2', h3', h4', h5'⟩
  · exact ⟨rfl, rfl⟩
  · have := h b' h1'; omega
  · have := h' b h1; omega
  · have e1 := h4 b' h1'
    have e2 := h4' b h1
    have em : m = m' := by omega
    refine ⟨?_, em⟩
    rcases Nat.lt_trichotomy b b' with hb | hb | hb
    · have := h5' b hb; omega
    · exact hb
    · have := h5 b' hb; omega
/-- a list of the runs (begin, length) among the first k places -/
structure RI (zs : List Int) (k : Nat) (R : List (Nat × Nat)) : Prop where
  each : ∀ p ∈ R, 1 ≤ p.2 ∧ p.1 + p.2 ≤ k ∧ (∀ i, p.1 ≤ i → i < p.1 + p.2 → zs[i]? = some 0) ∧ (p.1 + p.2 < k → zs[p.1 + p.2]? ≠ some 0)
  all : ∀ f, f < k → zs[f]? = some 0 → ∃ p ∈ R, p.1 ≤ f ∧ f < p.1 + p.2
  sorted : R.Pairwise fun a b => a.1 + a.2 < b.1
theorem RI_zero (zs : List Int) : RI zs 0 [] := ⟨fun p h => (by cases h), fun f h => by omega, List.Pairwise.nil⟩
theorem RI_gap {zs : List Int} {k k' : Nat} {R : List (Nat × Nat)} (h : RI zs k R) (hk : k ≤ k') (hg : ∀ j, k ≤ j → j < k' → zs[j]? ≠ some 0) : RI zs k' R := by
  refine ⟨fun p hp => ?_, fun f hf hz => ?_, h.sorted⟩
  · obtain ⟨h1, h2, h3, h4⟩ := h.each p hp
    refine ⟨h1, by omega, h3, fun hlt => ?_⟩
    rcases Nat.lt_or_ge (p.1 + p.2) k with h5 | h5
    · exact h4 h5
    · exact hg _ h5 hlt
  · rcases Nat.lt_or_ge f k with h5 | h5
    · exact h.all f h5 hz
    · exact absurd hz (hg f h5 hf)
/-- the run that reaches k is the last one -/
theorem RI_last {zs : List Int} {k : Nat} {R : List (Nat × Nat)} (h : RI zs k R) (hk : 0 < k) (hz : zs[k - 1]? = some 0) : ∃ R0 s l, R = R0 ++ [(s, l)] ∧ s + l = k ∧ 1 ≤ l := by
  obtain ⟨p, hp, h1, h2⟩ := h.all (k - 1) (by omega) hz
  obtain ⟨e1, e2, _, _⟩ := h.each p hp
  have hs : p.1 + p.2 = k := by omega
  obtain ⟨a, b, rfl⟩ := List.append_of_mem hp
  cases b with
  | nil => exact ⟨a, p.1, p.2, rfl, hs, e1⟩
  | cons q t =>
    have hso := h.sorted
    rw [List.pairwise_append] at hso
    have := (List.pairwise_cons.1 hso.2.1).1 q (by simp)
    obtain ⟨q1, q2, _, _⟩ := h.each q (by simp)
    omega
theorem RI_bump {zs : List Int} {f s l : Nat} {R0 : List (Nat × Nat)} (h : RI zs f (R0 ++ [(s, l)])) (hs : s + l = f) (hz : zs[f]? = some 0) : RI zs (f + 1) (R0 ++ [(s, l + 1)]) := by
  have hl := h.each (s, l) (by simp)
  simp only at hl
  refine ⟨fun p hp => ?_, fun g hg hz' => ?_, ?_⟩
  · rcases List.mem_append.1 hp with h1 | h1
    · obtain ⟨e1, e2, e3, e4⟩ := h.each p (by simp [h1])
      have hso := h.sorted
      rw [List.pairwise_append] at hso
      have := hso.2.2 p h1 (s, l) (by simp)
      simp only at this
      exact ⟨e1, by omega, e3, fun _ => e4 (by omega)⟩
    · simp only [List.mem_singleton] at h1
      subst h1
      refine ⟨by simp, by simp only; omega, fun i h2 h3 => ?_, fun h2 => by simp only at h2; omega⟩
      simp only at h2 h3
      rcases Nat.lt_or_ge i (s + l) with h4 | h4
      · exact hl.2.2.1 i h2 h4
      · rw [show i = f from by omega]; exact hz
  · rcases Nat.lt_or_ge g f with h1 | h1
    · obtain ⟨p, hp, h2, h3⟩ := h.all g h1 hz'
      rcases List.mem_append.1 hp with h4 | h4
      · exact ⟨p, by simp [h4], h2, h3⟩
      · simp only [List.mem_singleton] at h4
        subst h4
        simp only at h2 h3
        exact ⟨(s, l + 1), by simp, h2, by simp only; omega⟩
    · exact ⟨(s, l + 1), by simp, by simp only; omega, by simp only; omega⟩
  · have hso := h.sorted
    rw [List.pairwise_append] at hso ⊢
    refine ⟨hso.1, by simp, fun a ha b hb => ?_⟩
    simp only [List.mem_singleton] at hb
    subst hb
    exact hso.2.2 a ha (s, l) (by simp)
theorem RI_new {zs : List Int} {f : Nat} {R : List (Nat × Nat)} (h : RI zs f R) (hz : zs[f]? = some 0) (hp : f = 0 ∨ zs[f - 1]? ≠ some 0) : RI zs (f + 1) (R ++ [(f, 1)]) := by
  have hlt : ∀ p ∈ R, p.1 + p.2 < f := by
    intro p hpR
    obtain ⟨e1, e2, e3, _⟩ := h.each p hpR
    rcases Nat.lt_or_ge (p.1 + p.2) f with h1 | h1
    · exact h1
    · rcases hp with h2 | h2
      · omega
      · exact absurd (e3 (f - 1) (by omega) (by omega)) h2
  refine ⟨fun p hpR => ?_, fun g hg hz' => ?_, ?_⟩
  · rcases List.mem_append.1 hpR with h1 | h1
    · obtain ⟨e1, e2, e3, e4⟩ := h.each p h1
      exact ⟨e1, by omega, e3, fun _ => e4 (hlt p h1)⟩
    · simp only [List.mem_singleton] at h1
      subst h1
      refine ⟨by simp, by simp, fun i h2 h3 => ?_, fun h2 => by simp at h2⟩
      simp only at h2 h3
      rw [show i = f from by omega]; exact hz
  · rcases Nat.lt_or_ge g f with h1 | h1
    · obtain ⟨p, hp1, h2, h3⟩ := h.all g h1 hz'
      exact ⟨p, by simp [hp1], h2, h3⟩
    · exact ⟨(f, 1), by simp, by simp only; omega, by simp only; omega⟩
  · rw [List.pairwise_append]
    refine ⟨h.sorted, by simp, fun a ha b hb => ?_⟩
    simp only [List.mem_singleton] at hb
    subst hb
    exact hlt a ha
/-- a run of the whole list is as long as told, from each of its places on -/
theorem RI_zrun {zs : List Int} {R : List (Nat × Nat)} (h : RI zs zs.length R) {p : Nat × Nat} (hp : p ∈ R) : zrun zs p.1 = p.2 ∧ ∀ f, p.1 ≤ f → f < p.1 + p.2 → zrun zs f = p.1 + p.2 - f := by
  obtain ⟨e1, e2, e3, e4⟩ := h.each p hp
  have he : zs[p.1 + p.2]? ≠ some 0 := by
    rcases Nat.lt_or_ge (p.1 + p.2) zs.length with h1 | h1
    · exact e4 h1
    · rw [List.getElem?_eq_none h1]; simp
  refine ⟨zrun_of e3 he, fun f h1 h2 => zrun_of (fun i h3 h4 => e3 i (by omega) (by omega)) ?_⟩
  rwa [show f + (p.1 + p.2 - f) = p.1 + p.2 from by omega]
theorem RI_cover {zs : List Int} {R : List (Nat × Nat)} (h : RI zs zs.length R) {f : Nat} (hf : 0 < zrun zs f) : f < zs.length ∧ ∃ p ∈ R, p.1 ≤ f ∧ f < p.1 + p.2 := by
  have hz : zs[f]? = some 0 := zrun_zero (Nat.le_refl _) (by omega)
  have hl := (List.getElem?_eq_some_iff.1 hz).1
  exact ⟨hl, h.all f hl hz⟩
/-- the first run of at least c in a list of runs -/
theorem RI_first {zs : List Int} {R : List (Nat × Nat)} (h : RI zs zs.length R) {q : Nat} {p : Nat × Nat} {c : Nat} (hp : R[q]? = some p) (hc : c ≤ p.2) (hc0 : 0 < c) (hq : ∀ r ∈ R.take q, r.2 < c) : ∀ f, f < p.1 → zrun zs f < c := by
  intro f hf
  rcases Nat.lt_or_ge (zrun zs f) c with h1 | h1
  · exact h1
  · exfalso
    obtain ⟨_, r, hr, h2, h3⟩ := RI_cover h (f := f) (by omega)
    have h4 := (RI_zrun h hr).2 f h2 h3
    obtain ⟨i, hi, rfl⟩ := List.getElem_of_mem hr
    have hql := (List.getElem?_eq_some_iff.1 hp).1
    have hqe := (List.getElem?_eq_some_iff.1 hp).2
    rcases Nat.lt_or_ge i q with h5 | h5
    · have := hq R[i] (by rw [List.mem_take_iff_getElem]; exact ⟨i, by omega, rfl⟩)
      omega
    · rcases Nat.lt_or_ge q i with h6 | h6
      · have := (List.pairwise_iff_getElem.1 h.sorted) q i hql hi h6
        rw [hqe] at this
        have := (h.each p (List.mem_of_getElem? hp)).1
        omega
      · have : i = q := by omega
        subst this
        rw [hqe] at h2
        omega
theorem RI_none {zs : List Int} {R : List (Nat × Nat)} (h : RI zs zs.length R) {c : Nat} (hc0 : 0 < c) (hq : ∀ r ∈ R, r.2 < c) : ∀ f, zrun zs f < c := by
  intro f
  rcases Nat.lt_or_ge (zrun zs f) c with h1 | h1
  · exact h1
  · obtain ⟨_, r, hr, h2, h3⟩ := RI_cover h (f := f) (by omega)
    have h4 := (RI_zrun h hr).2 f h2 h3
    have := hq r hr
    omega
end Go.Proofs.Ytlpngmcnelmpmaa.Fra
