/- Granting frames and taking them back one by one; frames of all guests together. Nothing of the program. -/
import Derived.Test.YtajjmgmjkjnlpaaFr6
import Derived.Test.YtajjmgmjkjnlpaaFr8
namespace Go.Proofs.Ytajjmgmjkjnlpaa.Fra
theorem fr_sorted (zs : List Int) (o : Int) (k : Nat) : (fr zs o k).Pairwise (· < ·) := by
  induction k with
  | zero => simp [fr]
  | succ k ih =>
    rw [fr]
    split
    · rw [List.pairwise_append]
      refine ⟨ih, by simp, fun a ha b hb => ?_⟩
      simp only [List.mem_singleton] at hb
      obtain ⟨j, h1, h2, _⟩ := fr_mem.1 ha
      omega
    · exact ih
theorem put_get {o : Int} : ∀ (fs l : List Int) (j : Nat), (∀ f ∈ fs, 0 ≤ f ∧ f < l.length) → j < l.length → (put l o fs)[j]? = if (j : Int) ∈ fs then some o else l[j]?
  | [], l, j, _, _ => by simp [put]
  | f :: fs, l, j, h, hj => by
    have hf := h f (by simp)
    have ih := put_get (o := o) fs (l.set f.toNat o) j (fun g hg => by rw [List.length_set]; exact h g (by simp [hg])) (by simpa using hj)
    have e : put l o (f :: fs) = put (l.set f.toNat o) o fs := rfl
    rw [e, ih]
    by_cases h1 : (j : Int) ∈ fs
    · rw [if_pos h1, if_pos (by simp [h1])]
    · rw [if_neg h1]
      by_cases h2 : (j : Int) = f
      · subst h2
        rw [if_pos (by simp), Int.toNat_natCast, List.getElem?_set_self (by omega)]
      · rw [if_neg (by simp [h1, h2]), List.getElem?_set_ne (by omega)]
/-- the owners with the first i of the granted frames taken back -/
def Back (L : List Int) (o : Int) (fs : List Int) (i : Nat) : List Int := put (put L o fs) 0 (fs.take i)
theorem back_len (L : List Int) (o : Int) (fs : List Int) (i : Nat) : (Back L o fs i).length = L.length := by unfold Back; rw [put_len, put_len]
theorem back_get {L : List Int} {o : Int} {fs : List Int} {i j : Nat} (h : ∀ f ∈ fs, 0 ≤ f ∧ f < L.length) (hj : j < L.length) : (Back L o fs i)[j]? = if (j : Int) ∈ fs.take i then some 0 else if (j : Int) ∈ fs then some o else L[j]? := by
  unfold Back
  rw [put_get _ _ _ (fun f hf => by rw [put_len]; exact h f (List.mem_of_mem_take hf)) (by rw [put_len]; exact hj), put_get fs L j h hj]
theorem back_zero (L : List Int) (o : Int) (fs : List Int) : Back L o fs 0 = put L o fs := by simp [Back, put]
theorem back_succ {L : List Int} {o : Int} {fs : List Int} {i : Nat} {f : Int} (hf : fs[i]? = some f) : Back L o fs (i + 1) = (Back L o fs i).set f.toNat 0 := put_snoc _ _ _ _ _ hf
theorem back_good {L : List Int} {o : Int} {fs : List Int} (i : Nat) (hg : GoodOw L) (ho : 1 ≤ o ∧ o ≤ 4) (h : ∀ f ∈ fs, 0 ≤ f ∧ f < L.length) : GoodOw (Back L o fs i) := by
  refine ⟨fun z hz => ?_, by rw [back_len]; exact hg.2.1, by rw [back_len]; exact hg.2.2⟩
  obtain ⟨j, hj, rfl⟩ := List.getElem_of_mem hz
  have hj' : j < L.length := by rw [back_len] at hj; exact hj
  have e := back_get (o := o) (fs := fs) (i := i) h hj'
  rw [List.getElem?_eq_getElem hj] at e
  split at e
  · have := Option.some.inj e; omega
  · split at e
    · have := Option.some.inj e; omega
    · rw [List.getElem?_eq_getElem hj'] at e
      have := Option.some.inj e
      rw [this]
      exact hg.1 _ (List.getElem_mem _)
theorem back_at {L : List Int} {o : Int} {n m i : Nat} {f : Int} (hn : L.length = n) (hf : ((fr L 0 n).take m)[i]? = some f) : ∃ j : Nat, f = j ∧ j < n ∧ L[j]? = some 0 ∧ (Back L o ((fr L 0 n).take m) i)[j]? = some o := by
  have hm := List.mem_of_getElem? hf
  obtain ⟨j, h1, h2, h3⟩ := fr_mem.1 (List.mem_of_mem_take hm)
  refine ⟨j, h2, h1, h3, ?_⟩
  have hb : ∀ f ∈ (fr L 0 n).take m, 0 ≤ f ∧ f < L.length := fun g hg => by have := fr_bd g (List.mem_of_mem_take hg); omega
  rw [back_get hb (by omega), if_neg, if_pos (by rw [← h2]; exact hm)]
  intro hin
  have hp := (fr_sorted L 0 n).sublist (List.take_sublist m _)
  obtain ⟨a, ha, hae⟩ := List.getElem_of_mem hin
  rw [List.getElem_take] at hae
  have hil := (List.getElem?_eq_some_iff.1 hf).1
  have hie := (List.getElem?_eq_some_iff.1 hf).2
  have ha2 : a < i := by rw [List.length_take] at ha; omega
  have := (List.pairwise_iff_getElem.1 hp) a i (by omega) hil ha2
  rw [hae, hie, h2] at this
  omega
theorem back_end {L : List Int} {o : Int} {n m : Nat} (hn : L.length = n) (hm : m ≤ (fr L 0 n).length) : Back L o ((fr L 0 n).take m) m = L := by
  have hb : ∀ f ∈ (fr L 0 n).take m, 0 ≤ f ∧ f < L.length := fun g hg => by have := fr_bd g (List.mem_of_mem_take hg); omega
  apply List.ext_getElem?
  intro j
  rcases Nat.lt_or_ge j L.length with hj | hj
  · rw [back_get hb hj, List.take_of_length_le (l := (fr L 0 n).take m) (by rw [List.length_take]; omega)]
    by_cases h : (j : Int) ∈ (fr L 0 n).take m
    · rw [if_pos h]
      obtain ⟨j', h1, h2, h3⟩ := fr_mem.1 (List.mem_of_mem_take h)
      obtain rfl : j = j' := by omega
      exact h3.symm
    · rw [if_neg h, if_neg h]
  · rw [List.getElem?_eq_none (by rw [back_len]; exact hj), List.getElem?_eq_none hj]
theorem frames_count (zs : List Int) (o : Int) (k : Nat) : (fr zs o k).length = (zs.take k).count o := by
  induction k with
  | zero => simp [fr]
  | succ k ih =>
    rw [fr, List.take_add_one, List.count_append]
    by_cases hz : zs[k]? = some o
    · rw [if_pos hz, List.length_append, ih, hz]
      simp
    · rw [if_neg hz, ih]
      cases hk : zs[k]? with
      | none => simp
      | some z =>
        have : z ≠ o := fun e => hz (by rw [hk, e])
        simp [this]
/-- how often the first k numbers occur -/
def upto (L : List Int) : Nat → Nat
  | 0 => 0
  | k + 1 => upto L k + L.count (k : Int)
theorem upto_all {L : List Int} (h : ∀ z ∈ L, 0 ≤ z ∧ z ≤ 4) : upto L 5 = L.length := by
  induction L with
  | nil => simp [upto]
  | cons z t ih =>
    have ht := ih (fun x hx => h x (by simp [hx]))
    have hz := h z (by simp)
    simp only [upto, List.count_cons, List.length_cons] at ht ⊢
    rcases (show z = 0 ∨ z = 1 ∨ z = 2 ∨ z = 3 ∨ z = 4 by omega) with rfl | rfl | rfl | rfl | rfl <;> simp at ht ⊢ <;> omega
end Go.Proofs.Ytajjmgmjkjnlpaa.Fra
