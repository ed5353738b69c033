/- The decimal numerals of small numbers and their reading: plain lemmas on lists of bytes. -/
import Derived.Test.YtadpjkghfgnbbaaDoorNum
import Derived.Lib.AtoiAll
namespace Go.Proofs.YtadpjkghfgnbbaaDoor.L1
open Go.RowKit
def dval (a : Nat) (l : List UInt8) : Nat := l.foldl (fun a c => 10 * a + (c.toNat - 48)) a
theorem ofNat_toNat (k : Nat) (h : k < 256) : (UInt8.ofNat k).toNat = k := by simp [UInt8.toNat_ofNat']; omega
theorem dd_rec (u : Nat) : Lib.decDigits u = if u < 10 then [UInt8.ofNat (48 + u)] else Lib.decDigits (u / 10) ++ [UInt8.ofNat (48 + u % 10)] := by
  rw [Lib.decDigits]; split <;> rfl
theorem dd_digits (u : Nat) : ∀ c ∈ Lib.decDigits u, 48 ≤ c.toNat ∧ c.toNat ≤ 57 := by
  induction u using Nat.strongRecOn with
  | _ u ih =>
    intro c hc
    rw [dd_rec] at hc
    split at hc
    · simp only [List.mem_singleton] at hc
      rw [hc, ofNat_toNat _ (by omega)]; omega
    · rw [List.mem_append] at hc
      rcases hc with hc | hc
      · exact ih (u / 10) (by omega) c hc
      · simp only [List.mem_singleton] at hc
        rw [hc, ofNat_toNat _ (by omega)]; omega
theorem dd_ne (u : Nat) : Lib.decDigits u ≠ [] := by
  rw [dd_rec]; split <;> simp
theorem dd_len (u : Nat) (h : u ≤ 999999) : 1 ≤ (Lib.decDigits u).length ∧ (Lib.decDigits u).length ≤ 6 := by
  rw [Lib.decDigits_length]
  refine ⟨Lib.nDigits_pos u, ?_⟩
  by_cases h0 : u < 10
  · rw [Lib.nDigits_small h0]; omega
  by_cases h1 : u < 100
  · rw [Lib.nDigits_unique 1 u (by omega) (by omega)]; omega
  by_cases h2 : u < 1000
  · rw [Lib.nDigits_unique 2 u (by omega) (by omega)]; omega
  by_cases h3 : u < 10000
  · rw [Lib.nDigits_unique 3 u (by omega) (by omega)]; omega
  by_cases h4 : u < 100000
  · rw [Lib.nDigits_unique 4 u (by omega) (by omega)]; omega
  · rw [Lib.nDigits_unique 5 u (by omega) (by omega)]; omega
theorem dval_snoc (a : Nat) (l : List UInt8) (c : UInt8) : dval a (l ++ [c]) = 10 * dval a l + (c.toNat - 48) := by simp [dval]
theorem dval_dd (u : Nat) : dval 0 (Lib.decDigits u) = u := by
  induction u using Nat.strongRecOn with
  | _ u ih =>
    rw [dd_rec]
    split
    · simp [dval]; omega
    · rw [dval_snoc, ih (u / 10) (by omega), ofNat_toNat _ (by omega)]; omega
theorem dval_lt : ∀ (l : List UInt8), (∀ c ∈ l, 48 ≤ c.toNat ∧ c.toNat ≤ 57) → dval 0 l < 10 ^ l.length := by
  intro l
  rcases List.eq_nil_or_concat l with rfl | ⟨l', c, rfl⟩
  · intro _; simp [dval]
  · intro h
    rw [List.concat_eq_append] at h ⊢
    have h1 := dval_lt l' (fun x hx => h x (by simp [hx]))
    have h2 := h c (by simp)
    rw [dval_snoc, List.length_append, List.length_singleton, Nat.pow_succ]
    omega
termination_by l => l.length
decreasing_by all_goals simp_all
theorem numB_pos {n : Int} (h : 0 ≤ n) : (NumB n).data.toList = Lib.decDigits n.natAbs := by
  simp only [NumB, Lib.itoa]
  rw [if_neg (by omega), show n.toNat = n.natAbs from by omega]
theorem numB_neg {n : Int} (h : n < 0) : (NumB n).data.toList = 45 :: Lib.decDigits n.natAbs := by
  simp only [NumB, Lib.itoa]
  rw [if_pos h]
theorem dd_head (u : Nat) (l : List UInt8) : Lib.decDigits u ≠ 45 :: l := by
  intro h
  have := dd_digits u 45 (by rw [h]; simp)
  simp at this
theorem numB_inj {a b : Int} (h : NumB a = NumB b) : a = b := by
  have h' : (NumB a).data.toList = (NumB b).data.toList := by rw [h]
  by_cases ha : a < 0 <;> by_cases hb : b < 0
  · rw [numB_neg ha, numB_neg hb] at h'
    have := congrArg (dval 0) (List.cons.inj h').2
    rw [dval_dd, dval_dd] at this; omega
  · rw [numB_neg ha, numB_pos (by omega)] at h'
    exact absurd h'.symm (dd_head _ _)
  · rw [numB_pos (by omega), numB_neg hb] at h'
    exact absurd h' (dd_head _ _)
  · rw [numB_pos (by omega), numB_pos (by omega)] at h'
    have := congrArg (dval 0) h'
    rw [dval_dd, dval_dd] at this; omega
/-- a text reads as r (b: it does), or as no number -/
def ReadIs (s : ByteArray) (r : Int) (b : Bool) : Prop :=
  (b = true ∧ -999999 ≤ r ∧ r ≤ 999999 ∧ NumB r = s) ∨ (b = false ∧ r = 0 ∧ ∀ n : Int, -999999 ≤ n → n ≤ 999999 → NumB n ≠ s)
theorem readIs_ex (s : ByteArray) : ∃ r b, ReadIs s r b := by
  by_cases h : ∃ n : Int, -999999 ≤ n ∧ n ≤ 999999 ∧ NumB n = s
  · obtain ⟨n, h0, h1, h2⟩ := h
    exact ⟨n, true, .inl ⟨rfl, h0, h1, h2⟩⟩
  · exact ⟨0, false, .inr ⟨rfl, rfl, fun n h0 h1 h2 => h ⟨n, h0, h1, h2⟩⟩⟩
/-- what stands behind the sign: t, and whether there is one -/
def Strip (s t : ByteArray) (neg : Bool) : Prop :=
  (neg = true ∧ 1 < s.size ∧ s.data.toList = 45 :: t.data.toList) ∨ (neg = false ∧ t = s ∧ ∀ c l, s.data.toList = c :: l → c = 45 → l = [])
theorem strip_num {s t : ByteArray} {neg : Bool} {n : Int} (h : Strip s t neg) (hn : NumB n = s) : t.data.toList = Lib.decDigits n.natAbs := by
  subst hn
  rcases h with ⟨_, _, h⟩ | ⟨_, rfl, h⟩
  · by_cases hn : n < 0
    · rw [numB_neg hn] at h
      exact (List.cons.inj h).2.symm
    · rw [numB_pos (by omega)] at h
      exact absurd h (dd_head _ _)
  · by_cases hn : n < 0
    · exact absurd (h _ _ (numB_neg hn) rfl) (dd_ne _)
    · exact numB_pos (by omega)
theorem read_len {s t : ByteArray} {neg b : Bool} {r : Int} (h : Strip s t neg) (hr : ReadIs s r b) (hl : t.size < 1 ∨ 6 < t.size) : r = 0 ∧ b = false := by
  rcases hr with ⟨_, h0, h1, h2⟩ | ⟨rfl, rfl, _⟩
  · have e := strip_num h h2
    have hd := dd_len r.natAbs (by omega)
    rw [← e] at hd
    have : t.data.toList.length = t.size := rfl
    omega
  · exact ⟨rfl, rfl⟩
theorem read_digit {s t : ByteArray} {neg b : Bool} {r : Int} (h : Strip s t neg) (hr : ReadIs s r b) {k : Nat} (hk : k < t.size) (hd : t[k].toNat < 48 ∨ 57 < t[k].toNat) : r = 0 ∧ b = false := by
  rcases hr with ⟨_, h0, h1, h2⟩ | ⟨rfl, rfl, _⟩
  · have e := strip_num h h2
    have hm : t[k] ∈ t.data.toList := by
      have e2 : t[k] = t.data.toList[k]'(by simpa using hk) := rfl
      rw [e2]; exact List.getElem_mem _
    rw [e] at hm
    have := dd_digits _ _ hm
    omega
  · exact ⟨rfl, rfl⟩
theorem read_end {s : ByteArray} {b : Bool} {r n : Int} (hr : ReadIs s r b) (h0 : -999999 ≤ n) (h1 : n ≤ 999999) :
    ((NumB n = s) ∧ r = n ∧ b = true) ∨ (NumB n ≠ s ∧ r = 0 ∧ b = false) ∨ (NumB n ≠ s ∧ b = true ∧ r ≠ n ∧ NumB r = s) := by
  rcases hr with ⟨rfl, h2, h3, h4⟩ | ⟨rfl, rfl, h⟩
  · by_cases e : r = n
    · subst e; exact .inl ⟨h4, rfl, rfl⟩
    · exact .inr (.inr ⟨fun h5 => e (numB_inj (h4.trans h5.symm)), rfl, e, h4⟩)
  · exact .inr (.inl ⟨h n h0 h1, rfl, rfl⟩)
/-- the value that was read is the number -/
theorem read_val {s t : ByteArray} {neg b : Bool} {r : Int} (h : Strip s t neg) (hr : ReadIs s r b) (hl : t.size ≤ 6) (hd : ∀ c ∈ t.data.toList, 48 ≤ c.toNat ∧ c.toNat ≤ 57) :
    dval 0 t.data.toList ≤ 999999 ∧ (((NumB (if neg then -(dval 0 t.data.toList : Int) else dval 0 t.data.toList) = s) ∧ r = (if neg then -(dval 0 t.data.toList : Int) else dval 0 t.data.toList) ∧ b = true) ∨ (NumB (if neg then -(dval 0 t.data.toList : Int) else dval 0 t.data.toList) ≠ s ∧ r = 0 ∧ b = false)) := by
  have hlt := dval_lt t.data.toList hd
  have hp : 10 ^ t.data.toList.length ≤ 10 ^ 6 := Nat.pow_le_pow_right (by omega) hl
  have hv : dval 0 t.data.toList ≤ 999999 := by omega
  refine ⟨hv, ?_⟩
  rcases read_end (n := if neg then -(dval 0 t.data.toList : Int) else dval 0 t.data.toList) hr (by split <;> omega) (by split <;> omega) with h1 | h1 | ⟨_, _, hne, hs⟩
  · exact .inl h1
  · exact .inr h1
  · exfalso
    have e := strip_num h hs
    have e2 := congrArg (dval 0) e
    rw [dval_dd] at e2
    apply hne
    rcases h with ⟨rfl, _, h⟩ | ⟨rfl, rfl, h⟩
    · by_cases hn : r < 0
      · simp only [if_true]; omega
      · rw [← hs, numB_pos (by omega)] at h
        exact absurd h (dd_head _ _)
    · by_cases hn : r < 0
      · rw [← hs] at h
        exact absurd (h _ _ (numB_neg hn) rfl) (dd_ne _)
      · simp only [Bool.false_eq_true, if_false]; omega
end Go.Proofs.YtadpjkghfgnbbaaDoor.L1
