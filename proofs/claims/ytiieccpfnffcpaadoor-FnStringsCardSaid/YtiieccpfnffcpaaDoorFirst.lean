/- The first part of a text: what stands ahead of the first byte c; by Cut and by the parts. Nothing of the program but one type's row. -/
import Derived.Test.YtiieccpfnffcpaaDoorSplit
import Derived.Lib.IndexMore
import Derived.Lib.IndexBytes
namespace Go.Proofs.YtiieccpfnffcpaaDoor.L1
open Go.RowKit
theorem tw_index (c : UInt8) : ∀ l : List UInt8, (if 0 ≤ Lib.indexByte l c then l.take (Lib.indexByte l c).toNat else l) = l.takeWhile (· != c)
  | [] => by simp [Lib.indexByte]
  | b :: l => by
    have ih := tw_index c l
    have hg := Lib.indexByte_ge l c
    by_cases hb : b = c
    · subst hb; simp [Lib.indexByte]
    · have hb' : (b == c) = false := by simpa using hb
      have hb2 : (b != c) = true := by simpa using hb
      rw [List.takeWhile_cons, if_pos hb2]
      by_cases h1 : Lib.indexByte l c = -1
      · have e : Lib.indexByte (b :: l) c = -1 := by simp [Lib.indexByte, hb', h1]
        rw [h1] at ih
        rw [e, if_neg (by omega), ← ih, if_neg (by omega)]
      · have h1' : (Lib.indexByte l c == -1) = false := by simpa using h1
        have e : Lib.indexByte (b :: l) c = Lib.indexByte l c + 1 := by simp [Lib.indexByte, hb', h1']
        rw [if_pos (by omega)] at ih
        rw [e, if_pos (by omega), ← ih, show (Lib.indexByte l c + 1).toNat = (Lib.indexByte l c).toNat + 1 from by omega, List.take_succ_cons]
/-- what stands ahead of the first c -/
def Fst (s : ByteArray) (c : UInt8) : ByteArray := ⟨(s.data.toList.takeWhile (· != c)).toArray⟩
theorem cut_fst (s : ByteArray) (c : UInt8) : (⟨(Lib.cut s.data.toList [c]).1.toArray⟩ : ByteArray) = Fst s c := by
  unfold Fst Lib.cut
  rw [Lib.index_one, ← tw_index]
  split <;> rfl
theorem tw_take (c : UInt8) : ∀ (l : List UInt8) (k : Nat), (∀ x ∈ l.take k, x ≠ c) → (l[k]? = some c ∨ l.length ≤ k) → l.takeWhile (· != c) = l.take k
  | [], k, _, _ => by simp
  | b :: l, 0, _, h => by
    rcases h with h | h
    · obtain rfl : b = c := by simpa using h
      simp
    · simp at h
  | b :: l, k + 1, h0, h => by
    have hb : (b != c) = true := by simpa using h0 b (by simp)
    rw [List.takeWhile_cons, if_pos hb, List.take_succ_cons, tw_take c l k (fun x hx => h0 x (by simp [hx])) (by simpa using h)]
theorem extract_take (s : ByteArray) (k : Nat) : s.extract 0 k = ⟨(s.data.toList.take k).toArray⟩ := by
  apply ByteArray.ext
  rw [ByteArray.data_extract, ← Array.toList_inj]
  simp [List.extract_eq_take_drop]
theorem cuts_fst (s : ByteArray) (c : UInt8) : ∀ k : Nat, k ≤ s.size → ((∀ x ∈ s.data.toList.take k, x ≠ c) ∧ cuts s c k = ([], 0)) ∨ (cuts s c k).1.head? = some (Fst s c) := by
  intro k
  induction k with
  | zero => intro _; exact .inl ⟨by simp, rfl⟩
  | succ k ih =>
    intro hk
    have hlt : k < s.size := by omega
    by_cases he : s[k] = c
    · rw [cuts_hit s c k hlt he]
      rcases ih (by omega) with ⟨h1, h2⟩ | h
      · right
        rw [h2]
        have hg : s.data.toList[k]? = some c := by rw [← he]; simp [ByteArray.getElem_eq_getElem_data]
        simp only [List.nil_append, List.head?_cons, Option.some.injEq]
        rw [extract_take, Fst, tw_take c _ k h1 (.inl hg)]
      · right
        rw [List.head?_append]
        simp [h]
    · rw [cuts_miss s c k hlt he]
      rcases ih (by omega) with ⟨h1, h2⟩ | h
      · left
        refine ⟨fun x hx => ?_, h2⟩
        rw [take_snoc s k hlt, List.mem_append] at hx
        rcases hx with hx | hx
        · exact h1 x hx
        · simp only [List.mem_singleton] at hx; rw [hx]; exact he
      · exact .inr h
theorem parts_fst (s : ByteArray) (c : UInt8) : (Parts s c)[0]? = some (Fst s c) := by
  unfold Parts
  rcases cuts_fst s c s.size (Nat.le_refl _) with ⟨h1, h2⟩ | h
  · rw [h2]
    simp only [List.nil_append, List.getElem?_cons_zero, Option.some.injEq]
    rw [extract_take, Fst, tw_take c _ s.size h1 (.inr (by simp))]
  · rw [← List.head?_eq_getElem?, List.head?_append]
    simp [h]
theorem fst_size (s : ByteArray) (c : UInt8) : (Fst s c).size ≤ s.size := by
  have := (List.takeWhile_prefix (fun x => x != c) (l := s.data.toList)).length_le
  show (s.data.toList.takeWhile (· != c)).toArray.size ≤ s.data.size
  rw [List.size_toArray, ← Array.length_toList]
  exact this
theorem tw_mem (c : UInt8) : ∀ l : List UInt8, ∀ x ∈ l.takeWhile (· != c), x ≠ c
  | [], x, h => by simp at h
  | b :: l, x, h => by
    rw [List.takeWhile_cons] at h
    split at h
    · rename_i hb
      rcases List.mem_cons.1 h with rfl | h
      · simpa using hb
      · exact tw_mem c l x h
    · simp at h
theorem fst_free (s : ByteArray) (c : UInt8) : (Fst s c).data.toList.contains c = false := by
  simp only [Fst, List.contains_eq_mem, decide_eq_false_iff_not]
  intro h
  exact tw_mem c _ _ h rfl
end Go.Proofs.YtiieccpfnffcpaaDoor.L1
