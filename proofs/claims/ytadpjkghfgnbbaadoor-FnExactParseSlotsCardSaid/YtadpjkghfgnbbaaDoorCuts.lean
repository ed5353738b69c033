/- What has been parted of k bytes. -/
import Derived.Test.YtadpjkghfgnbbaaDoorSplit
import Derived.Lib.Join
namespace Go.Proofs.YtadpjkghfgnbbaaDoor.L1
open Go.RowKit
theorem join_snoc (xs : List (List UInt8)) (x sep : List UInt8) (h : xs ≠ []) : Lib.join (xs ++ [x]) sep = Lib.join xs sep ++ sep ++ x := by
  cases xs with
  | nil => exact absurd rfl h
  | cons y r =>
    rw [List.cons_append, Lib.join_cons, Lib.join_cons]
    simp [Lib.joinTail]
theorem clean_app {c : UInt8} {l : List UInt8} (h : l.contains c = false) {b : UInt8} (hb : b ≠ c) : (l ++ [b]).contains c = false := by
  simp only [List.contains_eq_mem, List.mem_append, List.mem_singleton, decide_eq_false_iff_not] at h ⊢
  rintro (h2 | h2)
  · exact h h2
  · exact hb h2.symm
theorem ext_list (s : ByteArray) (a b : Nat) : (s.extract a b).data.toList = (s.data.toList.take b).drop a := by
  rw [ByteArray.data_extract]
  simp [List.extract_eq_take_drop, List.drop_take]
theorem ext_succ (s : ByteArray) (a k : Nat) (h : k < s.size) (ha : a ≤ k) : (s.extract a (k + 1)).data.toList = (s.extract a k).data.toList ++ [s[k]] := by
  rw [ext_list, ext_list, take_snoc s k h, List.drop_append]
  have : a - (s.data.toList.take k).length = 0 := by
    rw [List.length_take]
    have : s.data.toList.length = s.size := rfl
    omega
  rw [this]
  rfl
/-- what has been parted of k bytes -/
theorem cuts_inv (s : ByteArray) (c : UInt8) : ∀ k, k ≤ s.size → (∀ x ∈ (cuts s c k).1, x.data.toList.contains c = false) ∧ (s.extract (cuts s c k).2 k).data.toList.contains c = false ∧
    Lib.join (((cuts s c k).1 ++ [s.extract (cuts s c k).2 k]).map (·.data.toList)) [c] = s.data.toList.take k := by
  intro k
  induction k with
  | zero => intro _; exact ⟨by simp [cuts], by simp [cuts], by simp [cuts, Lib.join_one]⟩
  | succ k ih =>
    intro hk
    obtain ⟨h1, h2, h3⟩ := ih (by omega)
    have hlt : k < s.size := by omega
    have hle := (cuts_le s c k).1
    by_cases he : s[k] = c
    · rw [cuts_hit s c k hlt he]
      refine ⟨?_, ?_, ?_⟩
      · intro x hx
        rcases List.mem_append.1 hx with hx | hx
        · exact h1 x hx
        · simp only [List.mem_singleton] at hx; rw [hx]; exact h2
      · simp
      · rw [List.map_append, List.map_cons, List.map_nil, join_snoc _ _ _ (by simp), h3, ext_list, take_snoc s k hlt, he]
        have : (List.take k s.data.toList ++ [c]).length ≤ k + 1 := by simp; omega
        rw [List.drop_eq_nil_of_le this]
        simp
    · rw [cuts_miss s c k hlt he]
      refine ⟨h1, ?_, ?_⟩
      · rw [ext_succ s _ k hlt hle]; exact clean_app h2 he
      · rw [List.map_append, List.map_cons, List.map_nil, ext_succ s _ k hlt hle, take_snoc s k hlt, ← h3, List.map_append, List.map_cons, List.map_nil]
        by_cases hd : (cuts s c k).1 = []
        · rw [hd]; simp [Lib.join_one]
        · rw [join_snoc _ _ _ (by simpa using hd), join_snoc _ _ _ (by simpa using hd)]
          simp
end Go.Proofs.YtadpjkghfgnbbaaDoor.L1
