/- Plain functions on lists of bytes for chapter 1: the checksum. Nothing of the program. -/
import Derived.WalkKit
namespace Go.Proofs.YtadpjkghfgnbbaaDoor.L1
/-- one step of the checksum -/
def cstep (h : Int) (c : UInt8) : Int := (41 * h + (c.toNat : Int) + 1) % 999979
def csum (l : List UInt8) : Int := l.foldl cstep 7
theorem cstep_bd (h : Int) (c : UInt8) : 0 ≤ cstep h c ∧ cstep h c ≤ 999978 := by unfold cstep; omega
theorem csum_snoc (l : List UInt8) (c : UInt8) : csum (l ++ [c]) = cstep (csum l) c := by simp [csum]
theorem csum_bd (l : List UInt8) : 0 ≤ csum l ∧ csum l ≤ 999978 := by
  rcases List.eq_nil_or_concat l with rfl | ⟨l', c, rfl⟩
  · simp [csum]
  · rw [List.concat_eq_append, csum_snoc]; exact cstep_bd _ _
theorem take_snoc (s : ByteArray) (k : Nat) (h : k < s.size) : s.data.toList.take (k + 1) = s.data.toList.take k ++ [s[k]] := by
  rw [List.take_succ_eq_append_getElem (by simpa using h)]; rfl
theorem take_all (s : ByteArray) (k : Nat) (h : s.size ≤ k) : s.data.toList.take k = s.data.toList := List.take_of_length_le (by simpa using h)
theorem toList_ne {a b : ByteArray} (h : a ≠ b) : (a.toList == b.toList) = false := by
  simp only [beq_eq_false_iff_ne, ne_eq]
  intro e
  apply h
  apply ByteArray.ext
  have : a.data.toList = b.data.toList := by simpa [ByteArray.toList_eq] using e
  exact Array.toList_inj.1 this
theorem ret_int {k : IntKind} {a b : Int} (h : a = b) : Ending.returned (.int k a) = .returned (.int k b) := by rw [h]
end Go.Proofs.YtadpjkghfgnbbaaDoor.L1
