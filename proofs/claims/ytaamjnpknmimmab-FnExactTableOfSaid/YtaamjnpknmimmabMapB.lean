/- The sizes of what MapPage answers. -/
import Derived.Test.YtaamjnpknmimmabMapI
import Derived.Test.YtaamjnpknmimmabProtB
namespace Go.Proofs.Ytaamjnpknmimmab.L4
open Go Go.RowKit Go.Proofs.Ytaamjnpknmimmab.Mem Go.Proofs.Ytaamjnpknmimmab.Own Go.Proofs.Ytaamjnpknmimmab.L1
theorem tot_newLeaf (t : Tab) (p : Nat) : tot (newLeaf t p).leaves = tot t.leaves + 4 := by simp [newLeaf, tot, noLeaf]
theorem mapOf_sizes {t : Tab} {page frame : Int} {wr b : Bool} {T : Tab} (h : mapOf t page frame wr = (T, b)) (hb : t.dirs.length + (t.leaves.length + tot t.leaves) ≤ 1048576) : T.dirs.length ≤ 1048576 ∧ T.leaves.length ≤ 1048576 ∧ tot T.leaves ≤ 1048576 := by
  unfold mapOf at h
  by_cases hc : CanM t page frame
  · rw [if_pos hc] at h
    obtain rfl := congrArg Prod.fst h
    have h4 := hc.1.1
    refine ⟨by simp only; rw [mapT_dirs]; omega, ?_, ?_⟩
    · simp only [mapT, setE_leaves]
      split
      · simp [newLeaf]; omega
      · omega
    · simp only [mapT, tot_setE]
      split
      · rw [tot_newLeaf]; omega
      · omega
  · rw [if_neg hc] at h
    obtain rfl := congrArg Prod.fst h
    exact ⟨Nat.zero_le _, Nat.zero_le _, Nat.zero_le _⟩
end Go.Proofs.Ytaamjnpknmimmab.L4
