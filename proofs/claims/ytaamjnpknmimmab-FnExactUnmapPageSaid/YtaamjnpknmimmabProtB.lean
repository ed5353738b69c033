/- The sizes of what ProtectPage answers. -/
import Derived.Test.YtaamjnpknmimmabProtS
import Derived.Test.YtaamjnpknmimmabTabL
import Derived.Test.YtaamjnpknmimmabHeld
namespace Go.Proofs.Ytaamjnpknmimmab.L4
open Go Go.RowKit Go.Proofs.Ytaamjnpknmimmab.Mem Go.Proofs.Ytaamjnpknmimmab.Own Go.Proofs.Ytaamjnpknmimmab.L1
theorem tot_set (xss : List (List Ent)) (q j : Nat) (x : Ent) : tot (xss.set q ((xss.getD q ([] : List Ent)).set j x)) = tot xss := by
  induction xss generalizing q with
  | nil => rfl
  | cons xs xss ih =>
    cases q with
    | zero => simp [tot]
    | succ q =>
      have h := ih q
      simp only [List.set_cons_succ, List.getD_cons_succ, tot, List.map_cons, List.sum_cons] at h ⊢
      omega
theorem tot_setE (t : Tab) (p : Nat) (x : Ent) : tot (setE t p x).leaves = tot t.leaves := tot_set _ _ _ _
theorem protOf_sizes {t : Tab} {page : Int} {wr b : Bool} {T : Tab} (h : protOf t page wr = (T, b)) : T.dirs.length ≤ t.dirs.length ∧ T.leaves.length ≤ t.leaves.length ∧ tot T.leaves ≤ tot t.leaves := by
  unfold protOf at h
  by_cases hc : CanP t page
  · rw [if_pos hc] at h
    obtain rfl := congrArg Prod.fst h
    exact ⟨Nat.le_refl _, Nat.le_of_eq (setE_leaves _ _ _), Nat.le_of_eq (tot_setE _ _ _)⟩
  · rw [if_neg hc] at h
    obtain rfl := congrArg Prod.fst h
    exact ⟨Nat.zero_le _, Nat.zero_le _, Nat.zero_le _⟩
end Go.Proofs.Ytaamjnpknmimmab.L4
