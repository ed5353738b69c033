/- What spec.UnmapPage answers, all ways; the sizes of what UnmapPage answers. -/
import Derived.Test.YtaamjnpknmimmabUnD
import Derived.Test.YtaamjnpknmimmabProtB
namespace Go.Proofs.Ytaamjnpknmimmab.L4
open Go Go.RowKit Go.Proofs.Ytaamjnpknmimmab.Mem Go.Proofs.Ytaamjnpknmimmab.Own Go.Proofs.Ytaamjnpknmimmab.L1
theorem specUnm_any (A : Option Addr) (n c : Nat) (D : Option Addr) (m d : Nat) (page : Int) (t : Tab) (w : World) (hr : ReadsT w w.heap.size A n D m t) (hn : n ≤ 1048576) (hm : m ≤ 1048576) (hl : ∀ xs ∈ t.leaves, xs.length ≤ 1048576) (hnc : n ≤ c) (T : Tab) (b : Bool) (hT : unmapOf t page = (T, b)) :
    Calls Try.prog 9 #[.agg #[.slice A n c, .slice D m d], .int .i64 page] w fun e w' => ∃ A' c' D' d', e = .returned (.tuple #[.agg #[.slice A' T.dirs.length c', .slice D' T.leaves.length d'], .bool b]) ∧ OwnT w' w.heap.size w'.heap.size A' T.dirs.length c' D' T.leaves.length d' T ∧ Below w.heap.size w w' := by
  by_cases hg : ∃ p : Nat, page = p ∧ CanP t page ∧ isE ((setE t p noEnt).leaves.getD (dirOf t p).toNat ([] : List Ent)) = true
  · obtain ⟨p, rfl, hcan, hgo⟩ := hg
    have h := specUnm_drop A n c D m d p t w hr hn hm hl hnc hcan hgo
    unfold unmapOf at hT
    rw [if_pos hcan, Int.toNat_natCast] at hT
    unfold unmT at hT
    rw [if_pos hgo] at hT
    obtain ⟨rfl, rfl⟩ := Prod.mk.inj hT
    have hml := hr.leaves.len
    obtain ⟨q, hq, hqm, _⟩ := mapped_at (p := p) hcan.1 hml (by have := hcan.2.2.1; omega) (by have := hcan.2.2.2; rwa [Int.toNat_natCast] at this)
    have hqt : (dirOf t p).toNat = q := by rw [hq]; rfl
    have hd4 : (withoutT (setE t p noEnt) (dirOf t p).toNat).dirs.length = 4 := by simp only [withoutT, List.length_map, setE_dirs]; exact hcan.1.1
    have hlm : (withoutT (setE t p noEnt) (dirOf t p).toNat).leaves.length = m - 1 := by
      simp only [withoutT, List.length_eraseIdx, setE_leaves, hml]
      rw [hqt, if_pos hqm]
    rw [hd4, hlm]
    exact h
  · refine specUnm_keep A n c D m d page t w hr hn hm hl hnc T b hT fun p hp hcan => ?_
    have h : ¬ (isE ((setE t p noEnt).leaves.getD (dirOf t p).toNat ([] : List Ent)) = true) := fun h => hg ⟨p, hp, hcan, h⟩
    simpa using h
theorem tot_erase (xss : List (List Ent)) (k : Nat) : tot (xss.eraseIdx k) ≤ tot xss := by
  induction xss generalizing k with
  | nil => simp
  | cons xs xss ih =>
    cases k with
    | zero => simp [tot]
    | succ k =>
      have h := ih k
      simp only [List.eraseIdx_cons_succ, tot, List.map_cons, List.sum_cons] at h ⊢
      omega
theorem unmapOf_sizes {t : Tab} {page : Int} {b : Bool} {T : Tab} (h : unmapOf t page = (T, b)) : T.dirs.length ≤ t.dirs.length ∧ T.leaves.length ≤ t.leaves.length ∧ tot T.leaves ≤ tot t.leaves := by
  unfold unmapOf at h
  by_cases hc : CanP t page
  · rw [if_pos hc] at h
    obtain rfl := congrArg Prod.fst h
    simp only [unmT]
    split
    · refine ⟨by simp [withoutT, setE_dirs], ?_, ?_⟩
      · simp only [withoutT, List.length_eraseIdx, setE_leaves]
        split <;> omega
      · simp only [withoutT]
        exact Nat.le_trans (tot_erase _ _) (Nat.le_of_eq (tot_setE _ _ _))
    · exact ⟨Nat.le_refl _, Nat.le_of_eq (setE_leaves _ _ _), Nat.le_of_eq (tot_setE _ _ _)⟩
  · rw [if_neg hc] at h
    obtain rfl := congrArg Prod.fst h
    exact ⟨Nat.zero_le _, Nat.zero_le _, Nat.zero_le _⟩
end Go.Proofs.Ytaamjnpknmimmab.L4
