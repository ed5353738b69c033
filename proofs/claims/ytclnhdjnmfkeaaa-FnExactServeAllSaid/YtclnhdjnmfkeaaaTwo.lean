/- Two owned rows of different element types: each between bounds of its own. No program's text. -/
import Derived.Test.YtclnhdjnmfkeaaaRow
namespace Go.Proofs.Ytclnhdjnmfkeaaa.Own
open Go Go.RowKit Go.Proofs.Ytclnhdjnmfkeaaa.Mem
theorem row_tight {w : World} {lo hi n c s : Nat} {e : TypeId} {A : Option Addr} {xs : List Value} (h : Row w lo hi e s (.slice A n c) n xs) :
    (A = none ∧ Row w lo lo e s (.slice A n c) n xs) ∨ ∃ g, A = some ⟨g, 0, none⟩ ∧ lo ≤ g ∧ g < hi ∧ Row w g (g + 1) e s (.slice A n c) n xs := by
  rcases h.own.2 with ⟨h1, h2⟩ | ⟨g, cap, cur, h1, h2, h3⟩
  · have hA : A = none := by injection h1
    subst hA
    exact .inl ⟨rfl, h.own, fun g hg => by cases hg⟩
  · have hA : A = some ⟨g, 0, none⟩ := by injection h1
    subst hA
    have hlt := h.lt g rfl
    exact .inr ⟨g, rfl, h2, hlt, ⟨h.own.1, .inr ⟨g, cap, cur, h1, Nat.le_refl _, h3⟩⟩, fun k hk => by simp only [Value.ownBlock, Option.some.injEq] at hk; omega⟩
theorem two_rows {w : World} {lo hi n m s t c d : Nat} {e f : TypeId} {A B : Option Addr} {xs ys : List Value} (h : Row w lo hi e s (.slice A n c) n xs) (k : Row w lo hi f t (.slice B m d) m ys) (he : e ≠ f) (hl : lo ≤ hi) :
    ∃ l0 h0 l1 h1, (lo ≤ l0 ∧ l0 ≤ h0 ∧ h0 ≤ hi ∧ lo ≤ l1 ∧ l1 ≤ h1 ∧ h1 ≤ hi ∧ (h0 ≤ l1 ∨ h1 ≤ l0)) ∧ Row w l0 h0 e s (.slice A n c) n xs ∧ Row w l1 h1 f t (.slice B m d) m ys := by
  have ha := apart_types h.own k.own he
  rcases row_tight h with ⟨_, h2⟩ | ⟨g, rfl, h3, h4, h5⟩
  · rcases row_tight k with ⟨_, k2⟩ | ⟨g, _, k3, k4, k5⟩
    · exact ⟨lo, lo, lo, lo, ⟨Nat.le_refl _, Nat.le_refl _, hl, Nat.le_refl _, Nat.le_refl _, hl, .inl (Nat.le_refl _)⟩, h2, k2⟩
    · exact ⟨lo, lo, g, g + 1, ⟨Nat.le_refl _, Nat.le_refl _, hl, k3, Nat.le_succ _, k4, .inl k3⟩, h2, k5⟩
  · rcases row_tight k with ⟨_, k2⟩ | ⟨g2, rfl, k3, k4, k5⟩
    · exact ⟨g, g + 1, lo, lo, ⟨h3, Nat.le_succ _, h4, Nat.le_refl _, Nat.le_refl _, hl, .inr h3⟩, h5, k2⟩
    · have hne : g ≠ g2 := fun e => by subst e; exact ha g rfl rfl
      exact ⟨g, g + 1, g2, g2 + 1, ⟨h3, Nat.le_succ _, h4, k3, Nat.le_succ _, k4, by omega⟩, h5, k5⟩
end Go.Proofs.Ytclnhdjnmfkeaaa.Own
