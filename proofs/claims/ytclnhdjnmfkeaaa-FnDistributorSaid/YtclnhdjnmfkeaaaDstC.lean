/- What chapter 6's calls that change one interrupt answer: their answer as data. -/
import Derived.Test.YtclnhdjnmfkeaaaDstI
import Derived.Test.YtclnhdjnmfkeaaaDstS
import Derived.Test.YtclnhdjnmfkeaaaDstW
namespace Go.Proofs.Ytclnhdjnmfkeaaa.L6
open Go Go.RowKit Go.Proofs.Ytclnhdjnmfkeaaa.Mem Go.Proofs.Ytclnhdjnmfkeaaa.Own
/-- the answer of a call that hands back a list of its own -/
def ListPost (w : World) (l : List Irq) (b : Bool) (e : Ending) (w' : World) : Prop :=
  ∃ A' c', e = .returned (.tuple #[.slice A' l.length c', .bool b]) ∧ w'.ownsRow w.heap.size 53 5 (.slice A' l.length c') l.length (FL l) ∧ Below w.heap.size w w'
theorem listPost_of {w w' : World} {l : List Irq} {g cc : Nat} (hl : l.length = 8) (ho : w'.ownsRow w.heap.size 53 5 (.slice (some ⟨g, 0, none⟩) 8 cc) 8 (FL l)) (hb : Below w.heap.size w w') : ListPost w l true (.returned (.tuple #[.slice (some ⟨g, 0, none⟩) 8 cc, .bool true])) w' := by
  unfold ListPost
  rw [hl]
  exact ⟨_, cc, rfl, ho, hb⟩
theorem chAns_no {xs : List Irq} {i : Int} {c : Irq → Bool} {f : Irq → Irq} {l : List Irq} {b : Bool} (h : chAns xs i c f = (l, b)) (hn : ¬ (OkL xs ∧ (0 ≤ i ∧ i < 8) ∧ c (xs.getD i.toNat default) = true)) : l = [] ∧ b = false := by
  unfold chAns at h
  rw [if_neg hn] at h
  exact ⟨(congrArg Prod.fst h).symm, (congrArg Prod.snd h).symm⟩
theorem chAns_yes {xs : List Irq} {k : Nat} {c : Irq → Bool} {f : Irq → Irq} {l : List Irq} {b : Bool} {x : Irq} (h : chAns xs k c f = (l, b)) (ho : OkL xs) (hk : k < 8) (hx : xs[k]? = some x) (hc : c x = true) : l = xs.set k (f x) ∧ b = true := by
  unfold chAns at h
  have e : ((k : Int)).toNat = k := by omega
  rw [e, getD_at hx] at h
  rw [if_pos ⟨ho, by omega, hc⟩] at h
  exact ⟨(congrArg Prod.fst h).symm, (congrArg Prod.snd h).symm⟩
end Go.Proofs.Ytclnhdjnmfkeaaa.L6
