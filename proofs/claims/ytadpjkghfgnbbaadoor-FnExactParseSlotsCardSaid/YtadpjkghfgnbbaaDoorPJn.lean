/- The parts of a text, joined, are the text. No program's text. -/
import Derived.Test.YtadpjkghfgnbbaaDoorCuts
import Derived.Test.YtadpjkghfgnbbaaDoorJB
namespace Go.Proofs.YtadpjkghfgnbbaaDoor.L1
open Go Go.RowKit Go.Proofs.YtadpjkghfgnbbaaDoor.Mem
theorem parts_join (s : ByteArray) (c : UInt8) : JB (Parts s c) ⟨#[c]⟩ = s := by
  obtain ⟨_, _, h⟩ := cuts_inv s c s.size (Nat.le_refl _)
  apply ByteArray.ext
  apply Array.toList_inj.1
  show (Lib.join ((Parts s c).map (·.data.toList)) [c]).toArray.toList = _
  rw [List.toList_toArray]
  unfold Parts
  rw [h, take_all s s.size (Nat.le_refl _)]
theorem parts_size (s : ByteArray) (c : UInt8) : ∀ x ∈ Parts s c, x.size ≤ s.size := by
  have key : ∀ k, ∀ x ∈ (cuts s c k).1, x.size ≤ s.size := by
    intro k
    induction k with
    | zero => intro x hx; simp [cuts] at hx
    | succ k ih =>
      intro x hx
      rw [cuts] at hx
      split at hx
      · rcases List.mem_append.1 hx with hx | hx
        · exact ih x hx
        · rw [List.mem_singleton] at hx; rw [hx, ByteArray.size_extract]; omega
      · exact ih x hx
  intro x hx
  unfold Parts at hx
  rcases List.mem_append.1 hx with hx | hx
  · exact key _ x hx
  · rw [List.mem_singleton] at hx; rw [hx, ByteArray.size_extract]; omega
theorem parts_ne (s : ByteArray) (c : UInt8) : 0 < (Parts s c).length := by unfold Parts; simp
end Go.Proofs.YtadpjkghfgnbbaaDoor.L1
