/- What impl.SplitString answers, at every text and separator. -/
import Derived.Test.YtadpjkghfgnbbaaDoorSplitCall
import Derived.Test.YtadpjkghfgnbbaaDoorMem
namespace Go.Proofs.YtadpjkghfgnbbaaDoor.L1
open Go.RowKit Go.Proofs.YtadpjkghfgnbbaaDoor.Mem
/-- the parts that SplitString answers, and whether it takes its arguments -/
def SplitIs (s sep : ByteArray) (ps : List ByteArray) (b : Bool) : Prop :=
  (b = true ∧ s.size ≤ 4000 ∧ ∃ c, sep = ⟨#[c]⟩ ∧ ps = Parts s c) ∨ (b = false ∧ ps = [] ∧ (4000 < s.size ∨ sep.size ≠ 1))
theorem one_byte {sep : ByteArray} (h : sep.size = 1) : ∃ c, sep = ⟨#[c]⟩ := by
  have h' : sep.data.size = 1 := h
  refine ⟨sep.data[0], ByteArray.ext ?_⟩
  apply Array.ext
  · simpa using h'
  · intro i h1 h2
    have : i = 0 := by simp at h2; omega
    subst this; rfl
theorem splitIs_ex (s sep : ByteArray) : ∃ ps b, SplitIs s sep ps b := by
  by_cases h1 : s.size ≤ 4000
  · by_cases h2 : sep.size = 1
    · obtain ⟨c, hc⟩ := one_byte h2
      exact ⟨_, true, .inl ⟨rfl, h1, c, hc, rfl⟩⟩
    · exact ⟨_, false, .inr ⟨rfl, rfl, .inr h2⟩⟩
  · exact ⟨_, false, .inr ⟨rfl, rfl, .inl (by omega)⟩⟩
theorem splitIs_len {s sep : ByteArray} {ps : List ByteArray} {b : Bool} (h : SplitIs s sep ps b) : ps.length ≤ 4001 := by
  rcases h with ⟨_, h1, c, _, rfl⟩ | ⟨_, rfl, _⟩
  · have := cuts_le s c s.size; unfold Parts; rw [List.length_append]; simp; omega
  · simp
/-- a call's answer: the texts ps in a slice of its own, and b -/
def Gives (ps : List ByteArray) (b : Bool) (w : World) (e : Ending) (w' : World) : Prop :=
  ∃ (A : Option Addr) (c : Nat), e = .returned (.tuple #[.slice A ps.length c, .bool b]) ∧ w'.ownsRow w.heap.size 9 1 (.slice A ps.length c) ps.length (ps.map Value.string) ∧ Below w.heap.size w w'
theorem gives_of {ps : List ByteArray} {b : Bool} {w w' : World} {v : Value} (h : w'.ownsRow w.heap.size 9 1 v ps.length (ps.map Value.string)) (hb : Below w.heap.size w w') : Gives ps b w (.returned (.tuple #[v, .bool b])) w' := by
  obtain ⟨A, c, rfl, _, _⟩ := own_form h
  exact ⟨A, c, rfl, h, hb⟩
theorem implSplit_any (s sep : ByteArray) (ps : List ByteArray) (b : Bool) (h : SplitIs s sep ps b) (hs : s.size ≤ 1048576) (hs2 : sep.size ≤ 1048576) (w : World) :
    Calls Tryd.prog 23 #[.string s, .string sep] w (Gives ps b w) := by
  rcases h with ⟨rfl, h1, c, rfl, rfl⟩ | ⟨rfl, rfl, h⟩
  · refine (callsIn_wide.1 (splitString_in Fence.wide 3 trivial trivial trivial rfl (Nat.le_refl _) s c h1 w)).mono ?_
    rintro e w' ⟨v, rfl, hown, hb⟩
    exact gives_of hown hb
  · have hx : w.ownsRow w.heap.size 9 1 (.slice none 0 0) ([] : List ByteArray).length (([] : List ByteArray).map Value.string) := World.ownsRow_nil _ _ _ _
    by_cases h3 : 4000 < s.size
    · clear h
      go_enter Tryd.func23, Tryd.ntmps23
      go_wp2_with fail
      go_ret2
      exact gives_of hx (Below.refl _ _)
    · have h2 : sep.size ≠ 1 := by rcases h with h | h; exact absurd h h3; exact h
      have t1 : ((sep.size : Int) == 1) = false := by simp; omega
      have t2 : ((sep.size : Int) != 1) = true := by simp only [bne, t1, Bool.not_false]
      clear h h2
      go_enter Tryd.func23, Tryd.ntmps23
      go_wp2_with fail
      go_ret2
      exact gives_of hx (Below.refl _ _)
end Go.Proofs.YtadpjkghfgnbbaaDoor.L1
