/- What strings.Join answers where there are texts. -/
import Derived.Test.YtadpjkghfgnbbaaDoorJB
import Derived.Test.YtadpjkghfgnbbaaDoorShelf
namespace Go.Proofs.YtadpjkghfgnbbaaDoor.L1
open Go.RowKit Go.Proofs.YtadpjkghfgnbbaaDoor.Mem
theorem joinCall (A : Option Addr) (n cp B : Nat) (ss : List ByteArray) (sep : ByteArray) (w : World) (hr : Reads w B 1 A n (ss.map Value.string)) (hB : B ≤ w.heap.size) (hcp : n ≤ cp) (hn0 : 0 < n) (hn : n ≤ 1048576) (hz : (JB ss sep).size ≤ 1048576) :
    Calls Tryd.prog 19 #[.slice A n cp, .string sep] w fun e w' => e = .returned (.string (JB ss sep)) ∧ Below w.heap.size w w' := by
  have hl : ss.length = n := by have := hr.len; simpa using this
  obtain ⟨b, off, rfl, hb, hc⟩ := hr.2 hn0
  subst hl
  have hz' : (Lib.join (ss.map (·.data.toList)) sep.data.toList).length ≤ 140737488355328 := by
    have : (JB ss sep).size = (Lib.join (ss.map (·.data.toList)) sep.data.toList).length := List.size_toArray
    omega
  exact Tryd.strings_Join b off cp ss sep w (fun j x hx => hc j _ (by rw [List.getElem?_map, hx]; rfl)) (by omega) (by omega) hcp hz'
end Go.Proofs.YtadpjkghfgnbbaaDoor.L1
