/- What impl.JoinStrings answers; and both at a separator that is not one byte. -/
import Derived.Test.YtiieccpfnffcpaaCanJoin
namespace Go.Proofs.Ytiieccpfnffcpaa.L1
open Go.RowKit Go.Proofs.Ytiieccpfnffcpaa.Mem
theorem joinCall (A : Option Addr) (n cp B : Nat) (ss : List ByteArray) (sep : ByteArray) (w : World) (hr : Reads w B 1 A n (ss.map Value.string)) (hB : B ≤ w.heap.size) (hcp : n ≤ cp) (hn0 : 0 < n) (hn : n ≤ 1048576) (hz : (JB ss sep).size ≤ 1048576) :
    Calls Try.prog 31 #[.slice A n cp, .string sep] w fun e w' => e = .returned (.string (JB ss sep)) ∧ Below w.heap.size w w' := by
  have hl : ss.length = n := by have := hr.len; simpa using this
  obtain ⟨b, off, rfl, hb, hc⟩ := hr.2 hn0
  subst hl
  have hz' : (Lib.join (ss.map (·.data.toList)) sep.data.toList).length ≤ 140737488355328 := by
    have : (JB ss sep).size = (Lib.join (ss.map (·.data.toList)) sep.data.toList).length := List.size_toArray
    omega
  exact Try.strings_Join b off cp ss sep w (fun j x hx => hc j _ (by rw [List.getElem?_map, hx]; rfl)) (by omega) (by omega) hcp hz'
theorem one_of_size {sep : ByteArray} (h : sep.size = 1) : ∃ c, sep = ⟨#[c]⟩ := by
  have h' : sep.data.size = 1 := h
  refine ⟨sep.data[0], ByteArray.ext ?_⟩
  apply Array.ext
  · simpa using h'
  · intro i h1 h2
    have : i = 0 := by simp at h2; omega
    subst this; rfl
theorem implJoin_any (A : Option Addr) (n cp B : Nat) (ss : List ByteArray) (c : UInt8) (w : World) (hr : Reads w B 1 A n (ss.map Value.string)) (hB : B ≤ w.heap.size) (hcp : n ≤ cp) (hn : n ≤ 1048576) (ht : tot ss ≤ 1048576) (hss : ∀ s ∈ ss, s.size ≤ 1048576) (r : ByteArray) (b : Bool) (hj : JoinIs ss c r b) :
    Calls Try.prog 12 #[.slice A n cp, .string ⟨#[c]⟩] w fun e w' => e = .returned (.tuple #[.string r, .bool b]) ∧ Below w.heap.size w w' := by
  have hl : ss.length = n := by have := hr.len; simpa using this
  have HR := Lib.hid hr
  clear hr
  have hsep : ({ data := #[c] } : ByteArray).size = 1 := rfl
  by_cases h0 : n = 0
  · subst h0
    have hx := join_no hj (fun h => h.1 (List.length_eq_zero_iff.1 hl))
    have HX := Lib.hid hx
    clear hx hj hl
    go_enter Try.func12, Try.ntmps12
    go_wp2_with fail
    go_ret2
    rw [HX.out.1, HX.out.2]
    exact ⟨rfl, Below.refl _ _⟩
  · have hn0 : ((n : Int) == 0) = false := by simp; omega
    have hp : 0 < n := by omega
    rcases hj with ⟨rfl, hok, rfl⟩ | ⟨rfl, hno, rfl⟩
    · have hz : (JB ss ⟨#[c]⟩).size ≤ 1048576 := by
        rw [jb_size _ _ hok.1]
        have := hok.2.2
        rw [show ({ data := #[c] } : ByteArray).size = 1 from rfl]
        omega
      have HO := Lib.hid hok
      clear h0 hok hl
      go_enter Try.func12, Try.ntmps12
      go_wp2_with (first | (go_at_call 30; ((with_reducible refine (canJoin_any A n cp B ss c _ (sep_n c _) _ HR.out hp hn ht hss true ⟨fun _ => HO.out, fun _ => rfl⟩).mono ?_); rintro e w1 ⟨rfl, rfl⟩)) | (go_at_call 31; ((with_reducible refine (joinCall A n cp B ss _ _ HR.out hB hcp hp hn hz).mono ?_); rintro e w1 ⟨rfl, hb1⟩)))
      go_ret2
      exact ⟨rfl, hb1⟩
    · have HO := Lib.hid hno
      clear h0 hno hl
      go_enter Try.func12, Try.ntmps12
      go_wp2_with (first | (go_at_call 30; ((with_reducible refine (canJoin_any A n cp B ss c _ (sep_n c _) _ HR.out hp hn ht hss false ⟨fun h => Bool.noConfusion h, fun h => absurd h HO.out⟩).mono ?_); rintro e w1 ⟨rfl, rfl⟩)))
      go_ret2
      exact ⟨rfl, Below.refl _ _⟩
theorem specJoin_nosep (A : Option Addr) (n cp : Nat) (sep : ByteArray) (w : World) (hn : n ≤ 1048576) (_hs : sep.size ≤ 1048576) (h : sep.size ≠ 1) :
    Calls Try.prog 13 #[.slice A n cp, .string sep] w fun e w' => e = .returned (.tuple #[.string ByteArray.empty, .bool false]) ∧ w = w' := by
  have t1 : ((sep.size : Int) == 1) = false := by simp; omega
  clear h
  go_enter Try.func13, Try.ntmps13
  go_wp2_with fail
  go_ret2
  exact ⟨rfl, rfl⟩
theorem implJoin_nosep (A : Option Addr) (n cp : Nat) (sep : ByteArray) (w : World) (hn : n ≤ 1048576) (_hs : sep.size ≤ 1048576) (h : sep.size ≠ 1) :
    Calls Try.prog 12 #[.slice A n cp, .string sep] w fun e w' => e = .returned (.tuple #[.string ByteArray.empty, .bool false]) ∧ w = w' := by
  have t1 : ((sep.size : Int) == 1) = false := by simp; omega
  have t2 : ((sep.size : Int) != 1) = true := by simp only [bne, t1, Bool.not_false]
  clear h
  by_cases h0 : n = 0
  · subst h0
    go_enter Try.func12, Try.ntmps12
    go_wp2_with fail
    go_ret2
    exact ⟨rfl, rfl⟩
  · have hn0 : ((n : Int) == 0) = false := by simp; omega
    clear h0
    go_enter Try.func12, Try.ntmps12
    go_wp2_with fail
    go_ret2
    exact ⟨rfl, rfl⟩
end Go.Proofs.Ytiieccpfnffcpaa.L1
