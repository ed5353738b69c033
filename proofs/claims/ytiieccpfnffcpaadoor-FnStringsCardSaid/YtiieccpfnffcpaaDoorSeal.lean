/- What spec.l1Seal, spec.AppendChecksum and impl.AppendChecksum answer. -/
import Derived.Test.YtiieccpfnffcpaaDoorStands
import Derived.Test.YtiieccpfnffcpaaDoorCsum
import Derived.Test.YtiieccpfnffcpaaDoorFmtInt
import Derived.Lib.IndexAny
namespace Go.Proofs.YtiieccpfnffcpaaDoor.L1
open Go.RowKit Go.Sort
/-- a text with its checksum behind it -/
def SealB (s : ByteArray) : ByteArray := s ++ ({ data := #[35] } : ByteArray) ++ NumB (csum s.data.toList)
theorem numB_size (n : Int) (h0 : -9223372036854775808 ≤ n) (h1 : n ≤ 9223372036854775807) : (NumB n).size ≤ 21 := by
  have := Lib.itoa_length_le n h0 h1
  simpa [NumB, ByteArray.size] using this
theorem sealB_size (s : ByteArray) : s.size + 1 ≤ (SealB s).size ∧ (SealB s).size ≤ s.size + 22 := by
  have hb := csum_bd s.data.toList
  have h := numB_size (csum s.data.toList) (by omega) (by omega)
  have h3 : ({ data := #[35] } : ByteArray).size = 1 := rfl
  simp only [SealB, ByteArray.size_append, h3]
  omega
theorem sealB_eq (s : ByteArray) : (SealB s).size = s.size + 1 + (NumB (csum s.data.toList)).size := by
  have h3 : ({ data := #[35] } : ByteArray).size = 1 := rfl
  simp only [SealB, ByteArray.size_append, h3]
theorem l1Seal_any (s : ByteArray) (w : World) (hs : s.size ≤ 4000) :
    Calls Tryd.prog 34 #[.string s] w fun e w' => e = .returned (.string (SealB s)) ∧ ∃ j, w' = w.drewN j := by
  have hb := csum_bd s.data.toList
  have hN := numB_size (csum s.data.toList) (by omega) (by omega)
  go_enter Tryd.func34, Tryd.ntmps34
  go_wp2_with (first | (go_at_call 42; ((with_reducible refine (l1Sum_any s _ (by unfold maxLen; omega)).mono ?_); rintro e w1 ⟨rfl, rfl⟩)) | (go_at_call 25; ((with_reducible refine (l1Num_int (csum s.data.toList) (by omega) (by omega) _).mono ?_); rintro e w1 ⟨rfl, j, rfl⟩)))
  go_ret
  exact ⟨rfl, j, rfl⟩
theorem c35 : (35 : Int) = ((35 : UInt8).toNat : Int) := rfl
/-- what AppendChecksum takes -/
def Fits (s : ByteArray) : Prop := s.size ≤ 4000 ∧ s.data.toList.contains 35 = false ∧ (SealB s).size ≤ 4000
theorem specApp_yes (s : ByteArray) (w : World) (h : Fits s) :
    Calls Tryd.prog 17 #[.string s] w fun e w' => e = .returned (.tuple #[.string (SealB s), .bool true]) ∧ Below w.heap.size w w' := by
  obtain ⟨h1, h2, h3⟩ := h
  have H2 := Lib.hid h2
  clear h2
  go_enter Tryd.func17, Tryd.ntmps17
  go_wp2_with (first | (go_at_call 33; ((with_reducible refine (stands_any s 35 _ c35 _ H2.out _ (by unfold maxLen; omega)).mono ?_); rintro e w1 ⟨rfl, rfl⟩)) | (go_at_call 34; ((with_reducible refine (l1Seal_any s _ h1).mono ?_); rintro e w1 ⟨rfl, j, rfl⟩)))
  go_ret2
  exact ⟨rfl, below_drewN' _ _⟩
theorem specApp_no (s : ByteArray) (w : World) (hs : s.size ≤ maxLen) (h : ¬ Fits s) :
    Calls Tryd.prog 17 #[.string s] w fun e w' => e = .returned (.tuple #[.string ByteArray.empty, .bool false]) ∧ Below w.heap.size w w' := by
  unfold maxLen at hs
  by_cases h1 : s.size ≤ 4000
  · by_cases h2 : s.data.toList.contains 35 = true
    · have H2 := Lib.hid h2
      clear h2 h
      go_enter Tryd.func17, Tryd.ntmps17
      go_wp2_with (first | (go_at_call 33; ((with_reducible refine (stands_any s 35 _ c35 _ H2.out _ (by unfold maxLen; omega)).mono ?_); rintro e w1 ⟨rfl, rfl⟩)))
      go_ret2
      exact ⟨rfl, Below.refl _ _⟩
    · have h3 : 4000 < (SealB s).size := by
        have h2' : s.data.toList.contains 35 = false := by simpa using h2
        rcases Nat.lt_or_ge 4000 (SealB s).size with h4 | h4
        · exact h4
        · exact absurd ⟨h1, h2', h4⟩ h
      have H2 : Hid (s.data.toList.contains 35 = false) := Lib.hid (by simpa using h2)
      have hsz := (sealB_size s).2
      clear h2 h
      go_enter Tryd.func17, Tryd.ntmps17
      go_wp2_with (first | (go_at_call 33; ((with_reducible refine (stands_any s 35 _ c35 _ H2.out _ (by unfold maxLen; omega)).mono ?_); rintro e w1 ⟨rfl, rfl⟩)) | (go_at_call 34; ((with_reducible refine (l1Seal_any s _ h1).mono ?_); rintro e w1 ⟨rfl, j, rfl⟩)))
      go_ret2
      exact ⟨rfl, below_drewN' _ _⟩
  · clear h
    go_enter Tryd.func17, Tryd.ntmps17
    go_wp2_with fail
    go_ret2
    exact ⟨rfl, Below.refl _ _⟩
end Go.Proofs.YtiieccpfnffcpaaDoor.L1
