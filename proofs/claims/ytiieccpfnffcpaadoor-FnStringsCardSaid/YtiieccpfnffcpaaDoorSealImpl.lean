/- What impl.AppendChecksum answers. -/
import Derived.Test.YtiieccpfnffcpaaDoorSeal
import Derived.Test.YtiieccpfnffcpaaDoorCsumImpl
import Derived.Test.YtiieccpfnffcpaaDoorFrame
namespace Go.Proofs.YtiieccpfnffcpaaDoor.L1
open Go.RowKit Go.Sort
theorem hash_any (s : ByteArray) (b : Bool) (hb : s.data.toList.contains 35 = b) (w : World) :
    Calls Tryd.prog 32 #[.string s, .string { data := #[35] }] w fun e w' => e = .returned (.bool b) ∧ w = w' := by
  refine (Tryd.strings_Contains_one s 35 w).mono ?_
  rintro e w' ⟨rfl, rfl⟩
  refine ⟨?_, rfl⟩
  rw [← hb, Lib.contains_iff_indexByte]
theorem implApp_yes (s : ByteArray) (w : World) (h : Fits s) (htab : Lib.TabIs Tryd.prog w "internal/strconv.uint64pow10" .u64 Lib.pow10Tab) :
    Calls Tryd.prog 16 #[.string s] w fun e w' => e = .returned (.tuple #[.string (SealB s), .bool true]) ∧ Below w.heap.size w w' := by
  obtain ⟨h1, h2, h3⟩ := h
  have H2 := Lib.hid h2
  have HT := Lib.hid htab
  clear h2 htab
  have hb := csum_bd s.data.toList
  have hN := numB_size (csum s.data.toList) (by omega) (by omega)
  have h3' : s.size + 1 + (NumB (csum s.data.toList)).size ≤ 4000 := by rw [← sealB_eq]; exact h3
  clear h3
  go_enter Tryd.func16, Tryd.ntmps16
  go_wp2_with (first | (go_at_call 31; ((with_reducible refine (implCk_fit s _ h1).mono ?_); rintro e w1 ⟨rfl, rfl⟩)) | (go_at_call 32; ((with_reducible refine (hash_any s _ H2.out _).mono ?_); rintro e w1 ⟨rfl, rfl⟩)) | (go_at_call 10; ((with_reducible refine (implFmt_yes (csum s.data.toList) (by omega) (by omega) _ HT.out).mono ?_); rintro e w1 ⟨rfl, hb1⟩)))
  go_ret2
  exact ⟨rfl, hb1⟩
theorem implApp_no (s : ByteArray) (w : World) (hs : s.size ≤ maxLen) (h : ¬ Fits s) (htab : Lib.TabIs Tryd.prog w "internal/strconv.uint64pow10" .u64 Lib.pow10Tab) :
    Calls Tryd.prog 16 #[.string s] w fun e w' => e = .returned (.tuple #[.string ByteArray.empty, .bool false]) ∧ Below w.heap.size w w' := by
  have HT := Lib.hid htab
  clear htab
  by_cases h1 : s.size ≤ 4000
  · by_cases h2 : s.data.toList.contains 35 = true
    · have H2 := Lib.hid h2
      clear h2 h
      go_enter Tryd.func16, Tryd.ntmps16
      go_wp2_with (first | (go_at_call 31; ((with_reducible refine (implCk_fit s _ h1).mono ?_); rintro e w1 ⟨rfl, rfl⟩)) | (go_at_call 32; ((with_reducible refine (hash_any s _ H2.out _).mono ?_); rintro e w1 ⟨rfl, rfl⟩)))
      go_ret2
      exact ⟨rfl, Below.refl _ _⟩
    · have h3 : 4000 < s.size + 1 + (NumB (csum s.data.toList)).size := by
        rw [← sealB_eq]
        have h2' : s.data.toList.contains 35 = false := by simpa using h2
        rcases Nat.lt_or_ge 4000 (SealB s).size with h4 | h4
        · exact h4
        · exact absurd ⟨h1, h2', h4⟩ h
      have H2 : Hid (s.data.toList.contains 35 = false) := Lib.hid (by simpa using h2)
      have hb := csum_bd s.data.toList
      have hN := numB_size (csum s.data.toList) (by omega) (by omega)
      clear h2 h
      go_enter Tryd.func16, Tryd.ntmps16
      go_wp2_with (first | (go_at_call 31; ((with_reducible refine (implCk_fit s _ h1).mono ?_); rintro e w1 ⟨rfl, rfl⟩)) | (go_at_call 32; ((with_reducible refine (hash_any s _ H2.out _).mono ?_); rintro e w1 ⟨rfl, rfl⟩)) | (go_at_call 10; ((with_reducible refine (implFmt_yes (csum s.data.toList) (by omega) (by omega) _ HT.out).mono ?_); rintro e w1 ⟨rfl, hb1⟩)))
      go_ret2
      exact ⟨rfl, hb1⟩
  · have h1' : 4000 < s.size := by omega
    clear h
    go_enter Tryd.func16, Tryd.ntmps16
    go_wp2_with (go_at_call 31; ((with_reducible refine (implCk_big s _ hs h1').mono ?_); rintro e w1 ⟨rfl, rfl⟩))
    go_ret2
    exact ⟨rfl, Below.refl _ _⟩
end Go.Proofs.YtiieccpfnffcpaaDoor.L1
