/- What spec.VerifyChecksum and impl.VerifyChecksum answer. -/
import Derived.Test.YtiieccpfnffcpaaDoorSealImpl
import Derived.Test.YtiieccpfnffcpaaDoorFirst
namespace Go.Proofs.YtiieccpfnffcpaaDoor.L1
open Go.RowKit Go.Sort
/-- s is the seal of what stands ahead of its first mark -/
def Sealed (s : ByteArray) : Prop := s.size ≤ 4000 ∧ SealB (Fst s 35) = s
theorem sealed_fits {s : ByteArray} (h : Sealed s) : Fits (Fst s 35) :=
  ⟨by have := fst_size s 35; have := h.1; omega, fst_free s 35, by rw [h.2]; exact h.1⟩
theorem specVer_big (s : ByteArray) (w : World) (hs : s.size ≤ maxLen) (h : 4000 < s.size) :
    Calls Tryd.prog 20 #[.string s] w fun e w' => e = .returned (.tuple #[.string ByteArray.empty, .bool false]) ∧ Below w.heap.size w w' := by
  unfold maxLen at hs
  go_enter Tryd.func20, Tryd.ntmps20
  go_wp2_with fail
  go_ret2
  exact ⟨rfl, Below.refl _ _⟩
theorem split0_any (s : ByteArray) (c : UInt8) (n : Int) (hn : n = c.toNat) (w : World) (hs : s.size ≤ 1048576) :
    Calls Tryd.prog 36 #[.string s, .int .u8 n] w fun e w' => ∃ g m cap, e = .returned (.slice (some ⟨g, 0, none⟩) m cap) ∧ 0 < m ∧ m ≤ cap ∧ w'.cell? ⟨g, 0, none⟩ = some (.string (Fst s c)) ∧ Below w.heap.size w w' := by
  refine (l1Split_any s c n hn w hs).mono ?_
  rintro e w' ⟨v, rfl, hown, hb⟩
  have hf := parts_fst s c
  have hpos : 0 < (Parts s c).length := by
    rcases Nat.eq_zero_or_pos (Parts s c).length with h0 | h0
    · rw [List.length_eq_zero_iff.1 h0] at hf; cases hf
    · exact h0
  rcases hown.2 with ⟨_, h0⟩ | ⟨g, cap, cur, rfl, _, _, hle, _⟩
  · omega
  · refine ⟨g, _, cap, rfl, hpos, hle, ?_, hb⟩
    rw [hown.cellAt 0 (by omega), List.getElem?_map, hf]
    rfl
theorem specVer_yes (s : ByteArray) (w : World) (h : Sealed s) :
    Calls Tryd.prog 20 #[.string s] w fun e w' => e = .returned (.tuple #[.string (Fst s 35), .bool true]) ∧ Below w.heap.size w w' := by
  obtain ⟨h1, h2⟩ := h
  have hf := fst_size s 35
  have t1 : ((SealB (Fst s 35)).toList == s.toList) = true := by rw [h2]; simp
  clear h2
  go_enter Tryd.func20, Tryd.ntmps20
  go_wp2_with (first | (go_at_call 36; ((with_reducible refine (split0_any s 35 _ c35 _ (by omega)).mono ?_); rintro e w1 ⟨g, m, cap, rfl, hm, hmc, hc, hb1⟩)) | (go_at_call 34; ((with_reducible refine (l1Seal_any (Fst s 35) _ (by omega)).mono ?_); rintro e w2 ⟨rfl, j, rfl⟩)))
  go_ret2
  exact ⟨rfl, hb1.trans ((below_drewN' _ _).mono hb1.size)⟩
theorem specVer_no (s : ByteArray) (w : World) (h : s.size ≤ 4000) (h2 : SealB (Fst s 35) ≠ s) :
    Calls Tryd.prog 20 #[.string s] w fun e w' => e = .returned (.tuple #[.string ByteArray.empty, .bool false]) ∧ Below w.heap.size w w' := by
  have hf := fst_size s 35
  have t1 : ((SealB (Fst s 35)).toList == s.toList) = false := toList_ne h2
  clear h2
  go_enter Tryd.func20, Tryd.ntmps20
  go_wp2_with (first | (go_at_call 36; ((with_reducible refine (split0_any s 35 _ c35 _ (by omega)).mono ?_); rintro e w1 ⟨g, m, cap, rfl, hm, hmc, hc, hb1⟩)) | (go_at_call 34; ((with_reducible refine (l1Seal_any (Fst s 35) _ (by omega)).mono ?_); rintro e w2 ⟨rfl, j, rfl⟩)))
  go_ret2
  exact ⟨rfl, hb1.trans ((below_drewN' _ _).mono hb1.size)⟩
theorem cutCall (s : ByteArray) (w : World) (m : Int) (hs : s.size ≤ 1048576) (hm : w.cell? ⟨2, 0, none⟩ = some (.int .i64 m)) :
    Calls Tryd.prog 35 #[.string s, .string { data := #[35] }] w fun e w' => ∃ (r : ByteArray) (b : Bool), e = .returned (.tuple #[.string (Fst s 35), .string r, .bool b]) ∧ ∃ n, w' = w.drewN n := by
  refine (Tryd.strings_Cut s { data := #[35] } m w (by omega) hm).mono ?_
  rintro e w' ⟨rfl, hn⟩
  exact ⟨_, _, by rw [← cut_fst], hn⟩
theorem implVer_yes (s : ByteArray) (w : World) (m : Int) (h : Sealed s) (hm : w.cell? ⟨2, 0, none⟩ = some (.int .i64 m)) (htab : Lib.TabIs Tryd.prog w "internal/strconv.uint64pow10" .u64 Lib.pow10Tab) :
    Calls Tryd.prog 18 #[.string s] w fun e w' => e = .returned (.tuple #[.string (Fst s 35), .bool true]) ∧ Below w.heap.size w w' := by
  have HF := Lib.hid (sealed_fits h)
  obtain ⟨h1, h2⟩ := h
  have t1 : ((SealB (Fst s 35)).toList == s.toList) = true := by rw [h2]; simp
  have HT := Lib.hid htab
  have HM := Lib.hid hm
  clear h2 htab hm
  go_enter Tryd.func18, Tryd.ntmps18
  go_wp2_with (first | (go_at_call 35; ((with_reducible refine (cutCall s _ m (by omega) HM.out).mono ?_); rintro e w1 ⟨r, b, rfl, j, rfl⟩)) | (go_at_call 16; ((with_reducible refine (implApp_yes (Fst s 35) _ HF.out (Fr.tabIs_below (below_drewN' _ _) HT.out)).mono ?_); rintro e w2 ⟨rfl, hb2⟩)))
  go_ret2
  exact ⟨rfl, (below_drewN' _ _).trans hb2⟩
theorem implVer_no (s : ByteArray) (w : World) (m : Int) (hs : s.size ≤ 1048576) (h : ¬ Sealed s) (hm : w.cell? ⟨2, 0, none⟩ = some (.int .i64 m)) (htab : Lib.TabIs Tryd.prog w "internal/strconv.uint64pow10" .u64 Lib.pow10Tab) :
    Calls Tryd.prog 18 #[.string s] w fun e w' => e = .returned (.tuple #[.string ByteArray.empty, .bool false]) ∧ Below w.heap.size w w' := by
  have hf := fst_size s 35
  have HT := Lib.hid htab
  have HM := Lib.hid hm
  clear htab hm
  by_cases hF : Fits (Fst s 35)
  · have h2 : SealB (Fst s 35) ≠ s := by
      intro e
      exact h ⟨by have := hF.2.2; rwa [e] at this, e⟩
    have t1 : ((SealB (Fst s 35)).toList == s.toList) = false := toList_ne h2
    have HF := Lib.hid hF
    clear h2 h hF
    go_enter Tryd.func18, Tryd.ntmps18
    go_wp2_with (first | (go_at_call 35; ((with_reducible refine (cutCall s _ m hs HM.out).mono ?_); rintro e w1 ⟨r, b, rfl, j, rfl⟩)) | (go_at_call 16; ((with_reducible refine (implApp_yes (Fst s 35) _ HF.out (Fr.tabIs_below (below_drewN' _ _) HT.out)).mono ?_); rintro e w2 ⟨rfl, hb2⟩)))
    go_ret2
    exact ⟨rfl, (below_drewN' _ _).trans hb2⟩
  · have HF := Lib.hid hF
    clear h hF
    go_enter Tryd.func18, Tryd.ntmps18
    go_wp2_with (first | (go_at_call 35; ((with_reducible refine (cutCall s _ m hs HM.out).mono ?_); rintro e w1 ⟨r, b, rfl, j, rfl⟩)) | (go_at_call 16; ((with_reducible refine (implApp_no (Fst s 35) _ (by unfold maxLen; omega) HF.out (Fr.tabIs_below (below_drewN' _ _) HT.out)).mono ?_); rintro e w2 ⟨rfl, hb2⟩)))
    go_ret2
    exact ⟨rfl, (below_drewN' _ _).trans hb2⟩
end Go.Proofs.YtiieccpfnffcpaaDoor.L1
