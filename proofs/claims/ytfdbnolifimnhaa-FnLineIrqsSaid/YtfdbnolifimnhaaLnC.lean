/- What spec.l7Count answers. -/
import Derived.Test.YtfdbnolifimnhaaLnT
import Derived.Test.YtfdbnolifimnhaaLnQ
import Derived.Deep.Cut
namespace Go.Proofs.Ytfdbnolifimnhaa.L7
open Go Go.RowKit Go.Proofs.Ytfdbnolifimnhaa.Mem Go.Proofs.Ytfdbnolifimnhaa.Own Go.Proofs.Ytfdbnolifimnhaa.L6
set_option maxRecDepth 100000 in
set_option maxHeartbeats 4000000 in
theorem l7Count_any (A : Option Addr) (n c B : Nat) (xs : List Lin) (i z : Int) (w : World) (hr : Reads w B 4 A n (FL xs)) (hn : n ≤ 6) :
    Calls Try.prog 151 #[.slice A n c, .int .i64 i, .int .i64 z] w fun e w' => e = .returned (.int .i64 (cntK xs i z : Int)) ∧ w = w' := by
  have HL : Hid (xs.length = n) := Lib.hid (reads_len hr)
  have HR := Lib.hid hr
  clear hr
  go_enter Try.func151, Try.ntmps151
  go_wp2_with fail
  go_loop [7, 8] (fun u7 u8 => ∃ (k m : Nat), u8 = .int .i64 k ∧ k ≤ n ∧ u7 = .int .i64 m ∧ Hid (cntK (xs.take k) i z = m)) (fun _ u8 => n - (intOf u8).toNat)
  case atStart => exact ⟨0, 0, rfl, Nat.zero_le _, rfl, Lib.hid (by simp [cntK])⟩
  case round =>
    obtain ⟨k, m, rfl, hk, rfl, HM⟩ := hrel
    by_cases hlt : k < n
    · obtain ⟨b1, o1, x, rfl, hbB, hu, c0, c1, c2, c3⟩ := lin_at HR.out hlt
      have HC := Lib.hid (cntK_succ i z hu)
      have hm6 : m ≤ 6 := by have h1 := cntK_le (xs.take k) i z; rw [HM.out, List.length_take] at h1; omega
      clear hu
      obtain ⟨x0, x1, x2, x3⟩ := x
      simp only at c0 c1 c2 c3
      clear c2 c3
      by_cases h1 : x1 = i
      · have t1 : (x1 == i) = true := by simpa using h1
        by_cases h0 : x0 = z
        · have t0 : (x0 == z) = true := by simpa using h0
          have HC2 : Hid (cntK (xs.take (k + 1)) i z = m + 1) := Lib.hid (by rw [HC.out, HM.out, if_pos ⟨h1, h0⟩])
          clear h0 h1 HC HM
          go_wp2_with fail
          go_round
          case rel => exact ⟨k + 1, m + 1, by go_num, by omega, by go_num, HC2⟩
          case measure => simp [intOf]; omega
        · have t0 : (x0 == z) = false := by simpa using h0
          have HC2 : Hid (cntK (xs.take (k + 1)) i z = m) := Lib.hid (by rw [HC.out, HM.out, if_neg (fun hh => h0 hh.2)]; rfl)
          clear h0 h1 HC HM
          go_wp2_with fail
          go_round
          case rel => exact ⟨k + 1, m, by go_num, by omega, rfl, HC2⟩
          case measure => simp [intOf]; omega
      · have t1 : (x1 == i) = false := by simpa using h1
        have HC2 : Hid (cntK (xs.take (k + 1)) i z = m) := Lib.hid (by rw [HC.out, HM.out, if_neg (fun hh => h1 hh.1)]; rfl)
        clear h1 HC HM c0
        go_wp2_with fail
        go_round
        case rel => exact ⟨k + 1, m, by go_num, by omega, rfl, HC2⟩
        case measure => simp [intOf]; omega
    · have hkn : k = n := by omega
      subst hkn
      have hm := HM.out
      rw [List.take_of_length_le (by rw [HL.out]; exact Nat.le_refl _)] at hm
      have HM2 := Lib.hid hm
      clear hm HM
      go_wp2_with fail
      go_ret
      exact ⟨by rw [HM2.out]; rfl, rfl⟩
end Go.Proofs.Ytfdbnolifimnhaa.L7
