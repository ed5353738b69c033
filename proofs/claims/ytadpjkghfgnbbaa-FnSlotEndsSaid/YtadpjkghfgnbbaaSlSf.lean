/- What spec.l8Free answers. -/
import Derived.Test.YtadpjkghfgnbbaaSlS
namespace Go.Proofs.Ytadpjkghfgnbbaa.L8
open Go Go.RowKit Go.Proofs.Ytadpjkghfgnbbaa.Mem Go.Proofs.Ytadpjkghfgnbbaa.Own Go.Proofs.Ytadpjkghfgnbbaa.L6 Go.Proofs.Ytadpjkghfgnbbaa.L1

set_option maxRecDepth 100000 in
set_option maxHeartbeats 2000000 in
theorem l8Free_any (A : Option Addr) (n c B : Nat) (xs : List Slt) (w : World) (hr : Reads w B 3 A n (FL xs)) (hn : n ≤ 1048576) :
    Calls Try.prog 83 #[.slice A n c] w fun e w' => e = .returned (.int .i64 (fre xs)) ∧ w = w' := by
  have HL : Hid (xs.length = n) := Lib.hid (reads_len hr)
  have HR := Lib.hid hr
  obtain ⟨p, hp⟩ : ∃ p : Slt → Bool, (fun x => x.st == 0) = p := ⟨_, rfl⟩
  have HP : Hid (∀ x, p x = (x.st == 0)) := Lib.hid (by rw [← hp]; intro x; rfl)
  have HE : Hid (fre xs = ixOf p xs) := Lib.hid (by rw [← hp]; rfl)
  rw [HE.out]
  clear hr hp HE
  go_enter Try.func83, Try.ntmps83
  go_wp2_with fail
  go_loop [3] (fun u3 => ∃ k : Nat, u3 = .int .i64 k ∧ k ≤ n ∧ Hid ((xs.take k).any p = false)) (fun u3 => n - (intOf u3).toNat)
  case atStart => exact ⟨0, rfl, Nat.zero_le _, Lib.hid (by simp)⟩
  case round =>
    obtain ⟨k, rfl, hk, HA⟩ := hrel
    by_cases hlt : k < n
    · obtain ⟨b1, o1, x, rfl, _, hx, c0, c1, c2⟩ := slt_at HR.out hlt
      have HX := Lib.hid hx
      have HT := Lib.hid (any_takeS (p := p) hx)
      have HQ := Lib.hid (HP.out x)
      clear hx c1 c2
      obtain ⟨x0, x1, x2⟩ := x
      simp only at c0
      by_cases h0 : x0 = 0
      · subst h0
        have HF : Hid (ixOf p xs = k) := Lib.hid (ixOf_at HX.out HA.out (by rw [HQ.out]; rfl))
        clear HA HT HQ
        go_wp2_with fail
        go_ret
        exact ⟨by rw [HF.out]; rfl, rfl⟩
      · have t0 : (x0 == 0) = false := by simpa using h0
        have HA2 : Hid ((xs.take (k + 1)).any p = false) := Lib.hid (by rw [HT.out, HA.out, HQ.out]; simp only [t0, Bool.or_false])
        clear HA HT HQ h0
        go_wp2_with fail
        go_round
        case rel => exact ⟨k + 1, by go_num, by omega, HA2⟩
        case measure => simp [intOf]; omega
    · have hkn : k = n := by omega
      subst hkn
      have HF : Hid (ixOf p xs = -1) := Lib.hid (ixOf_no (by have h := HA.out; rwa [List.take_of_length_le (by rw [HL.out]; exact Nat.le_refl _)] at h))
      clear HA
      go_wp2_with fail
      go_ret
      exact ⟨by rw [HF.out]; rfl, rfl⟩
end Go.Proofs.Ytadpjkghfgnbbaa.L8
