/- What the laws' rSum answers. -/
import Derived.Test.YtaamjnpknmimmaaDoorRInt
namespace Go.Proofs.YtaamjnpknmimmaaDoor.Own
open Go.RowKit Go.Proofs.YtaamjnpknmimmaaDoor.Mem
theorem sum_take {zs : List Int} {k : Nat} {z : Int} (h : zs[k]? = some z) : (zs.take (k + 1)).sum = (zs.take k).sum + z := by
  rw [List.take_add_one, h, List.sum_append]
  simp
set_option maxHeartbeats 1000000 in
theorem rSum_any (A : Option Addr) (n c : Nat) (zs : List Int) (w : World) (hn : n ≤ 1048576) (hx : Reads w w.heap.size 1 A n (I zs)) (hb : ∀ k, k ≤ n → 0 ≤ (zs.take k).sum ∧ (zs.take k).sum ≤ 1000000) :
    Calls Tryd.prog 22 #[.slice A n c] w fun e w' => e = .returned (.int .i64 zs.sum) ∧ w = w' := by
  have HL : Hid (zs.length = n) := Lib.hid (by have := hx.len; rwa [I_len] at this)
  have HB := Lib.hid hb
  clear hb
  go_enter Tryd.func22, Tryd.ntmps22
  go_wp2
  go_loop [3, 4] (fun s i => ∃ (k : Nat) (t : Int), i = .int .i64 k ∧ s = .int .i64 t ∧ k ≤ n ∧ Hid ((zs.take k).sum = t)) (fun _ i => n - (intOf i).toNat)
  case atStart => exact ⟨0, 0, rfl, rfl, Nat.zero_le _, Lib.hid (by simp)⟩
  case round =>
    obtain ⟨k, t, rfl, rfl, hk, HT⟩ := hrel
    by_cases hlt : k < n
    · obtain ⟨b1, o1, z, rfl, _, hu, hc⟩ := hx.int_at hlt
      have h1 := HB.out k (by omega)
      have h2 := HB.out (k + 1) (by omega)
      have hs := sum_take hu
      rw [HT.out] at h1 hs
      rw [hs] at h2
      have HS := Lib.hid hs
      clear hu hs
      go_wp2
      go_round
      case rel => exact ⟨k + 1, t + z, by go_num, rfl, by omega, HS⟩
      case measure => simp [intOf]; omega
    · have hkn : k = n := by omega
      have hall : Hid (zs.sum = t) := Lib.hid (by have h := HT.out; rw [List.take_of_length_le (by rw [HL.out]; omega)] at h; exact h)
      subst hkn
      go_wp2
      go_ret
      exact ⟨by rw [hall.out]; rfl, rfl⟩
end Go.Proofs.YtaamjnpknmimmaaDoor.Own
