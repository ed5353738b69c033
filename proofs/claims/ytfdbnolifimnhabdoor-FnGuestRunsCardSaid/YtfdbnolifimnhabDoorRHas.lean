/- What laws.rHas answers. -/
import Derived.Test.YtfdbnolifimnhabDoorStepO
import Derived.Test.YtfdbnolifimnhabDoorInf
namespace Go.Proofs.YtfdbnolifimnhabDoor.Own
open Go Go.RowKit Go.Proofs.YtfdbnolifimnhabDoor.Mem
set_option maxRecDepth 100000 in
set_option maxHeartbeats 1000000 in
theorem rHas_any (A : Option Addr) (n c B : Nat) (zs : List Int) (x : Int) (w : World) (hr : Reads w B 1 A n (I zs)) (hn : n ≤ 1048576) (b : Bool) (hb : decide (x ∈ zs) = b) :
    Calls Tryd.prog 26 #[.slice A n c, .int .i64 x] w fun e w' => e = .returned (.bool b) ∧ w = w' := by
  have HL : Hid (zs.length = n) := Lib.hid (by have := hr.len; simpa [I] using this)
  have HB := Lib.hid hb
  clear hb
  go_enter Tryd.func26, Tryd.ntmps26
  go_wp2
  go_loop [5] (fun i => ∃ k : Nat, i = .int .i64 k ∧ k ≤ n ∧ Hid (∀ z ∈ zs.take k, z ≠ x)) (fun i => n - (intOf i).toNat)
  case atStart => exact ⟨0, rfl, Nat.zero_le _, Lib.hid (by simp)⟩
  case round =>
    obtain ⟨k, rfl, hk, HK⟩ := hrel
    by_cases hlt : k < n
    · obtain ⟨b1, o1, z, rfl, _, hu, hc⟩ := hr.int_at hlt
      have HU := Lib.hid hu
      clear hu
      by_cases hz : z = x
      · subst hz
        go_wp2
        go_ret
        refine ⟨?_, rfl⟩
        rw [show b = true by rw [← HB.out]; exact decide_eq_true (List.mem_of_getElem? HU.out)]
        rfl
      · have hne : (z == x) = false := by simpa using hz
        go_wp2
        go_round
        case rel =>
          refine ⟨k + 1, by go_num, by omega, Lib.hid ?_⟩
          intro y hy
          rw [List.take_add_one, HU.out] at hy
          rcases List.mem_append.1 hy with h1 | h1
          · exact HK.out y h1
          · simp at h1; subst h1; exact hz
        case measure => simp [intOf]; omega
    · have hkn : k = n := by omega
      subst hkn
      go_wp2
      go_ret
      refine ⟨?_, rfl⟩
      have hall := HK.out
      rw [List.take_of_length_le (by rw [HL.out]; exact Nat.le_refl _)] at hall
      rw [show b = false by rw [← HB.out]; exact decide_eq_false (fun h => hall x h rfl)]
      rfl
end Go.Proofs.YtfdbnolifimnhabDoor.Own
