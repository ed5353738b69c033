/- What impl.areWords and spec.l5Registers answer. -/
import Derived.Test.YtaamjnpknmimmaaTrap
import Derived.Test.YtaamjnpknmimmaaIsB
import Derived.Test.YtaamjnpknmimmaaIn
import Derived.Test.YtaamjnpknmimmaaStep
namespace Go.Proofs.Ytaamjnpknmimmaa.L5
open Go Go.RowKit Go.Proofs.Ytaamjnpknmimmaa.Mem Go.Proofs.Ytaamjnpknmimmaa.Own Go.Proofs.Ytaamjnpknmimmaa.L1
theorem all_one_more {α : Type} {xs : List α} {k : Nat} {x : α} {p : α → Prop} (h : ∀ x ∈ xs.take k, p x) (hz : xs[k]? = some x) (hp : p x) : ∀ x ∈ xs.take (k + 1), p x := by
  intro y hy
  rw [List.take_add_one, hz] at hy
  simp at hy
  rcases hy with h1 | h1
  · exact h y h1
  · rw [h1]; exact hp
set_option maxRecDepth 100000 in
set_option maxHeartbeats 2000000 in
theorem areWords5_any (A : Option Addr) (n c B : Nat) (zs : List Int) (w : World) (hr : Reads w B 1 A n (I zs)) (hn : n ≤ 1048576) (b : Bool) (hb : decide (Words zs) = b) :
    Calls Try.prog 55 #[.slice A n c] w fun e w' => e = .returned (.bool b) ∧ w = w' := by
  have HL : Hid (zs.length = n) := Lib.hid (by have := hr.len; simpa [I] using this)
  have HB := Lib.hid hb
  clear hb
  by_cases h4 : n = 4
  · subst h4
    go_enter Try.func55, Try.ntmps55
    go_wp2
    go_loop [10] (fun i => ∃ k : Nat, i = .int .i64 k ∧ k ≤ 4 ∧ Hid (∀ z ∈ zs.take k, 0 ≤ z ∧ z ≤ 65535)) (fun i => 4 - (intOf i).toNat)
    case atStart => exact ⟨0, rfl, Nat.zero_le _, Lib.hid (by simp)⟩
    case round =>
      obtain ⟨k, rfl, hk, HK⟩ := hrel
      by_cases hlt : k < 4
      · obtain ⟨b1, o1, z, rfl, _, hu, hc⟩ := hr.int_at hlt
        have HU := Lib.hid hu
        clear hu
        by_cases hz : 0 ≤ z ∧ z < 65536
        · go_wp2_with fail
          refine (isBelow_yes z 65536 hz.1 hz.2 _).mono ?_
          rintro e w1 ⟨rfl, rfl⟩
          go_wp2_with fail
          go_round
          case rel => exact ⟨k + 1, by go_num, by omega, Lib.hid (all_one_more HK.out HU.out (by omega))⟩
          case measure => simp [intOf]; omega
        · go_wp2_with fail
          refine (isBelow_no z 65536 (by omega) _).mono ?_
          rintro e w1 ⟨rfl, rfl⟩
          go_wp2_with fail
          go_ret
          refine ⟨?_, rfl⟩
          rw [show b = false by rw [← HB.out]; exact decide_eq_false (fun h => by have := h.2 z (List.mem_of_getElem? HU.out); omega)]
          rfl
      · have hkn : k = 4 := by omega
        go_wp2
        go_ret
        refine ⟨?_, rfl⟩
        have hall := HK.out
        rw [List.take_of_length_le (by rw [HL.out]; omega)] at hall
        rw [show b = true by rw [← HB.out]; exact decide_eq_true ⟨by rw [HL.out], hall⟩]
        rfl
  · have hf : b = false := by
      rw [← HB.out]
      refine decide_eq_false fun h' => h4 ?_
      rw [← HL.out]
      exact h'.1
    have HF := Lib.hid hf
    clear hf
    go_enter Try.func55, Try.ntmps55
    go_wp2
    go_ret
    rw [HF.out]
    exact ⟨rfl, rfl⟩
set_option maxRecDepth 100000 in
set_option maxHeartbeats 2000000 in
theorem l5Registers_any (A : Option Addr) (n c B : Nat) (zs : List Int) (w : World) (hr : Reads w B 1 A n (I zs)) (hn : n ≤ 1048576) (b : Bool) (hb : decide (Words zs) = b) :
    Calls Try.prog 52 #[.slice A n c] w fun e w' => e = .returned (.bool b) ∧ w = w' := by
  have HL : Hid (zs.length = n) := Lib.hid (by have := hr.len; simpa [I] using this)
  have HB := Lib.hid hb
  clear hb
  go_enter Try.func52, Try.ntmps52
  go_wp2
  go_loop [3] (fun i => ∃ k : Nat, i = .int .i64 k ∧ k ≤ n ∧ Hid (∀ z ∈ zs.take k, 0 ≤ z ∧ z ≤ 65535)) (fun i => n - (intOf i).toNat)
  case atStart => exact ⟨0, rfl, Nat.zero_le _, Lib.hid (by simp)⟩
  case round =>
    obtain ⟨k, rfl, hk, HK⟩ := hrel
    by_cases hlt : k < n
    · obtain ⟨b1, o1, z, rfl, _, hu, hc⟩ := hr.int_at hlt
      have HU := Lib.hid hu
      clear hu
      by_cases hz : 0 ≤ z ∧ z ≤ 65535
      · go_wp2_with fail
        refine (l1In_yes z 0 65535 hz.1 hz.2 _).mono ?_
        rintro e w1 ⟨rfl, rfl⟩
        go_wp2_with fail
        go_round
        case rel => exact ⟨k + 1, by go_num, by omega, Lib.hid (all_one_more HK.out HU.out (by omega))⟩
        case measure => simp [intOf]; omega
      · go_wp2_with fail
        refine (l1In_no z 0 65535 (by omega) _).mono ?_
        rintro e w1 ⟨rfl, rfl⟩
        go_wp2_with fail
        go_ret
        refine ⟨?_, rfl⟩
        rw [show b = false by rw [← HB.out]; exact decide_eq_false (fun h => by have := h.2 z (List.mem_of_getElem? HU.out); omega)]
        rfl
    · have hkn : k = n := by omega
      have hall := HK.out
      rw [List.take_of_length_le (by rw [HL.out]; omega)] at hall
      have HF : Hid (((n : Int) == 4) = b) := Lib.hid (by
        rw [← HB.out, Bool.eq_iff_iff]
        simp only [beq_iff_eq, decide_eq_true_eq]
        have hl := HL.out
        constructor
        · intro h; exact ⟨by omega, hall⟩
        · intro h; have := h.1; omega)
      clear hall
      subst hkn
      go_wp2
      go_ret
      first
        | exact ⟨rfl, rfl⟩
        | exact ⟨by rw [HF.out]; rfl, rfl⟩
end Go.Proofs.Ytaamjnpknmimmaa.L5
