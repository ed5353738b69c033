/- What cmp.Compare and cmp.Or of numbers answer. -/
import Derived.Test.YtadpjkghfgnbbaaStep
import Derived.WalkKit
namespace Go.Proofs.Ytadpjkghfgnbbaa.Own
open Go Go.RowKit Go.Proofs.Ytadpjkghfgnbbaa.Mem
def cmpZ (x y : Int) : Int := if x < y then -1 else if y < x then 1 else 0
theorem isNaN_any (x : Int) (w : World) : Calls Try.prog 106 #[.int .i64 x] w fun e w' => e = .returned (.bool false) ∧ w = w' := by
  have h : (x != x) = false := by simp
  go_enter Try.func106, Try.ntmps106
  go_wp2
  go_ret
  exact ⟨by simp, rfl⟩
theorem compare_any (x y r : Int) (hr : cmpZ x y = r) (w : World) : Calls Try.prog 86 #[.int .i64 x, .int .i64 y] w fun e w' => e = .returned (.int .i64 r) ∧ w = w' := by
  subst hr
  unfold cmpZ
  by_cases h1 : x < y
  · rw [if_pos h1]
    go_enter Try.func86, Try.ntmps86
    go_wp2_with (go_at_call 106; refine (isNaN_any _ _).mono ?_; rintro e w1 ⟨rfl, rfl⟩)
    go_ret
    exact ⟨rfl, rfl⟩
  · rw [if_neg h1]
    by_cases h2 : y < x
    · rw [if_pos h2]
      go_enter Try.func86, Try.ntmps86
      go_wp2_with (go_at_call 106; refine (isNaN_any _ _).mono ?_; rintro e w1 ⟨rfl, rfl⟩)
      go_ret
      exact ⟨rfl, rfl⟩
    · rw [if_neg h2]
      go_enter Try.func86, Try.ntmps86
      go_wp2_with (go_at_call 106; refine (isNaN_any _ _).mono ?_; rintro e w1 ⟨rfl, rfl⟩)
      go_ret
      exact ⟨rfl, rfl⟩
set_option maxRecDepth 100000 in
theorem or_any (g : Nat) (a b r : Int) (hr : (if a = 0 then b else a) = r) (w : World) (c0 : w.cell? ⟨g, 0, none⟩ = some (.int .i64 a)) (c1 : w.cell? ⟨g, 1, none⟩ = some (.int .i64 b)) :
    Calls Try.prog 85 #[.slice (some ⟨g, 0, none⟩) 2 2] w fun e w' => e = .returned (.int .i64 r) ∧ w = w' := by
  have HR := Lib.hid hr
  clear hr
  go_enter Try.func85, Try.ntmps85
  go_wp2
  by_cases ha : a = 0
  · have HA : Hid (b = r) := Lib.hid (by rw [← HR.out, if_pos ha])
    clear HR
    subst ha
    go_loop [8] (fun i => ∃ k : Nat, i = .int .i64 k ∧ k ≤ 2 ∧ (k = 2 → b = 0)) (fun i => 2 - (intOf i).toNat)
    case atStart => exact ⟨0, rfl, Nat.zero_le _, by omega⟩
    case round =>
      obtain ⟨k, rfl, hk, hz⟩ := hrel
      have hk3 : k = 0 ∨ k = 1 ∨ k = 2 := by omega
      rcases hk3 with rfl | rfl | rfl
      · go_wp2
        go_round
        case rel => exact ⟨1, rfl, by omega, by omega⟩
        case measure => simp [intOf]
      · by_cases hb : b = 0
        · subst hb
          go_wp2
          go_round
          case rel => exact ⟨2, rfl, by omega, fun _ => by trivial⟩
          case measure => simp [intOf]
        · have hb2 : (b != 0) = true := by simpa using hb
          go_wp2
          go_ret
          exact ⟨by rw [← HA.out]; rfl, rfl⟩
      · have hb := hz rfl
        subst hb
        go_wp2
        go_ret
        exact ⟨by rw [← HA.out]; rfl, rfl⟩
  · have HA : Hid (a = r) := Lib.hid (by rw [← HR.out, if_neg ha])
    have ha2 : (a != 0) = true := by simpa using ha
    clear HR
    go_loop [8] (fun i => i = .int .i64 0) (fun _ => 1)
    case atStart => rfl
    case round =>
      subst hrel
      go_wp2
      go_ret
      exact ⟨by rw [← HA.out]; rfl, rfl⟩
end Go.Proofs.Ytadpjkghfgnbbaa.Own
