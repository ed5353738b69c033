/- What the laws' comparison of slices of numbers answers. -/
import Derived.Test.YtadpjkghfgnbbaaRows
import Derived.Test.YtadpjkghfgnbbaaOwn
import Derived.Test.YtadpjkghfgnbbaaInf
import Derived.Test.YtadpjkghfgnbbaaL1Pure
import Derived.Deep.QuietTactic
import Derived.BigQuiet
import Derived.Outline
namespace Go.Proofs.Ytadpjkghfgnbbaa.Own
open Go.RowKit Go.Proofs.Ytadpjkghfgnbbaa.Mem
set_option maxHeartbeats 1000000 in
theorem eqIntS_any (A A' : Option Addr) (n c n' c' B : Nat) (xs ys : List Int) (w : World) (hx : Reads w B 1 A n (I xs)) (hy : Reads w B 1 A' n' (I ys)) (hn : n ≤ 9223372036854775807) (hn' : n' ≤ 9223372036854775807) (b : Bool) (hb : decide (xs = ys) = b) :
    Calls Try.prog 42 #[.slice A n c, .slice A' n' c'] w fun e w' => e = .returned (.bool b) ∧ ∃ j, w' = w.drewN j := by
  have HX : Hid (xs.length = n) := Lib.hid (by have := hx.len; simpa [I] using this)
  have HY : Hid (ys.length = n') := Lib.hid (by have := hy.len; simpa [I] using this)
  have HB := Lib.hid hb
  clear hb
  by_cases hnn : n = n'
  · subst hnn
    go_enter Try.func42, Try.ntmps42
    go_wp2
    go_loopw [5] (fun i wr => ∃ (k j : Nat), i = .int .i64 k ∧ k ≤ n ∧ Hid (xs.take k = ys.take k) ∧ wr = w.drewN j) (fun i _ => n - (intOf i).toNat)
    case atStart => exact ⟨0, 0, rfl, Nat.zero_le _, Lib.hid (by simp), rfl⟩
    case round =>
      obtain ⟨k, j, rfl, hk, HT, rfl⟩ := hrel
      by_cases hlt : k < n
      · obtain ⟨b1, o1, x, rfl, _, hu, hc⟩ := hx.int_at hlt
        obtain ⟨b2, o2, y, rfl, _, hv, hc'⟩ := hy.int_at hlt
        by_cases he : x = y
        · subst he
          have HT2 := Lib.hid (take_eq_succ HT.out hu hv)
          clear hu hv HT
          go_wp2
          go_quiet (fail)
          go_wp2
          go_roundw
          case rel => exact ⟨k + 1, _, by go_num, by omega, HT2, rfl⟩
          case measure => simp [intOf]; omega
        · have hne : b = false := by
            rw [← HB.out]
            simp only [decide_eq_false_iff_not]
            intro e
            rw [e, hv] at hu
            exact he (Option.some.inj hu).symm
          have HN := Lib.hid hne
          have t1 : (x == y) = false := by simpa using he
          clear hu hv hne HT
          go_wp2
          go_quiet (fail)
          go_wp2
          go_ret
          rw [HN.out]
          exact ⟨rfl, j + nq, by rw [World.drewN_drewN]⟩
      · have hbt : b = true := by
          rw [← HB.out]
          have h := HT.out
          rw [List.take_of_length_le (by rw [HX.out]; omega), List.take_of_length_le (by rw [HY.out]; omega)] at h
          simpa using h
        have HN := Lib.hid hbt
        clear hbt HT
        go_wp2
        go_ret
        rw [HN.out]
        exact ⟨rfl, _, rfl⟩
  · have hne : b = false := by
      rw [← HB.out]
      simp only [decide_eq_false_iff_not]
      intro e
      rw [e, HY.out] at HX
      exact hnn HX.out.symm
    have HN := Lib.hid hne
    have t2 : ((n : Int) == n') = false := by simp; omega
    clear hne
    go_enter Try.func42, Try.ntmps42
    go_wp2
    go_ret
    rw [HN.out]
    exact ⟨rfl, 0, rfl⟩
end Go.Proofs.Ytadpjkghfgnbbaa.Own
