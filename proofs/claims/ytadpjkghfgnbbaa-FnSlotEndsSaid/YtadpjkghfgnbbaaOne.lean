/- What the draws' cursor answers: one. -/
import Derived.Test.YtadpjkghfgnbbaaCur0
namespace Go.Proofs.Ytadpjkghfgnbbaa.Draw
open Go.RowKit Go.Proofs.Ytadpjkghfgnbbaa.Mem
set_option linter.unusedVariables false
set_option maxHeartbeats 1000000 in
theorem one_any (w : World) (g B : Nat) (A : Option Addr) (n cp : Nat) (zs : List Int) (t : Nat) (hz : ∀ z ∈ zs, 0 ≤ z ∧ z ≤ 255) (hc : Cur w g B A n cp zs t) (ht : t ≤ 900000) (hn : n ≤ 1000000) (m : Int) (hm0 : 1 ≤ m) (hm : m ≤ 60000) :
    Calls Try.prog 47 #[.pointer (some ⟨g, 0, none⟩), .int .i64 m] w fun e w' => ∃ b : Bool, e = .returned (.bool b) ∧ (∃ t', t' ≤ t + 2 ∧ Cur w' g B A n cp zs t') ∧ w.grownBy w' (some g) := by
  have HC := Lib.hid hc
  have HZ := Lib.hid hz
  clear hc hz
  go_enter Try.func47, Try.ntmps47
  go_wp2_with fail
  refine (pick_any _ g B A n cp zs t HZ.out HC.out ht hn m hm0 hm).mono ?_
  rintro e w1 ⟨x, rfl, hx0, hx1, hc1, hg1⟩
  have HC1 := Lib.hid hc1
  have HG1 := Lib.hid hg1
  clear hc1 hg1
  go_wp2_with fail
  go_ret
  exact ⟨_, rfl, HC1.out, HG1.out⟩
end Go.Proofs.Ytadpjkghfgnbbaa.Draw
