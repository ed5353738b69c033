/- What spec.l2Guest answers. -/
import Derived.Test.YtcpfnihpheoiiaaFr1
namespace Go.Proofs.Ytcpfnihpheoiiaa.Fra
open Go.RowKit Go.Proofs.Ytcpfnihpheoiiaa.Mem Go.Proofs.Ytcpfnihpheoiiaa.Own Go.Proofs.Ytcpfnihpheoiiaa.L1
theorem l2Guest_any (A : Option Addr) (n c B : Nat) (zs : List Int) (o : Int) (w : World) (hr : Reads w B 1 A n (I zs)) (hn : n ≤ 1048576) (b : Bool) (hb : decide (GoodOw zs ∧ 1 ≤ o ∧ o ≤ 4) = b) :
    Calls Try.prog 73 #[.slice A n c, .int .i64 o] w fun e w' => e = .returned (.bool b) ∧ w = w' := by
  obtain ⟨g, hg⟩ : ∃ g, decide (GoodOw zs) = g := ⟨_, rfl⟩
  have HG := Lib.hid (l2Good_any A n c B zs w hr hn g hg)
  cases g with
  | false =>
    have HX : Hid (b = false) := Lib.hid (by rw [← hb]; exact decide_eq_false fun h => of_decide_eq_false hg h.1)
    clear hr hg hb
    go_enter Try.func73, Try.ntmps73
    go_wp2_with (go_at_call 66; refine HG.out.mono ?_; rintro e w1 ⟨rfl, rfl⟩)
    go_ret
    rw [HX.out]
    exact ⟨rfl, rfl⟩
  | true =>
    by_cases ho : 1 ≤ o ∧ o ≤ 4
    · have HX : Hid (b = true) := Lib.hid (by rw [← hb]; exact decide_eq_true ⟨of_decide_eq_true hg, ho⟩)
      clear hr hg hb
      go_enter Try.func73, Try.ntmps73
      go_wp2_with (first | (go_at_call 66; refine HG.out.mono ?_; rintro e w1 ⟨rfl, rfl⟩) | (go_at_call 79; refine (l1In_yes o 1 4 ho.1 ho.2 _).mono ?_; rintro e w1 ⟨rfl, rfl⟩))
      go_ret
      rw [HX.out]
      exact ⟨rfl, rfl⟩
    · have HX : Hid (b = false) := Lib.hid (by rw [← hb]; exact decide_eq_false fun h => ho h.2)
      have ho' : o < 1 ∨ 4 < o := by omega
      clear hr hg hb ho
      go_enter Try.func73, Try.ntmps73
      go_wp2_with (first | (go_at_call 66; refine HG.out.mono ?_; rintro e w1 ⟨rfl, rfl⟩) | (go_at_call 79; refine (l1In_no o 1 4 ho' _).mono ?_; rintro e w1 ⟨rfl, rfl⟩))
      go_ret
      rw [HX.out]
      exact ⟨rfl, rfl⟩
end Go.Proofs.Ytcpfnihpheoiiaa.Fra
