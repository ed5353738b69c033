/- What impl.RaisedIrqs answers. -/
import Derived.Test.YtfdbnolifimnhaaLnF
namespace Go.Proofs.Ytfdbnolifimnhaa.L7
open Go Go.RowKit Go.Proofs.Ytfdbnolifimnhaa.Mem Go.Proofs.Ytfdbnolifimnhaa.Own Go.Proofs.Ytfdbnolifimnhaa.L6
theorem raised_tells (w : World) : TellsL 145 #[] (fun x => x.ra) w := by
  intro x0 x1 x2 x3 w' _
  show Calls Try.prog 145 #[.agg #[.int .i64 x0, .int .i64 x1, .bool x2, .bool x3]] w' _
  go_enter Try.func145, Try.ntmps145
  go_wp2_with fail
  go_ret
  exact ⟨rfl, below_more (Below.refl _ _) _⟩
theorem raised1_enters : ∀ args w, (callFunc 145 args).run Try.prog w = .ok (.enter 145 args) w := enters_of Try.func145 (by kernel_rfl) rfl
theorem raised_asks : Asks 143 pRa := by
  intro A n c l w hn hr
  have HR := Lib.hid hr
  clear hr
  go_enter Try.func143, Try.ntmps143
  go_wp2_with fail
  refine (containsFunc_any A n c _ #[] _ raised1_enters l _ HR.out (by omega) (raised_tells _)).mono ?_
  rintro e w1 ⟨rfl, hb⟩
  go_wp2_with fail
  go_ret
  exact ⟨rfl, hb⟩
theorem raised_enters : ∀ args w, (callFunc 143 args).run Try.prog w = .ok (.enter 143 args) w := enters_of Try.func143 (by kernel_rfl) rfl
theorem implRaised_any (A : Option Addr) (n c : Nat) (xs : List Lin) (w : World) (hr : Reads w w.heap.size 4 A n (FL xs)) (hn : n ≤ 1048576) (l : List Nat) (b : Bool) (h : iqAns pRa xs = (l, b)) :
    Calls Try.prog 65 #[.slice A n c] w (NatPost w l b) := by
  have HR := Lib.hid hr
  have HH := Lib.hid h
  clear hr h
  go_enter Try.func65, Try.ntmps65
  go_wp2_with fail
  refine (irqsWhose_any _ pRa raised_asks raised_enters A n c xs _ HR.out hn l b HH.out).mono ?_
  rintro e w1 ⟨A', c', rfl, hown, hb⟩
  go_wp2_with fail
  go_ret2
  exact ⟨A', c', rfl, hown, hb⟩
end Go.Proofs.Ytfdbnolifimnhaa.L7
