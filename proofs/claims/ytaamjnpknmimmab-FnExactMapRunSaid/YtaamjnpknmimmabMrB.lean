/- MapRun's contracts as the law wants them. -/
import Derived.Test.YtaamjnpknmimmabMrI
import Derived.Test.YtaamjnpknmimmabMrS
namespace Go.Proofs.Ytaamjnpknmimmab.L4
open Go Go.RowKit Go.Proofs.Ytaamjnpknmimmab.Mem Go.Proofs.Ytaamjnpknmimmab.Own Go.Proofs.Ytaamjnpknmimmab.L1
theorem implRun_n (A : Option Addr) (n c : Nat) (D : Option Addr) (m d : Nat) (page frame count : Int) (write : Bool) (t : Tab) (w : World) (hr : ReadsT w w.heap.size A n D m t) (hs : Small t) (hnc : n ≤ c) (hp : -9223372036854775808 ≤ page ∧ page ≤ 9223372036854775807) (hf : -9223372036854775808 ≤ frame ∧ frame ≤ 9223372036854775807) (T : Tab) (b : Bool) (hT : runOf t page frame count write = (T, b)) :
    Calls Try.prog 21 #[.agg #[.slice A n c, .slice D m d], .int .i64 page, .int .i64 frame, .int .i64 count, .bool write] w (MrPost w T b) := by
  obtain rfl := hr.dlen
  obtain rfl := hr.leaves.len
  exact implRun_any A c D d page frame count write t w hr hs hnc hp hf T b hT
theorem specRun_n (A : Option Addr) (n c : Nat) (D : Option Addr) (m d : Nat) (page frame count : Int) (write : Bool) (t : Tab) (w : World) (hr : ReadsT w w.heap.size A n D m t) (hs : Small t) (hnc : n ≤ c) (hp : -9223372036854775808 ≤ page ∧ page ≤ 9223372036854775807) (hf : -9223372036854775808 ≤ frame ∧ frame ≤ 9223372036854775807) (T : Tab) (b : Bool) (hT : runOf t page frame count write = (T, b)) :
    Calls Try.prog 20 #[.agg #[.slice A n c, .slice D m d], .int .i64 page, .int .i64 frame, .int .i64 count, .bool write] w (MrPost w T b) := by
  obtain rfl := hr.dlen
  obtain rfl := hr.leaves.len
  exact specRun_any A c D d page frame count write t w hr hs hnc hp hf T b hT
end Go.Proofs.Ytaamjnpknmimmab.L4
