/- An element of a slice of Irq. -/
import Derived.Test.YtclnhdjnmfkeaaaRows
import Derived.Test.YtclnhdjnmfkeaaaIrqD
import Derived.Test.YtclnhdjnmfkeaaaRow
namespace Go.Proofs.Ytclnhdjnmfkeaaa.L6
open Go Go.RowKit Go.Proofs.Ytclnhdjnmfkeaaa.Mem Go.Proofs.Ytclnhdjnmfkeaaa.Own
theorem infoIrq : (Try.prog.info? 53).map (fun i => (i.zero, i.size, i.bytes)) = some (some (.agg #[.bool false, .bool false, .bool false, .int .i64 0, .int .i64 0]), 5, 24) := by kernel_rfl
/-- an element of a slice of them -/
theorem irq_at {w : World} {B n k : Nat} {A : Option Addr} {xs : List Irq} (h : Reads w B 5 A n (FL xs)) (hk : k < n) :
    ∃ b off x, A = some ⟨b, off, none⟩ ∧ b < B ∧ xs[k]? = some x ∧ w.cell? ⟨b, off + k * 5, none⟩ = some (.bool x.en) ∧ w.cell? ⟨b, off + k * 5 + 1, none⟩ = some (.bool x.pe) ∧ w.cell? ⟨b, off + k * 5 + 2, none⟩ = some (.bool x.ac) ∧ w.cell? ⟨b, off + k * 5 + 3, none⟩ = some (.int .i64 x.pr) ∧ w.cell? ⟨b, off + k * 5 + 4, none⟩ = some (.int .i64 x.tg) := by
  obtain ⟨b, off, x, rfl, hb, hx, hc⟩ := reads_elem (α := Irq) h hk
  exact ⟨b, off, x, rfl, hb, hx, hc 0 _ rfl, hc 1 _ rfl, hc 2 _ rfl, hc 3 _ rfl, hc 4 _ rfl⟩
theorem set_irq {xs : List Irq} {ys : List Value} {k : Nat} {x : Irq} (hl : ys.length = xs.length * 5) (hx : xs[k]? = some x) (h : ys.take (k * 5) = (FL xs).take (k * 5)) :
    (((((ys.set (k * 5) (.bool x.en)).set (k * 5 + 1) (.bool x.pe)).set (k * 5 + 2) (.bool x.ac)).set (k * 5 + 3) (.int .i64 x.pr)).set (k * 5 + 4) (.int .i64 x.tg)).take ((k + 1) * 5) = (FL xs).take ((k + 1) * 5) := by
  have hL : (FL xs).length = xs.length * 5 := FL_len xs
  have a0 : (FL xs)[k * 5]? = some (.bool x.en) := FL_at (i := 0) hx rfl
  have a1 : (FL xs)[k * 5 + 1]? = some (.bool x.pe) := FL_at (i := 1) hx rfl
  have a2 : (FL xs)[k * 5 + 2]? = some (.bool x.ac) := FL_at (i := 2) hx rfl
  have a3 : (FL xs)[k * 5 + 3]? = some (.int .i64 x.pr) := FL_at (i := 3) hx rfl
  have a4 : (FL xs)[k * 5 + 4]? = some (.int .i64 x.tg) := FL_at (i := 4) hx rfl
  have s0 := set_take (FL xs) ys (k * 5) _ (by rw [hl, hL]) a0 h
  have s1 := set_take (FL xs) _ (k * 5 + 1) _ (by rw [List.length_set, hl, hL]) a1 s0
  have s2 := set_take (FL xs) _ (k * 5 + 2) _ (by rw [List.length_set, List.length_set, hl, hL]) a2 s1
  have s3 := set_take (FL xs) _ (k * 5 + 3) _ (by rw [List.length_set, List.length_set, List.length_set, hl, hL]) a3 s2
  have s4 := set_take (FL xs) _ (k * 5 + 4) _ (by rw [List.length_set, List.length_set, List.length_set, List.length_set, hl, hL]) a4 s3
  rw [show (k + 1) * 5 = k * 5 + 4 + 1 by omega]
  exact s4
end Go.Proofs.Ytclnhdjnmfkeaaa.L6
