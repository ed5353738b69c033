/- An element of a slice of Line. -/
import Derived.Test.YtfdbnolifimnhaaRows
import Derived.Test.YtfdbnolifimnhaaLinD
import Derived.Test.YtfdbnolifimnhaaRow
namespace Go.Proofs.Ytfdbnolifimnhaa.L7
open Go Go.RowKit Go.Proofs.Ytfdbnolifimnhaa.Mem Go.Proofs.Ytfdbnolifimnhaa.Own
theorem infoLin : (Try.prog.info? 58).map (fun i => (i.zero, i.size, i.bytes)) = some (some (.agg #[.int .i64 0, .int .i64 0, .bool false, .bool false]), 4, 24) := by kernel_rfl
/-- an element of a slice of them -/
theorem lin_at {w : World} {B n k : Nat} {A : Option Addr} {xs : List Lin} (h : Reads w B 4 A n (FL xs)) (hk : k < n) :
    ∃ b off x, A = some ⟨b, off, none⟩ ∧ b < B ∧ xs[k]? = some x ∧ w.cell? ⟨b, off + k * 4, none⟩ = some (.int .i64 x.ki) ∧ w.cell? ⟨b, off + k * 4 + 1, none⟩ = some (.int .i64 x.iq) ∧ w.cell? ⟨b, off + k * 4 + 2, none⟩ = some (.bool x.hi) ∧ w.cell? ⟨b, off + k * 4 + 3, none⟩ = some (.bool x.ra) := by
  obtain ⟨b, off, x, rfl, hb, hx, hc⟩ := reads_elem (α := Lin) h hk
  exact ⟨b, off, x, rfl, hb, hx, hc 0 _ rfl, hc 1 _ rfl, hc 2 _ rfl, hc 3 _ rfl⟩
theorem set_lin {xs : List Lin} {ys : List Value} {k : Nat} {x : Lin} (hl : ys.length = xs.length * 4) (hx : xs[k]? = some x) (h : ys.take (k * 4) = (FL xs).take (k * 4)) :
    ((((ys.set (k * 4) (.int .i64 x.ki)).set (k * 4 + 1) (.int .i64 x.iq)).set (k * 4 + 2) (.bool x.hi)).set (k * 4 + 3) (.bool x.ra)).take ((k + 1) * 4) = (FL xs).take ((k + 1) * 4) := by
  have hL : (FL xs).length = xs.length * 4 := FL_len xs
  have a0 : (FL xs)[k * 4]? = some (.int .i64 x.ki) := FL_at (i := 0) hx rfl
  have a1 : (FL xs)[k * 4 + 1]? = some (.int .i64 x.iq) := FL_at (i := 1) hx rfl
  have a2 : (FL xs)[k * 4 + 2]? = some (.bool x.hi) := FL_at (i := 2) hx rfl
  have a3 : (FL xs)[k * 4 + 3]? = some (.bool x.ra) := FL_at (i := 3) hx rfl
  have s0 := set_take (FL xs) ys (k * 4) _ (by rw [hl, hL]) a0 h
  have s1 := set_take (FL xs) _ (k * 4 + 1) _ (by rw [List.length_set, hl, hL]) a1 s0
  have s2 := set_take (FL xs) _ (k * 4 + 2) _ (by rw [List.length_set, List.length_set, hl, hL]) a2 s1
  have s3 := set_take (FL xs) _ (k * 4 + 3) _ (by rw [List.length_set, List.length_set, List.length_set, hl, hL]) a3 s2
  rw [show (k + 1) * 4 = k * 4 + 3 + 1 by omega]
  exact s3
end Go.Proofs.Ytfdbnolifimnhaa.L7
