/- An element of a slice of Trap. -/
import Derived.Test.YtaamjnpknmimmaaDoorRows
import Derived.Test.YtaamjnpknmimmaaDoorTrpD
import Derived.Test.YtaamjnpknmimmaaDoorRow
namespace Go.Proofs.YtaamjnpknmimmaaDoor.L5
open Go Go.RowKit Go.Proofs.YtaamjnpknmimmaaDoor.Mem Go.Proofs.YtaamjnpknmimmaaDoor.Own
theorem infoTrp : (Tryd.prog.info? 26).map (fun i => (i.zero, i.size, i.bytes)) = some (some (.agg #[.int .i64 0, .int .i64 0, .bool false, .int .i64 0, .int .i64 0]), 5, 40) := by kernel_rfl
/-- an element of a slice of them -/
theorem trp_at {w : World} {B n k : Nat} {A : Option Addr} {xs : List Trp} (h : Reads w B 5 A n (FL xs)) (hk : k < n) :
    ∃ b off x, A = some ⟨b, off, none⟩ ∧ b < B ∧ xs[k]? = some x ∧ w.cell? ⟨b, off + k * 5, none⟩ = some (.int .i64 x.cause) ∧ w.cell? ⟨b, off + k * 5 + 1, none⟩ = some (.int .i64 x.width) ∧ w.cell? ⟨b, off + k * 5 + 2, none⟩ = some (.bool x.store) ∧ w.cell? ⟨b, off + k * 5 + 3, none⟩ = some (.int .i64 x.reg) ∧ w.cell? ⟨b, off + k * 5 + 4, none⟩ = some (.int .i64 x.info) := by
  obtain ⟨b, off, x, rfl, hb, hx, hc⟩ := reads_elem (α := Trp) h hk
  exact ⟨b, off, x, rfl, hb, hx, hc 0 _ rfl, hc 1 _ rfl, hc 2 _ rfl, hc 3 _ rfl, hc 4 _ rfl⟩
theorem set_trp {xs : List Trp} {ys : List Value} {k : Nat} {x : Trp} (hl : ys.length = xs.length * 5) (hx : xs[k]? = some x) (h : ys.take (k * 5) = (FL xs).take (k * 5)) :
    (((((ys.set (k * 5) (.int .i64 x.cause)).set (k * 5 + 1) (.int .i64 x.width)).set (k * 5 + 2) (.bool x.store)).set (k * 5 + 3) (.int .i64 x.reg)).set (k * 5 + 4) (.int .i64 x.info)).take ((k + 1) * 5) = (FL xs).take ((k + 1) * 5) := by
  have hL : (FL xs).length = xs.length * 5 := FL_len xs
  have a0 : (FL xs)[k * 5]? = some (.int .i64 x.cause) := FL_at (i := 0) hx rfl
  have a1 : (FL xs)[k * 5 + 1]? = some (.int .i64 x.width) := FL_at (i := 1) hx rfl
  have a2 : (FL xs)[k * 5 + 2]? = some (.bool x.store) := FL_at (i := 2) hx rfl
  have a3 : (FL xs)[k * 5 + 3]? = some (.int .i64 x.reg) := FL_at (i := 3) hx rfl
  have a4 : (FL xs)[k * 5 + 4]? = some (.int .i64 x.info) := FL_at (i := 4) hx rfl
  have s0 := set_take (FL xs) ys (k * 5) _ (by rw [hl, hL]) a0 h
  have s1 := set_take (FL xs) _ (k * 5 + 1) _ (by rw [List.length_set, hl, hL]) a1 s0
  have s2 := set_take (FL xs) _ (k * 5 + 2) _ (by rw [List.length_set, List.length_set, hl, hL]) a2 s1
  have s3 := set_take (FL xs) _ (k * 5 + 3) _ (by rw [List.length_set, List.length_set, List.length_set, hl, hL]) a3 s2
  have s4 := set_take (FL xs) _ (k * 5 + 4) _ (by rw [List.length_set, List.length_set, List.length_set, List.length_set, hl, hL]) a4 s3
  rw [show (k + 1) * 5 = k * 5 + 4 + 1 by omega]
  exact s4
end Go.Proofs.YtaamjnpknmimmaaDoor.L5
