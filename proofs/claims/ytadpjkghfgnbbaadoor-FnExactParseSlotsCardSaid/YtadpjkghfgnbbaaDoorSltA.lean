/- An element of a slice of Slot. -/
import Derived.Test.YtadpjkghfgnbbaaDoorRows
import Derived.Test.YtadpjkghfgnbbaaDoorSltD
import Derived.Test.YtadpjkghfgnbbaaDoorRow
namespace Go.Proofs.YtadpjkghfgnbbaaDoor.L8
open Go Go.RowKit Go.Proofs.YtadpjkghfgnbbaaDoor.Mem Go.Proofs.YtadpjkghfgnbbaaDoor.Own
theorem infoSlt : (Tryd.prog.info? 37).map (fun i => (i.zero, i.size, i.bytes)) = some (some (.agg #[.int .i64 0, .int .i64 0, .int .i64 0]), 3, 24) := by kernel_rfl
/-- an element of a slice of them -/
theorem slt_at {w : World} {B n k : Nat} {A : Option Addr} {xs : List Slt} (h : Reads w B 3 A n (FL xs)) (hk : k < n) :
    ∃ b off x, A = some ⟨b, off, none⟩ ∧ b < B ∧ xs[k]? = some x ∧ w.cell? ⟨b, off + k * 3, none⟩ = some (.int .i64 x.st) ∧ w.cell? ⟨b, off + k * 3 + 1, none⟩ = some (.int .i64 x.iq) ∧ w.cell? ⟨b, off + k * 3 + 2, none⟩ = some (.int .i64 x.pr) := by
  obtain ⟨b, off, x, rfl, hb, hx, hc⟩ := reads_elem (α := Slt) h hk
  exact ⟨b, off, x, rfl, hb, hx, hc 0 _ rfl, hc 1 _ rfl, hc 2 _ rfl⟩
theorem set_slt {xs : List Slt} {ys : List Value} {k : Nat} {x : Slt} (hl : ys.length = xs.length * 3) (hx : xs[k]? = some x) (h : ys.take (k * 3) = (FL xs).take (k * 3)) :
    (((ys.set (k * 3) (.int .i64 x.st)).set (k * 3 + 1) (.int .i64 x.iq)).set (k * 3 + 2) (.int .i64 x.pr)).take ((k + 1) * 3) = (FL xs).take ((k + 1) * 3) := by
  have hL : (FL xs).length = xs.length * 3 := FL_len xs
  have a0 : (FL xs)[k * 3]? = some (.int .i64 x.st) := FL_at (i := 0) hx rfl
  have a1 : (FL xs)[k * 3 + 1]? = some (.int .i64 x.iq) := FL_at (i := 1) hx rfl
  have a2 : (FL xs)[k * 3 + 2]? = some (.int .i64 x.pr) := FL_at (i := 2) hx rfl
  have s0 := set_take (FL xs) ys (k * 3) _ (by rw [hl, hL]) a0 h
  have s1 := set_take (FL xs) _ (k * 3 + 1) _ (by rw [List.length_set, hl, hL]) a1 s0
  have s2 := set_take (FL xs) _ (k * 3 + 2) _ (by rw [List.length_set, List.length_set, hl, hL]) a2 s1
  rw [show (k + 1) * 3 = k * 3 + 2 + 1 by omega]
  exact s2
end Go.Proofs.YtadpjkghfgnbbaaDoor.L8
