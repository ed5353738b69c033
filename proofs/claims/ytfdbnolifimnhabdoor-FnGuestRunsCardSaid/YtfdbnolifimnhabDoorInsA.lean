/- Instructions in slices: an element, four cells set. No program's functions. -/
import Derived.Test.YtfdbnolifimnhabDoorOp
import Derived.Test.YtfdbnolifimnhabDoorInsS
namespace Go.Proofs.YtfdbnolifimnhabDoor.L3
open Go Go.RowKit Go.Proofs.YtfdbnolifimnhabDoor.Mem Go.Proofs.YtfdbnolifimnhabDoor.Own
theorem insInfo : (Tryd.prog.info? 25).map (fun i => (i.zero, i.size, i.bytes)) = some (some (.agg #[.int .i64 0, .int .i64 0, .int .i64 0, .int .i64 0]), 4, 32) := by kernel_rfl
/-- an instruction in a slice of them -/
theorem ins_at {w : World} {B n k : Nat} {A : Option Addr} {xs : List Ins} (h : Reads w B 4 A n (FL xs)) (hk : k < n) :
    ∃ b off x, A = some ⟨b, off, none⟩ ∧ b < B ∧ xs[k]? = some x ∧ w.cell? ⟨b, off + k * 4, none⟩ = some (.int .i64 x.op) ∧ w.cell? ⟨b, off + k * 4 + 1, none⟩ = some (.int .i64 x.a) ∧ w.cell? ⟨b, off + k * 4 + 2, none⟩ = some (.int .i64 x.b) ∧ w.cell? ⟨b, off + k * 4 + 3, none⟩ = some (.int .i64 x.n) := by
  obtain ⟨b, off, x, rfl, hb, hx, hc⟩ := reads_elem (α := Ins) h hk
  exact ⟨b, off, x, rfl, hb, hx, hc 0 _ rfl, hc 1 _ rfl, hc 2 _ rfl, hc 3 _ rfl⟩
/-- four cells set behind k·4 -/
theorem set4_take {xs : List Ins} {ys : List Value} {k : Nat} {x : Ins} (hl : ys.length = xs.length * 4) (hx : xs[k]? = some x) (h : ys.take (k * 4) = (FL xs).take (k * 4)) :
    ((((ys.set (k * 4) (.int .i64 x.op)).set (k * 4 + 1) (.int .i64 x.a)).set (k * 4 + 2) (.int .i64 x.b)).set (k * 4 + 3) (.int .i64 x.n)).take ((k + 1) * 4) = (FL xs).take ((k + 1) * 4) := by
  have hL : (FL xs).length = xs.length * 4 := FL_len xs
  have a0 : (FL xs)[k * 4]? = some (.int .i64 x.op) := FL_at (i := 0) hx rfl
  have a1 : (FL xs)[k * 4 + 1]? = some (.int .i64 x.a) := FL_at (i := 1) hx rfl
  have a2 : (FL xs)[k * 4 + 2]? = some (.int .i64 x.b) := FL_at (i := 2) hx rfl
  have a3 : (FL xs)[k * 4 + 3]? = some (.int .i64 x.n) := FL_at (i := 3) hx rfl
  have s0 := set_take (FL xs) ys (k * 4) _ (by rw [hl, hL]) a0 h
  have s1 := set_take (FL xs) _ (k * 4 + 1) _ (by rw [List.length_set, hl, hL]) a1 s0
  have s2 := set_take (FL xs) _ (k * 4 + 2) _ (by rw [List.length_set, List.length_set, hl, hL]) a2 s1
  have s3 := set_take (FL xs) _ (k * 4 + 3) _ (by rw [List.length_set, List.length_set, List.length_set, hl, hL]) a3 s2
  rw [show (k + 1) * 4 = k * 4 + 3 + 1 by omega]
  exact s3
end Go.Proofs.YtfdbnolifimnhabDoor.L3
