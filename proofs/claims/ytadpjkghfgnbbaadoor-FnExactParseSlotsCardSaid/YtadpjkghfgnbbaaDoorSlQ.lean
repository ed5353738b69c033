/- An array of four slots as an owned row; answers of two or three parts. -/
import Derived.Test.YtadpjkghfgnbbaaDoorSlA
import Derived.Test.YtadpjkghfgnbbaaDoorSltT
import Derived.BigQuiet
import Derived.Laws.Cover3
namespace Go.Proofs.YtadpjkghfgnbbaaDoor.L8
open Go Go.RowKit Go.Proofs.YtadpjkghfgnbbaaDoor.Mem Go.Proofs.YtadpjkghfgnbbaaDoor.Own Go.Proofs.YtadpjkghfgnbbaaDoor.L6
/-- an array of four slots, as a slice of the call's own -/
theorem own_arr {w : World} {g base : Nat} {t : TypeId} {xs : List Slt} (h : Blk w g t (FL xs).toArray) (h4 : xs.length = 4) (hb : base ≤ g) : w.ownsRow base t 3 (.slice (some ⟨g, 0, none⟩) 4 4) 4 (FL xs) := by
  have hl : (FL xs).length = 12 := by rw [FL_len, h4]; rfl
  have ht : ((FL xs).toArray.toList).take (4 * 3) = FL xs := by
    rw [List.toList_toArray]
    exact List.take_of_length_le (by rw [hl]; exact Nat.le_refl _)
  exact ⟨hl, .inr ⟨g, 4, (FL xs).toArray, rfl, hb, h, Nat.le_refl _, by unfold maxLen; omega, by simp [hl], ht⟩⟩
/-- the cells of four slots that are read -/
theorem four {xs : List Slt} (h4 : xs.length = 4) : ∃ a0 a1 a2 b0 b1 b2 c0 c1 c2 d0 d1 d2 : Int, xs = [⟨a0, a1, a2⟩, ⟨b0, b1, b2⟩, ⟨c0, c1, c2⟩, ⟨d0, d1, d2⟩] := by
  match xs, h4 with
  | [⟨a0, a1, a2⟩, ⟨b0, b1, b2⟩, ⟨c0, c1, c2⟩, ⟨d0, d1, d2⟩], _ => exact ⟨a0, a1, a2, b0, b1, b2, c0, c1, c2, d0, d1, d2, rfl⟩
theorem cells12 {w : World} {B : Nat} {A : Option Addr} {xs : List Slt} (h : Reads w B 3 A 4 (FL xs)) : ∃ b off, A = some ⟨b, off, none⟩ ∧ b < B ∧ ∃ a0 a1 a2 b0 b1 b2 c0 c1 c2 d0 d1 d2 : Int, FL xs = [.int .i64 a0, .int .i64 a1, .int .i64 a2, .int .i64 b0, .int .i64 b1, .int .i64 b2, .int .i64 c0, .int .i64 c1, .int .i64 c2, .int .i64 d0, .int .i64 d1, .int .i64 d2] ∧
    w.cell? ⟨b, off, none⟩ = some (.int .i64 a0) ∧ w.cell? ⟨b, off + 1, none⟩ = some (.int .i64 a1) ∧ w.cell? ⟨b, off + 2, none⟩ = some (.int .i64 a2) ∧ w.cell? ⟨b, off + 3, none⟩ = some (.int .i64 b0) ∧ w.cell? ⟨b, off + 4, none⟩ = some (.int .i64 b1) ∧ w.cell? ⟨b, off + 5, none⟩ = some (.int .i64 b2) ∧ w.cell? ⟨b, off + 6, none⟩ = some (.int .i64 c0) ∧ w.cell? ⟨b, off + 7, none⟩ = some (.int .i64 c1) ∧ w.cell? ⟨b, off + 8, none⟩ = some (.int .i64 c2) ∧ w.cell? ⟨b, off + 9, none⟩ = some (.int .i64 d0) ∧ w.cell? ⟨b, off + 10, none⟩ = some (.int .i64 d1) ∧ w.cell? ⟨b, off + 11, none⟩ = some (.int .i64 d2) := by
  have h4 : xs.length = 4 := reads_len h
  obtain ⟨b, off, e, hb, hc⟩ := h.2 (by omega)
  obtain ⟨a0, a1, a2, b0, b1, b2, c0, c1, c2, d0, d1, d2, rfl⟩ := four h4
  exact ⟨b, off, e, hb, a0, a1, a2, b0, b1, b2, c0, c1, c2, d0, d1, d2, rfl, hc 0 _ rfl, hc 1 _ rfl, hc 2 _ rfl, hc 3 _ rfl, hc 4 _ rfl, hc 5 _ rfl, hc 6 _ rfl, hc 7 _ rfl, hc 8 _ rfl, hc 9 _ rfl, hc 10 _ rfl, hc 11 _ rfl⟩
/-- slots as a pointer to an array of them -/
theorem arrayAt_any (A : Option Addr) (c : Nat) (w : World) : (Instr.arrayAt 51 (.slice A 4 c)).run Tryd.prog w = .ok (.pointer A) w := run_arrayAt w 51 _ 4 A 4 c Tryd.underlying51 (Nat.le_refl _)
theorem set_same {L : List Value} {j : Nat} {v : Value} (h : L[j]? = some v) : L.set j v = L := by
  apply List.ext_getElem?
  intro i
  by_cases e : j = i
  · subst e
    rw [List.getElem?_set_self (List.getElem?_eq_some_iff.1 h).1, h]
  · rw [List.getElem?_set_ne e]
/-- the state of a slot, stored alone -/
theorem fl_set0 {xs : List Slt} {k : Nat} {x : Slt} (hx : xs[k]? = some x) (z : Int) : (FL xs).set (k * 3) (.int .i64 z) = FL (xs.set k { x with st := z }) := by
  have hk := (List.getElem?_eq_some_iff.1 hx).1
  rw [← slt_fl_set xs k _ hk]
  simp only
  have h1 : ((FL xs).set (k * 3) (.int .i64 z))[k * 3 + 1]? = some (.int .i64 x.iq) := by rw [List.getElem?_set_ne (by omega)]; exact FL_at (i := 1) hx rfl
  have h2 : ((FL xs).set (k * 3) (.int .i64 z))[k * 3 + 2]? = some (.int .i64 x.pr) := by rw [List.getElem?_set_ne (by omega)]; exact FL_at (i := 2) hx rfl
  rw [set_same h1, set_same h2]
/-- four slots, an answer of two or three parts -/
def SlPost (w : World) (r : List Slt × Bool) (e : Ending) (w' : World) : Prop :=
  ∃ A' c' t, e = .returned (.tuple #[.slice A' r.1.length c', .bool r.2]) ∧ w'.ownsRow w.heap.size t 3 (.slice A' r.1.length c') r.1.length (FL r.1) ∧ Below w.heap.size w w'
def SlPost3 (w : World) (r : List Slt × Int × Bool) (e : Ending) (w' : World) : Prop :=
  ∃ A' c' t, e = .returned (.tuple #[.slice A' r.1.length c', .int .i64 r.2.1, .bool r.2.2]) ∧ w'.ownsRow w.heap.size t 3 (.slice A' r.1.length c') r.1.length (FL r.1) ∧ Below w.heap.size w w'
theorem slPost_no {w w' : World} (hb : Below w.heap.size w w') : SlPost w ([], false) (.returned (.tuple #[.slice none 0 0, .bool false])) w' := ⟨none, 0, 37, rfl, World.ownsRow_nil _ _ _ _, hb⟩
theorem slPost3_no {w w' : World} (hb : Below w.heap.size w w') : SlPost3 w ([], 0, false) (.returned (.tuple #[.slice none 0 0, .int .i64 0, .bool false])) w' := ⟨none, 0, 37, rfl, World.ownsRow_nil _ _ _ _, hb⟩
theorem slPost_4 {w w' : World} {l : List Slt} {g c : Nat} {t : TypeId} (hl : l.length = 4) (ho : w'.ownsRow w.heap.size t 3 (.slice (some ⟨g, 0, none⟩) 4 c) 4 (FL l)) (hb : Below w.heap.size w w') : SlPost w (l, true) (.returned (.tuple #[.slice (some ⟨g, 0, none⟩) 4 c, .bool true])) w' :=
  ⟨some ⟨g, 0, none⟩, c, t, by rw [hl], by rw [hl]; exact ho, hb⟩
theorem slPost3_4 {w w' : World} {l : List Slt} {g c : Nat} {t : TypeId} {z : Int} (hl : l.length = 4) (ho : w'.ownsRow w.heap.size t 3 (.slice (some ⟨g, 0, none⟩) 4 c) 4 (FL l)) (hb : Below w.heap.size w w') : SlPost3 w (l, z, true) (.returned (.tuple #[.slice (some ⟨g, 0, none⟩) 4 c, .int .i64 z, .bool true])) w' :=
  ⟨some ⟨g, 0, none⟩, c, t, by rw [hl], by rw [hl]; exact ho, hb⟩
end Go.Proofs.YtadpjkghfgnbbaaDoor.L8
