/- Words on worlds and lists that every slice law wants. No program's text. -/
import Derived.Test.YtlpngmcnelmpmaaMem
namespace Go.Proofs.Ytlpngmcnelmpmaa.Own
open Go.RowKit Go.Proofs.Ytlpngmcnelmpmaa.Mem
theorem set_take {α : Type} (xs ys : List α) (k : Nat) (u : α) (hl : ys.length = xs.length) (hu : xs[k]? = some u) (h : ys.take k = xs.take k) : (ys.set k u).take (k + 1) = xs.take (k + 1) := by
  have hk : k < xs.length := (List.getElem?_eq_some_iff.1 hu).1
  have hu' : xs[k] = u := by have := List.getElem?_eq_getElem hk; rw [this] at hu; exact Option.some.inj hu
  rw [List.take_succ_eq_append_getElem (by simpa [hl] using hk), List.take_succ_eq_append_getElem hk, List.take_set_of_le (Nat.le_refl _), h]
  simp [hu']
theorem take_eq_succ {α : Type} {xs ys : List α} {k : Nat} {x : α} (h : xs.take k = ys.take k) (hx : xs[k]? = some x) (hy : ys[k]? = some x) : xs.take (k + 1) = ys.take (k + 1) := by
  rw [List.take_add_one, List.take_add_one, h, hx, hy]
theorem grown_of_below {w w' : World} (h : Below w.heap.size w w') (row : Option Nat) : w.grownBy w' row := ⟨h.os, h.tape, h.output, h.size, fun k hk _ => h.block k hk⟩
theorem grown_trans {a b c : World} {row : Option Nat} (h : a.grownBy b row) (k : b.grownBy c row) : a.grownBy c row :=
  ⟨k.os.trans h.os, k.tape.trans h.tape, k.output.trans h.output, Nat.le_trans h.size k.size, fun i hi hne => (k.block i (Nat.lt_of_lt_of_le hi h.size) hne).trans (h.block i hi hne)⟩
theorem reads_grown {w w' : World} {B size n : Nat} {A : Option Addr} {xs : List Value} {v : Value} {base : Nat} {e : TypeId} {sz m : Nat} {ys : List Value} (h : Reads w B size A n xs) (hg : w.grownBy w' v.ownBlock) (hown : w.ownsRow base e sz v m ys) (hB : B ≤ base) (hB2 : B ≤ w.heap.size) : Reads w' B size A n xs :=
  h.grown hg hB2 fun g hg' => Nat.le_trans hB (hown.lt g hg').1
/-- the cells of a list of numbers -/
def I (zs : List Int) : List Value := zs.map (Value.int .i64)
theorem I_len (zs : List Int) : (I zs).length = zs.length := by simp [I]
theorem I_at {zs : List Int} {k : Nat} {z : Int} (h : zs[k]? = some z) : (I zs)[k]? = some (.int .i64 z) := by simp [I, h]
theorem I_set (zs : List Int) (k : Nat) (z : Int) : (I zs).set k (.int .i64 z) = I (zs.set k z) := by simp [I, List.map_set]
theorem own_head {w : World} {base size n c : Nat} {e : TypeId} {A : Option Addr} {xs : List Value} (h : w.ownsRow base e size (.slice A n c) n xs) (hn : 0 < n) : ∃ g, A = some ⟨g, 0, none⟩ := by
  rcases h.2 with ⟨_, h0⟩ | ⟨g, cap, cur, h, _⟩
  · omega
  · injection h with h1; exact ⟨g, h1⟩
/-- owned by a call whose world began later: owned from an earlier block on -/
theorem own_mono {w : World} {b b' n size : Nat} {e : TypeId} {v : Value} {xs : List Value} (h : w.ownsRow b e size v n xs) (hb : b' ≤ b) : w.ownsRow b' e size v n xs := by
  refine ⟨h.1, ?_⟩
  rcases h.2 with ⟨h1, h2⟩ | ⟨g, cap, cur, h1, h2, h3⟩
  · exact .inl ⟨h1, h2⟩
  · exact .inr ⟨g, cap, cur, h1, Nat.le_trans hb h2, h3⟩
end Go.Proofs.Ytlpngmcnelmpmaa.Own
