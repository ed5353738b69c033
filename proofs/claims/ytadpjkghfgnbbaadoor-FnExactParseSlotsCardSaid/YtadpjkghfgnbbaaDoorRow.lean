/- Owned rows whose block lies between two bounds; worlds that differ between two bounds alone. No program's text. -/
import Derived.Test.YtadpjkghfgnbbaaDoorBlk
namespace Go.Proofs.YtadpjkghfgnbbaaDoor.Own
open Go Go.RowKit Go.Proofs.YtadpjkghfgnbbaaDoor.Mem
/-- an owned row, its block below hi -/
structure Row (w : World) (lo hi : Nat) (e : TypeId) (size : Nat) (v : Value) (n : Nat) (xs : List Value) : Prop where
  own : w.ownsRow lo e size v n xs
  lt : ∀ g, v.ownBlock = some g → g < hi
structure Only (lo hi : Nat) (w w' : World) : Prop where
  os : w'.os = w.os
  tape : w'.tape = w.tape
  output : w'.output = w.output
  size : w.heap.size ≤ w'.heap.size
  block : ∀ k, k < w.heap.size → (k < lo ∨ hi ≤ k) → w'.heap[k]? = w.heap[k]?
section
variable {w w' w2 : World} {lo lo' hi hi' a b size n m c d g : Nat} {e : TypeId} {u v : Value} {xs : List Value} {A D : Option Addr} {cs : Array Value} {ty : TypeId}
theorem block_of_own {b : Nat} {g : Nat} (h : w.ownsRow b e size v n xs) (hg : v.ownBlock = some g) : ∃ cur, w.heap[g]? = some (.cells cur e (0, 0)) := by
  rcases h.2 with ⟨rfl, _⟩ | ⟨g', cap, cur, rfl, _, hh, _⟩
  · cases hg
  · simp only [Value.ownBlock, Option.some.injEq] at hg
    subst hg
    exact ⟨cur, hh⟩
theorem apart_types {e2 : TypeId} {n2 : Nat} {ys : List Value} {b b3 s3 : Nat} (h : w.ownsRow b e size v n xs) (h' : w.ownsRow b3 e2 s3 u n2 ys) (he : e ≠ e2) : Apart v u := by
  intro k h1 h2
  obtain ⟨c1, e1⟩ := block_of_own h h1
  obtain ⟨c2, e2⟩ := block_of_own h' h2
  rw [e1] at e2
  simp only [Option.some.injEq, Obj.cells.injEq] at e2
  exact he e2.2.1
theorem Row.below (h : Row w lo hi e size v n xs) (hb : Below w.heap.size w w') : Row w' lo hi e size v n xs := ⟨own_below h.own hb, h.lt⟩
theorem Row.mono (h : Row w lo hi e size v n xs) (h1 : lo' ≤ lo) (h2 : hi ≤ hi') : Row w lo' hi' e size v n xs := ⟨own_mono h.own h1, fun g hg => Nat.lt_of_lt_of_le (h.lt g hg) h2⟩
theorem Row.of (h : w.ownsRow lo e size v n xs) : Row w lo w.heap.size e size v n xs := ⟨h, fun g hg => (h.lt g hg).2⟩
theorem Row.away (h : Row w lo hi e size v n xs) (hg : w.grownBy w' u.ownBlock) (ha : Apart u v) : Row w' lo hi e size v n xs := ⟨own_apart h.own hg ha, h.lt⟩
theorem Row.low (h : Row w lo hi e size v n xs) {g j : Nat} (z : Value) (hg : g < lo) : Row (w.setCell ⟨g, j, none⟩ z) lo hi e size v n xs := ⟨own_set h.own z (fun k => by have := (h.own.lt g k).1; omega), h.lt⟩
theorem Row.reads {c : Nat} (h : Row w lo hi e size (.slice A n c) n xs) : Reads w w.heap.size size A n xs := own_reads h.own
theorem Only.refl (lo hi : Nat) (w : World) : Only lo hi w w := ⟨rfl, rfl, rfl, Nat.le_refl _, fun _ _ _ => rfl⟩
theorem Only.trans (h : Only lo hi w w') (k : Only lo hi w' w2) : Only lo hi w w2 :=
  ⟨k.os.trans h.os, k.tape.trans h.tape, k.output.trans h.output, Nat.le_trans h.size k.size, fun i hi he => (k.block i (Nat.lt_of_lt_of_le hi h.size) he).trans (h.block i hi he)⟩
theorem Only.of_below (h : Below w.heap.size w w') : Only lo hi w w' := ⟨h.os, h.tape, h.output, h.size, fun k hk _ => h.block k hk⟩
theorem Only.mono (h : Only lo hi w w') (h1 : lo' ≤ lo) (h2 : hi ≤ hi') : Only lo' hi' w w' := ⟨h.os, h.tape, h.output, h.size, fun k hk he => h.block k hk (by omega)⟩
theorem Only.of_row (h : w.ownsRow lo e size v n xs) (hl : ∀ g, v.ownBlock = some g → g < hi) (hg : w.grownBy w' v.ownBlock) : Only lo hi w w' :=
  ⟨hg.os, hg.tape, hg.output, hg.size, fun k hk he => hg.block k hk (fun e => by
    have h1 := (h.lt k e.symm).1
    have h2 := hl k e.symm
    omega)⟩
theorem Only.of_Row (h : Row w lo hi e size v n xs) (hg : w.grownBy w' v.ownBlock) : Only lo hi w w' := Only.of_row h.own h.lt hg
theorem Only.below {w0 : World} (h : Only lo hi w w') (hb : Below w0.heap.size w0 w) (hl : w0.heap.size ≤ lo) : Below w0.heap.size w0 w' :=
  ⟨h.os.trans hb.os, h.tape.trans hb.tape, h.output.trans hb.output, Nat.le_trans hb.size h.size, fun k hk => (h.block k (Nat.lt_of_lt_of_le hk hb.size) (.inl (by omega))).trans (hb.block k hk)⟩
theorem own_same (h : w.ownsRow a e size v n xs) (hs : ∀ g, v.ownBlock = some g → w'.heap[g]? = w.heap[g]?) : w'.ownsRow a e size v n xs := by
  refine ⟨h.1, ?_⟩
  rcases h.2 with ⟨h1, h2⟩ | ⟨g, cap, cur, h1, h2, h3, h4⟩
  · exact .inl ⟨h1, h2⟩
  · subst h1
    exact .inr ⟨g, cap, cur, rfl, h2, (hs g rfl).trans h3, h4⟩
theorem own_only (h : w.ownsRow a e size v n xs) (hl : ∀ g, v.ownBlock = some g → g < b) (ho : Only lo hi w w') (hd : b ≤ lo ∨ hi ≤ a) : w'.ownsRow a e size v n xs :=
  own_same h fun g hg => ho.block g (h.lt g hg).2 (by have h1 := (h.lt g hg).1; have h2 := hl g hg; omega)
theorem Row.only (h : Row w a b e size v n xs) (ho : Only lo hi w w') (hd : b ≤ lo ∨ hi ≤ a) : Row w' a b e size v n xs := ⟨own_only h.own h.lt ho hd, h.lt⟩
theorem Blk.only (h : Blk w g ty cs) (ho : Only lo hi w w') (hd : g < lo ∨ hi ≤ g) : Blk w' g ty cs := (ho.block g h.lt hd).trans h
theorem Blk.below (h : Blk w g ty cs) (hb : Below w.heap.size w w') : Blk w' g ty cs := Blk.kept hb h
theorem below_drew1 (w : World) : Below w.heap.size w w.drew := ⟨rfl, rfl, rfl, Nat.le_refl _, fun _ _ => rfl⟩
theorem Row.onlyT (h : Row w lo hi e size v n xs) (hb : Blk w g ty cs) (he : e ≠ ty) (ho : Only g (g + 1) w w') : Row w' lo hi e size v n xs :=
  ⟨own_same h.own fun k hk => ho.block k (h.own.lt k hk).2 (by
    have hne : k ≠ g := by
      intro h2
      subst h2
      obtain ⟨cur, h3⟩ := block_of_own h.own hk
      unfold Blk at hb
      rw [hb] at h3
      simp only [Option.some.injEq, Obj.cells.injEq] at h3
      exact he h3.2.1.symm
    omega), h.lt⟩
theorem alloc_le (w : World) (o : Obj) : w.heap.size ≤ (w.alloc o).heap.size := by rw [size1]; exact Nat.le_succ _
theorem drew_le (w : World) (o : Obj) : w.heap.size ≤ (w.alloc o).drew.heap.size := alloc_le w o
theorem Only.set (w : World) (g j : Nat) (v : Value) : Only g (g + 1) w (w.setCell ⟨g, j, none⟩ v) := ⟨rfl, rfl, rfl, by simp, fun k _ hk => heap_setCell_other w ⟨g, j, none⟩ k v (by show k ≠ g; omega)⟩
end
end Go.Proofs.YtadpjkghfgnbbaaDoor.Own
