/- Worlds that differ in blocks between two bounds alone. No program's text. -/
import Derived.Test.YtcpfnihpheoiiaaOwnT
namespace Go.Proofs.Ytcpfnihpheoiiaa.L4
open Go Go.RowKit Go.Proofs.Ytcpfnihpheoiiaa.Mem Go.Proofs.Ytcpfnihpheoiiaa.Own
structure Only (lo hi : Nat) (w w' : World) : Prop where
  os : w'.os = w.os
  tape : w'.tape = w.tape
  output : w'.output = w.output
  size : w.heap.size ≤ w'.heap.size
  block : ∀ k, k < w.heap.size → (k < lo ∨ hi ≤ k) → w'.heap[k]? = w.heap[k]?
section
variable {w w' w2 : World} {lo lo' hi hi' a b size n m c d g : Nat} {e : TypeId} {u v : Value} {xs : List Value} {vs : List Value} {xss : List (List Ent)} {A D : Option Addr} {t : Tab} {cs : Array Value} {ty : TypeId}
theorem Only.refl (lo hi : Nat) (w : World) : Only lo hi w w := ⟨rfl, rfl, rfl, Nat.le_refl _, fun _ _ _ => rfl⟩
theorem Only.trans (h : Only lo hi w w') (k : Only lo hi w' w2) : Only lo hi w w2 :=
  ⟨k.os.trans h.os, k.tape.trans h.tape, k.output.trans h.output, Nat.le_trans h.size k.size, fun i hi he => (k.block i (Nat.lt_of_lt_of_le hi h.size) he).trans (h.block i hi he)⟩
theorem Only.of_below (h : Below w.heap.size w w') : Only lo hi w w' := ⟨h.os, h.tape, h.output, h.size, fun k hk _ => h.block k hk⟩
theorem Only.mono (h : Only lo hi w w') (h1 : lo' ≤ lo) (h2 : hi ≤ hi') : Only lo' hi' w w' := ⟨h.os, h.tape, h.output, h.size, fun k hk he => h.block k hk (by omega)⟩
/-- a row is changed -/
theorem Only.of_row (h : w.ownsRow lo e size v n xs) (hl : ∀ g, v.ownBlock = some g → g < hi) (hg : w.grownBy w' v.ownBlock) : Only lo hi w w' :=
  ⟨hg.os, hg.tape, hg.output, hg.size, fun k hk he => hg.block k hk (fun e => by
    have h1 := (h.lt k e.symm).1
    have h2 := hl k e.symm
    omega)⟩
theorem Only.of_Row (h : Row w lo hi e size v n xs) (hg : w.grownBy w' v.ownBlock) : Only lo hi w w' := Only.of_row h.own h.lt hg
theorem Only.below {w0 : World} (h : Only lo hi w w') (hb : Below w0.heap.size w0 w) (hl : w0.heap.size ≤ lo) : Below w0.heap.size w0 w' :=
  ⟨h.os.trans hb.os, h.tape.trans hb.tape, h.output.trans hb.output, Nat.le_trans hb.size h.size, fun k hk => (h.block k (Nat.lt_of_lt_of_le hk hb.size) (.inl (by omega))).trans (hb.block k hk)⟩
theorem own_same (h : w.ownsRow a e size v n xs) (hs : ∀ g, v.ownBlock = some g → w'.heap[g]? = w.heap[g]?) : w'.ownsRow a e size v n xs := by
  refine ⟨h.1, ?_⟩
  rcases h.2 with ⟨h1, h2⟩ | ⟨g, cap, cur, h1, h2, h3, h4⟩
  · exact .inl ⟨h1, h2⟩
  · subst h1
    exact .inr ⟨g, cap, cur, rfl, h2, (hs g rfl).trans h3, h4⟩
theorem own_only (h : w.ownsRow a e size v n xs) (hl : ∀ g, v.ownBlock = some g → g < b) (ho : Only lo hi w w') (hd : b ≤ lo ∨ hi ≤ a) : w'.ownsRow a e size v n xs :=
  own_same h fun g hg => ho.block g (h.lt g hg).2 (by have h1 := (h.lt g hg).1; have h2 := hl g hg; omega)
theorem Row.only (h : Row w a b e size v n xs) (ho : Only lo hi w w') (hd : b ≤ lo ∨ hi ≤ a) : Row w' a b e size v n xs := ⟨own_only h.own h.lt ho hd, h.lt⟩
theorem Inn.only (h : Inn w a b vs xss) (ho : Only lo hi w w') (hd : b ≤ lo ∨ hi ≤ a) : Inn w' a b vs xss := ⟨h.len, fun i v xs h1 h2 => (h.row i v xs h1 h2).only ho hd, h.apart⟩
theorem OwnL.only (h : OwnL w a b v m xss) (ho : Only lo hi w w') (hd : b ≤ lo ∨ hi ≤ a) : OwnL w' a b v m xss := by
  obtain ⟨vs, h1, h2⟩ := h
  exact ⟨vs, h1.only ho hd, h2.only ho hd⟩
theorem OwnT.only (h : OwnT w a b A n c D m d t) (ho : Only lo hi w w') (hd : b ≤ lo ∨ hi ≤ a) : OwnT w' a b A n c D m d t := ⟨h.dirs.only ho hd, h.leaves.only ho hd⟩
theorem _root_.Go.Proofs.Ytcpfnihpheoiiaa.Own.Blk.only (h : Blk w g ty cs) (ho : Only lo hi w w') (hd : g < lo ∨ hi ≤ g) : Blk w' g ty cs := (ho.block g h.lt hd).trans h
theorem _root_.Go.Proofs.Ytcpfnihpheoiiaa.Own.Blk.below (h : Blk w g ty cs) (hb : Below w.heap.size w w') : Blk w' g ty cs := Blk.kept hb h
theorem below_drew1 (w : World) : Below w.heap.size w w.drew := ⟨rfl, rfl, rfl, Nat.le_refl _, fun _ _ => rfl⟩
end
end Go.Proofs.Ytcpfnihpheoiiaa.L4
