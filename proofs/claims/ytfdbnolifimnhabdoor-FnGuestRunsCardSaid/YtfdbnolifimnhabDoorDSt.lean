/- A draw's state: a cursor, a result variable and a local variable, both structs. No program's text but the cursor. -/
import Derived.Test.YtfdbnolifimnhabDoorDrawO
import Derived.Test.YtfdbnolifimnhabDoorRow
import Derived.Test.YtfdbnolifimnhabDoorAmong
namespace Go.Proofs.YtfdbnolifimnhabDoor.Draw
open Go Go.RowKit Go.Proofs.YtfdbnolifimnhabDoor.Mem Go.Proofs.YtfdbnolifimnhabDoor.Own
theorem blk_draw {w w' : World} {b g : Nat} {ty : TypeId} {cs : Array Value} (h : Blk w b ty cs) (hg : w.grownBy w' (some g)) (hne : b ≠ g) : Blk w' b ty cs :=
  (hg.block b h.lt (fun e => hne (by injection e))).trans h
structure DSt (w wr : World) (g B : Nat) (A : Option Addr) (n cp : Nat) (zs : List Int) (t : Nat) (ty : TypeId) (R T : Nat) (z cs : Array Value) : Prop where
  cur : Cur wr g B A n cp zs t
  gr : w.grownBy wr (some g)
  res : Blk wr R ty z
  loc : Blk wr T ty cs
  hR : w.heap.size ≤ R
  hT : w.heap.size ≤ T
  hne : T ≠ R
  hg : g < w.heap.size
section
variable {w wr w' : World} {g B n cp t t' R T j : Nat} {A : Option Addr} {zs : List Int} {ty : TypeId} {z cs : Array Value}
theorem DSt.draw (h : DSt w wr g B A n cp zs t ty R T z cs) (hg : wr.grownBy w' (some g)) (hc : Cur w' g B A n cp zs t') : DSt w w' g B A n cp zs t' ty R T z cs :=
  ⟨hc, grown_trans' h.gr hg, blk_draw h.res hg (by have := h.hR; have := h.hg; omega), blk_draw h.loc hg (by have := h.hT; have := h.hg; omega), h.hR, h.hT, h.hne, h.hg⟩
theorem DSt.below (h : DSt w wr g B A n cp zs t ty R T z cs) (hb : Below wr.heap.size wr w') : DSt w w' g B A n cp zs t ty R T z cs :=
  ⟨h.cur.below hb, grown_trans' h.gr ⟨hb.os, hb.tape, hb.output, hb.size, fun k hk _ => hb.block k hk⟩, Blk.kept hb h.res, Blk.kept hb h.loc, h.hR, h.hT, h.hne, h.hg⟩
theorem DSt.set (h : DSt w wr g B A n cp zs t ty R T z cs) (j : Nat) (v : Value) : DSt w (wr.setCell ⟨T, j, none⟩ v) g B A n cp zs t ty R T z (cs.setIfInBounds j v) :=
  ⟨h.cur.grown (row := some T) (grown_set wr T j v) (fun r e => by cases e; have := h.hT; have := h.hg; omega),
   grown_over h.gr (grown_set wr T j v) (fun r e => by cases e; exact h.hT), h.res.other v (fun e => h.hne e.symm), h.loc.set j v, h.hR, h.hT, h.hne, h.hg⟩
theorem DSt.put (h : DSt w wr g B A n cp zs t ty R T z cs) (j : Nat) (v : Value) : DSt w (wr.setCell ⟨R, j, none⟩ v) g B A n cp zs t ty R T (z.setIfInBounds j v) cs :=
  ⟨h.cur.grown (row := some R) (grown_set wr R j v) (fun r e => by cases e; have := h.hR; have := h.hg; omega),
   grown_over h.gr (grown_set wr R j v) (fun r e => by cases e; exact h.hR), h.res.set j v, h.loc.other v h.hne, h.hR, h.hT, h.hne, h.hg⟩
/-- where both variables have been laid: the result's, a draw, the local one's -/
theorem DSt.start {w1 : World} (hc : Cur w1 g B A n cp zs t) (hg : (w.alloc (.cells z ty)).grownBy w1 (some g)) (hgl : g < w.heap.size) (cs : Array Value) : DSt w (w1.alloc (.cells cs ty)) g B A n cp zs t ty w.heap.size w1.heap.size z cs :=
  ⟨hc.alloc _, grown_trans' (grown_trans' (World.grownBy_alloc w _ (some g)) hg) (World.grownBy_alloc w1 _ (some g)), (blk_draw (Blk.new w z ty) hg (by omega)).alloc _, Blk.new w1 cs ty, Nat.le_refl _,
   by have := hg.size; rw [size1] at this; omega, by have := hg.size; rw [size1] at this; omega, hgl⟩
end
/-- a part of a list that has been laid -/
theorem among_part (w1 : World) (g B : Nat) (A : Option Addr) (n cp : Nat) (zs : List Int) (t h m c : Nat) (hz : ∀ z ∈ zs, 0 ≤ z ∧ z ≤ 255) (hc : Cur w1 g B A n cp zs t) (ht : t ≤ 900000) (hn : n ≤ 1000000)
    (xs : List Int) (ty : TypeId) (hb : Blk w1 h ty (I xs).toArray) (hne : h ≠ g) (hm0 : 1 ≤ m) (hm1 : m ≤ xs.length) (hx : xs.length ≤ 60000) (hmc : m ≤ c) :
    Calls Tryd.prog 38 #[.pointer (some ⟨g, 0, none⟩), .slice (some ⟨h, 0, none⟩) m c] w1 fun e w' => ∃ x, e = .returned (.int .i64 x) ∧ (∃ t', t' ≤ t + 2 ∧ Cur w' g B A n cp zs t') ∧ w1.grownBy w' (some g) := by
  refine (among_any w1 g B A n cp zs t hz hc ht hn h m c (xs.take m) hne hb.lt hm0 (by omega) hmc (by rw [List.length_take]; omega) (fun j x hj => ?_)).mono ?_
  · have hj' : xs[j]? = some x := by
      rw [List.getElem?_take] at hj
      split at hj
      · exact hj
      · cases hj
    exact hb.cell j _ (by simpa using I_at hj')
  · rintro e w' ⟨x, h1, _, h3, h4⟩
    exact ⟨x, h1, h3, h4⟩
end Go.Proofs.YtfdbnolifimnhabDoor.Draw
