/- What the draws of a stored and of a loaded value answer. -/
import Derived.Test.YtaamjnpknmimmaaDr5C
import Derived.Test.YtaamjnpknmimmaaDr5E
namespace Go.Proofs.Ytaamjnpknmimmaa.Draw
open Go Go.RowKit Go.Proofs.Ytaamjnpknmimmaa.Mem Go.Proofs.Ytaamjnpknmimmaa.Own
set_option linter.unusedVariables false
/-- a draw's state: the result's block R, the cursor g, a trap's block T -/
structure DV (w wr : World) (A : Option Addr) (n cp : Nat) (zs : List Int) (t T : Nat) (cs : Array Value) : Prop where
  cur : Cur wr (w.heap.size + 1) (w.heap.size + 1) A n cp zs t
  res : Blk wr w.heap.size 25 #[.int .i64 0, .int .i64 0, .bool false, .int .i64 0, .int .i64 0]
  loc : Blk wr T 25 cs
  big : w.heap.size + 1 < T
  bl : Below w.heap.size w wr
section
variable {w wr w' : World} {A : Option Addr} {n cp t t' T : Nat} {zs : List Int} {cs : Array Value}
theorem DV.draw (h : DV w wr A n cp zs t T cs) (hg : wr.grownBy w' (some (w.heap.size + 1))) (hc : Cur w' (w.heap.size + 1) (w.heap.size + 1) A n cp zs t') : DV w w' A n cp zs t' T cs :=
  ⟨hc, blk_draw h.res hg (by omega), blk_draw h.loc hg (by have := h.big; omega), h.big, below_cur h.bl hg (by omega)⟩
theorem DV.below (h : DV w wr A n cp zs t T cs) (hb : Below wr.heap.size wr w') : DV w w' A n cp zs t T cs :=
  ⟨h.cur.below hb, Blk.kept hb h.res, Blk.kept hb h.loc, h.big, below_then h.bl hb⟩
theorem DV.hgl (h : DV w wr A n cp zs t T cs) : w.heap.size + 1 < wr.heap.size := Nat.lt_trans h.big h.loc.lt
end
/-- some trap and some words, and nothing that was there has turned -/
def WordsDrawn (w : World) (e : Ending) (w' : World) : Prop :=
  ∃ (c wd : Int) (s : Bool) (r i : Int) (A1 : Option Addr) (c1 : Nat) (L : List Int), e = .returned (.tuple #[.agg #[.int .i64 c, .int .i64 wd, .bool s, .int .i64 r, .int .i64 i], .slice A1 L.length c1]) ∧ L.length ≤ 4 ∧ w'.ownsRow w.heap.size 3 1 (.slice A1 L.length c1) L.length (I L) ∧ Below w.heap.size w w'
def LoadDrawn (w : World) (e : Ending) (w' : World) : Prop :=
  ∃ (c wd : Int) (s : Bool) (r i : Int) (A1 : Option Addr) (c1 : Nat) (L : List Int) (x : Int), e = .returned (.tuple #[.agg #[.int .i64 c, .int .i64 wd, .bool s, .int .i64 r, .int .i64 i], .slice A1 L.length c1, .int .i64 x]) ∧ L.length ≤ 4 ∧ w'.ownsRow w.heap.size 3 1 (.slice A1 L.length c1) L.length (I L) ∧ Below w.heap.size w w'
/-- what is owned from b on does not turn where five cells below b are set -/
theorem own_five {w : World} {b g k : Nat} {v : Value} {xs : List Value} (h : w.ownsRow b 3 1 v k xs) (hg : g < b) (x0 x1 x2 x3 x4 : Value) :
    (((((w.setCell ⟨g, 0, none⟩ x0).setCell ⟨g, 1, none⟩ x1).setCell ⟨g, 2, none⟩ x2).setCell ⟨g, 3, none⟩ x3).setCell ⟨g, 4, none⟩ x4).ownsRow g 3 1 v k xs :=
  own_mono (own_cur (own_cur (own_cur (own_cur (own_cur h (grown_set _ g 0 x0) hg) (grown_set _ g 1 x1) hg) (grown_set _ g 2 x2) hg) (grown_set _ g 3 x3) hg) (grown_set _ g 4 x4) hg) (Nat.le_of_lt hg)
set_option maxRecDepth 100000 in
set_option maxHeartbeats 1000000 in
theorem drawSto_any (w : World) (A : Option Addr) (n cp : Nat) (zs : List Int) (hz : ∀ z ∈ zs, 0 ≤ z ∧ z ≤ 255) (hr : Reads w w.heap.size 1 A n (zs.map (Value.int .u8))) (hn : n ≤ 1000000) :
    Calls Try.prog 44 #[.slice A n cp] w (WordsDrawn w) := by
  have hr2 := (hr.alloc (Nat.le_refl _) (.cells #[.int .i64 0, .int .i64 0, .bool false, .int .i64 0, .int .i64 0] 25)).more (alloc_le w (.cells #[.int .i64 0, .int .i64 0, .bool false, .int .i64 0, .int .i64 0] 25))
  have hcn := cur_new _ A n cp zs hr2
  rw [size1] at hcn
  have HC := Lib.hid hcn
  have HZ := Lib.hid hz
  clear hr hr2 hz hcn
  go_enter Try.func44, Try.ntmps44
  go_wp2_with fail
  refine (devTrap_any _ (w.heap.size + 1) (w.heap.size + 1) A n cp zs 0 HZ.out HC.out (by omega) hn).mono ?_
  rintro e w1 ⟨c, wd, s, r, i, rfl, ⟨t1, ht1, hc⟩, hg⟩
  have hsz := hg.size
  rw [size1, size1] at hsz
  have H0 : DV w (w1.alloc (.cells #[.int .i64 c, .int .i64 wd, .bool s, .int .i64 r, .int .i64 i] 25)) A n cp zs t1 w1.heap.size #[.int .i64 c, .int .i64 wd, .bool s, .int .i64 r, .int .i64 i] :=
    ⟨hc.alloc _, (blk_draw ((Blk.new w #[.int .i64 0, .int .i64 0, .bool false, .int .i64 0, .int .i64 0] 25).alloc (.cells #[.slice A n cp, .int .i64 0, .int .u64 0] 75)) hg (by omega)).alloc _, Blk.new w1 _ _, by omega, below_more (below_cur (below_more (below_more (Below.refl w.heap.size w) (.cells #[.int .i64 0, .int .i64 0, .bool false, .int .i64 0, .int .i64 0] 25)) (.cells #[.slice A n cp, .int .i64 0, .int .u64 0] 75)) hg (by omega)) _⟩
  have H := Lib.hid H0
  obtain ⟨T, hT⟩ : ∃ T, w1.heap.size = T := ⟨_, rfl⟩
  obtain ⟨wa, hwa⟩ : ∃ wa, w1.alloc (.cells #[.int .i64 c, .int .i64 wd, .bool s, .int .i64 r, .int .i64 i] 25) = wa := ⟨_, rfl⟩
  rw [hwa, hT] at H
  have HW := Lib.hid hwa
  have HT := Lib.hid hT
  clear HC hc hg hwa hT H0 hsz
  go_upto_region 3 with fail
  rw [HW.out, HT.out]
  clear HW HT
  have HL := Lib.hid (Nat.lt_trans (Nat.lt_succ_self w.heap.size) H.out.hgl)
  have HD := Lib.hid (H.out.below (w' := wa.drew) (below_drew1 wa))
  have HC1 := Lib.hid (words5_any wa.drew (w.heap.size + 1) (w.heap.size + 1) A n cp zs t1 HZ.out HD.out.cur (by omega) hn)
  have k0 := H.out.loc.cell 0 _ rfl
  have kd0 : wa.drew.cell? _ = _ := H.out.loc.cell 0 _ rfl
  have k1 := H.out.loc.cell 1 _ rfl
  have kd1 : wa.drew.cell? _ = _ := H.out.loc.cell 1 _ rfl
  have k2 := H.out.loc.cell 2 _ rfl
  have kd2 : wa.drew.cell? _ = _ := H.out.loc.cell 2 _ rfl
  have k3 := H.out.loc.cell 3 _ rfl
  have kd3 : wa.drew.cell? _ = _ := H.out.loc.cell 3 _ rfl
  have k4 := H.out.loc.cell 4 _ rfl
  have kd4 : wa.drew.cell? _ = _ := H.out.loc.cell 4 _ rfl
  go_region_with ((go_at_call 61; refine HC1.out.mono ?_; rintro e w2 ⟨v, L, rfl, hL, hown, ⟨t2, ht2, hc⟩, hg⟩; replace H := Lib.hid (HD.out.draw hg hc); have HO := Lib.hid hown; obtain ⟨A1, c1, rfl, _, _⟩ := own_form hown; clear hown hc hg HC1 HD k0 k1 k2 k3 k4; have k0 := H.out.loc.cell 0 _ rfl; have k1 := H.out.loc.cell 1 _ rfl; have k2 := H.out.loc.cell 2 _ rfl; have k3 := H.out.loc.cell 3 _ rfl; have k4 := H.out.loc.cell 4 _ rfl; have q0 := H.out.res.cell 0 _ rfl; have f0 := H.out.res.free 0; have q1 := H.out.res.cell 1 _ rfl; have f1 := H.out.res.free 1; have q2 := H.out.res.cell 2 _ rfl; have f2 := H.out.res.free 2; have q3 := H.out.res.cell 3 _ rfl; have f3 := H.out.res.free 3; have q4 := H.out.res.cell 4 _ rfl; have f4 := H.out.res.free 4))
  all_goals
    go_wp2_with fail
    have hZ := Lib.hid (((((H.out.res.set 0 (.int .i64 c)).set 1 (.int .i64 wd)).set 2 (.bool s)).set 3 (.int .i64 r)).set 4 (.int .i64 i))
    have hX := Lib.hid (below_set (below_set (below_set (below_set (below_set H.out.bl (g := w.heap.size) (j := 0) (Nat.le_refl _) (.int .i64 c)) (g := w.heap.size) (j := 1) (Nat.le_refl _) (.int .i64 wd)) (g := w.heap.size) (j := 2) (Nat.le_refl _) (.bool s)) (g := w.heap.size) (j := 3) (Nat.le_refl _) (.int .i64 r)) (g := w.heap.size) (j := 4) (Nat.le_refl _) (.int .i64 i))
    have hO := Lib.hid (own_five HO.out HL.out (.int .i64 c) (.int .i64 wd) (.bool s) (.int .i64 r) (.int .i64 i))
    clear k0 q0 f0 k1 q1 f1 k2 q2 f2 k3 q3 f3 k4 q4 f4
    revert hZ hX hO
    generalize (World.setCell (World.setCell (World.setCell (World.setCell (World.setCell _ _ _) _ _) _ _) _ _) _ _) = wz
    intro hZ hX hO
    have z0 := hZ.out.cell 0 _ rfl
    have z1 := hZ.out.cell 1 _ rfl
    have z2 := hZ.out.cell 2 _ rfl
    have z3 := hZ.out.cell 3 _ rfl
    have z4 := hZ.out.cell 4 _ rfl
    exact bodyPost_ret (v := .tuple #[.agg #[.int .i64 c, .int .i64 wd, .bool s, .int .i64 r, .int .i64 i], .slice A1 L.length c1]) (by simp [results, Try.results44, go_sem, z0, z1, z2, z3, z4]) rfl ⟨c, wd, s, r, i, A1, c1, L, rfl, hL, hO.out, hX.out⟩
end Go.Proofs.Ytaamjnpknmimmaa.Draw
