/- What the draws of interrupts answer: irqs, irq, cpu, prio. -/
import Derived.Test.YtclnhdjnmfkeaaaDrawO
import Derived.Test.YtclnhdjnmfkeaaaOne
import Derived.Test.YtclnhdjnmfkeaaaAmong
import Derived.Test.YtclnhdjnmfkeaaaNew
import Derived.Test.YtclnhdjnmfkeaaaIrqK
import Derived.Test.YtclnhdjnmfkeaaaDst
import Derived.Deep.Cut
import Derived.Deep.CutBlock
namespace Go.Proofs.Ytclnhdjnmfkeaaa.Draw
open Go Go.RowKit Go.Proofs.Ytclnhdjnmfkeaaa.Mem Go.Proofs.Ytclnhdjnmfkeaaa.Own Go.Proofs.Ytclnhdjnmfkeaaa.L6
set_option linter.unusedVariables false
theorem cells_new (w : World) (l : List Value) (t : TypeId) : ∀ j u, l[j]? = some u → (w.alloc (.cells l.toArray t)).cell? ((⟨w.heap.size, 0, none⟩ : Addr).add j) = some u := by
  intro j u hu
  rw [Go.WideShapes.add_plain, Nat.zero_add, cell_of_row _ _ _ _ _ _ (heap_alloc_new w _)]
  simpa using hu
theorem one_irq (x : Irq) : ∀ u ∈ ([.bool x.en, .bool x.pe, .bool x.ac, .int .i64 x.pr, .int .i64 x.tg] : List Value), u.oneCell' = true := by
  intro u hu
  simp at hu
  rcases hu with rfl | rfl | rfl | rfl | rfl <;> rfl
theorem snoc_irq (L : List Irq) (x : Irq) : FL L ++ [.bool x.en, .bool x.pe, .bool x.ac, .int .i64 x.pr, .int .i64 x.tg] = FL (L ++ [x]) := by
  rw [FL_append, FL_one]
  rfl
/-- a cursor and a list of interrupts beside it -/
structure LSt (w wr : World) (g B : Nat) (A : Option Addr) (n cp : Nat) (zs : List Int) (t : Nat) (v : Value) (m : Nat) (xs : List Irq) : Prop where
  cur : Cur wr g B A n cp zs t
  gr : w.grownBy wr (some g)
  own : wr.ownsRow w.heap.size 53 5 v m (FL xs)
  hg : g < w.heap.size
section
variable {w wr w' : World} {g B n cp t t' m m' : Nat} {A : Option Addr} {zs : List Int} {v v' : Value} {xs xs' : List Irq}
theorem LSt.draw (h : LSt w wr g B A n cp zs t v m xs) (hg : wr.grownBy w' (some g)) (hc : Cur w' g B A n cp zs t') : LSt w w' g B A n cp zs t' v m xs :=
  ⟨hc, grown_trans' h.gr hg, own_cur h.own hg h.hg, h.hg⟩
theorem LSt.below (h : LSt w wr g B A n cp zs t v m xs) (hb : Below wr.heap.size wr w') : LSt w w' g B A n cp zs t v m xs :=
  ⟨h.cur.below hb, grown_trans' h.gr ⟨hb.os, hb.tape, hb.output, hb.size, fun k hk _ => hb.block k hk⟩, own_below h.own hb, h.hg⟩
theorem LSt.grow (h : LSt w wr g B A n cp zs t v m xs) (hg : wr.grownBy w' v.ownBlock) (ho : w'.ownsRow w.heap.size 53 5 v' m' (FL xs')) : LSt w w' g B A n cp zs t v' m' xs' :=
  ⟨h.cur.grown hg (fun r e => Nat.lt_of_lt_of_le h.hg (h.own.lt r e).1), grown_over h.gr hg (fun r e => (h.own.lt r e).1), ho, h.hg⟩
theorem LSt.alloc (h : LSt w wr g B A n cp zs t v m xs) (o : Obj) : LSt w (wr.alloc o) g B A n cp zs t v m xs := h.below (below_more (Below.refl _ _) o)
end
/-- a list of at most nine interrupts has been drawn -/
def IrqsDrawn (w : World) (g B : Nat) (A : Option Addr) (n cp : Nat) (zs : List Int) (t : Nat) (e : Ending) (w' : World) : Prop :=
  ∃ (m gl c t' : Nat) (xs : List Irq), e = .returned (.slice (some ⟨gl, 0, none⟩) m c) ∧ m ≤ 9 ∧ t' ≤ t + 120 ∧ LSt w w' g B A n cp zs t' (.slice (some ⟨gl, 0, none⟩) m c) m xs
theorem own_cut {w : World} {base n c k : Nat} {e : TypeId} {A : Option Addr} {xs : List Irq} (h : w.ownsRow base e 5 (.slice A n c) n (FL xs)) (hk : k ≤ n) : w.ownsRow base e 5 (.slice A k c) k (FL (xs.take k)) := by
  have hl := h.1
  rw [FL_len] at hl
  have hl2 : xs.length = n := Nat.eq_of_mul_eq_mul_right (by decide : 0 < 5) hl
  refine ⟨by rw [FL_len, List.length_take]; show min k xs.length * 5 = k * 5; rw [hl2, Nat.min_eq_left hk], ?_⟩
  rcases h.2 with ⟨h', h0⟩ | ⟨g', cap', cur, h', hb, hg, hnc, hcm, hcs, htake⟩
  · simp only [Value.slice.injEq] at h'
    obtain ⟨rfl, _, rfl⟩ := h'
    exact .inl ⟨by rw [show k = 0 by omega], by omega⟩
  · simp only [Value.slice.injEq] at h'
    obtain ⟨rfl, _, rfl⟩ := h'
    refine .inr ⟨g', c, cur, rfl, hb, hg, by omega, hcm, hcs, ?_⟩
    have h5 := FL_take xs k
    have h6 : Cells.size Irq = 5 := rfl
    rw [h6] at h5
    rw [← h5, ← htake, List.take_take, Nat.min_eq_left (Nat.mul_le_mul_right 5 hk)]
set_option maxHeartbeats 1000000 in
theorem cpu_any (w : World) (g B : Nat) (A : Option Addr) (n cp : Nat) (zs : List Int) (t : Nat) (hz : ∀ z ∈ zs, 0 ≤ z ∧ z ≤ 255) (hc : Cur w g B A n cp zs t) (ht : t ≤ 800000) (hn : n ≤ 1000000) :
    Calls Try.prog 78 #[.pointer (some ⟨g, 0, none⟩)] w fun e w' => ∃ x : Int, e = .returned (.int .i64 x) ∧ (∃ t', t' ≤ t + 2 ∧ Cur w' g B A n cp zs t') ∧ w.grownBy w' (some g) := by
  have HC := Lib.hid hc
  have HZ := Lib.hid hz
  clear hc hz
  go_enter Try.func78, Try.ntmps78
  go_wp2_with fail
  refine (among_list _ g B A n cp zs _ HZ.out HC.out (by omega) hn [0, 0, 0, 1, 1, 2, 3, 0, 1, -1, 4] _ rfl 3 11 rfl (by omega) (by omega)).mono ?_
  rintro e w1 ⟨x, rfl, _, h1, h2⟩
  have H1 := Lib.hid h1
  have H2 := Lib.hid h2
  clear h1 h2
  go_wp2_with fail
  go_ret
  exact ⟨x, rfl, H1.out, H2.out⟩
set_option maxHeartbeats 1000000 in
theorem prio_any (w : World) (g B : Nat) (A : Option Addr) (n cp : Nat) (zs : List Int) (t : Nat) (hz : ∀ z ∈ zs, 0 ≤ z ∧ z ≤ 255) (hc : Cur w g B A n cp zs t) (ht : t ≤ 800000) (hn : n ≤ 1000000) :
    Calls Try.prog 82 #[.pointer (some ⟨g, 0, none⟩)] w fun e w' => ∃ x : Int, e = .returned (.int .i64 x) ∧ (∃ t', t' ≤ t + 2 ∧ Cur w' g B A n cp zs t') ∧ w.grownBy w' (some g) := by
  have HC := Lib.hid hc
  have HZ := Lib.hid hz
  clear hc hz
  go_enter Try.func82, Try.ntmps82
  go_wp2_with fail
  refine (among_list _ g B A n cp zs _ HZ.out HC.out (by omega) hn [0, 1, 2, 3, 5, 8, 15, 4, 4, 7, 12, 16, -1, 6] _ rfl 3 14 rfl (by omega) (by omega)).mono ?_
  rintro e w1 ⟨x, rfl, _, h1, h2⟩
  have H1 := Lib.hid h1
  have H2 := Lib.hid h2
  clear h1 h2
  go_wp2_with fail
  go_ret
  exact ⟨x, rfl, H1.out, H2.out⟩
set_option maxHeartbeats 1000000 in
theorem irq_any (w : World) (g B : Nat) (A : Option Addr) (n cp : Nat) (zs : List Int) (t : Nat) (hz : ∀ z ∈ zs, 0 ≤ z ∧ z ≤ 255) (hc : Cur w g B A n cp zs t) (ht : t ≤ 800000) (hn : n ≤ 1000000) :
    Calls Try.prog 80 #[.pointer (some ⟨g, 0, none⟩)] w fun e w' => ∃ x : Int, e = .returned (.int .i64 x) ∧ (∃ t', t' ≤ t + 4 ∧ Cur w' g B A n cp zs t') ∧ w.grownBy w' (some g) := by
  have HC := Lib.hid hc
  have HZ := Lib.hid hz
  clear hc hz
  go_enter Try.func80, Try.ntmps80
  go_wp2_with fail
  refine (one_any _ g B A n cp zs _ HZ.out HC.out (by omega) hn 20 (by omega) (by omega)).mono ?_
  rintro e w1 ⟨b, rfl, ⟨t1, ht1, hc1⟩, hg1⟩
  have HC1 := Lib.hid hc1
  have HG1 := Lib.hid hg1
  clear hc1 hg1 HC
  cases b with
  | true =>
    go_wp2_with fail
    refine (among_list _ g B A n cp zs _ HZ.out HC1.out (by omega) hn [-1, 8] _ rfl 3 2 rfl (by omega) (by omega)).mono ?_
    rintro e w2 ⟨x, rfl, _, ⟨t2, ht2, hc2⟩, hg2⟩
    have H2 := Lib.hid hc2
    have HG2 := Lib.hid (grown_trans' HG1.out hg2)
    clear hc2 hg2
    go_wp2_with fail
    go_ret
    exact ⟨x, rfl, ⟨t2, by omega, H2.out⟩, HG2.out⟩
  | false =>
    go_wp2_with fail
    refine (pick_any _ g B A n cp zs _ HZ.out HC1.out (by omega) hn 8 (by omega) (by omega)).mono ?_
    rintro e w2 ⟨x, rfl, _, _, ⟨t2, ht2, hc2⟩, hg2⟩
    have H2 := Lib.hid hc2
    have HG2 := Lib.hid (grown_trans' HG1.out hg2)
    clear hc2 hg2
    go_wp2_with fail
    go_ret
    exact ⟨x, rfl, ⟨t2, by omega, H2.out⟩, HG2.out⟩
set_option maxRecDepth 100000 in
set_option maxHeartbeats 4000000 in
theorem irqs_any (w : World) (g B : Nat) (A : Option Addr) (n cp : Nat) (zs : List Int) (t : Nat) (hz : ∀ z ∈ zs, 0 ≤ z ∧ z ≤ 255) (hc : Cur w g B A n cp zs t) (ht : t ≤ 800000) (hn : n ≤ 1000000) :
    Calls Try.prog 77 #[.pointer (some ⟨g, 0, none⟩)] w (IrqsDrawn w g B A n cp zs t) := by
  obtain ⟨i0, hi, hz0, hz1, hz2⟩ := info_parts infoIrq
  have HZ := Lib.hid hz
  have HL0 : Hid (LSt w (w.alloc (.cells #[] 53)) g B A n cp zs t (.slice (some ⟨w.heap.size, 0, none⟩) 0 0) 0 []) := Lib.hid ⟨hc.alloc _, World.grownBy_alloc w _ (some g), World.ownsRow_made w #[] 0 (Nat.le_refl _) (Nat.zero_le _) rfl, hc.lt⟩
  clear hz hc
  go_enter Try.func77, Try.ntmps77
  go_wp2_with fail
  go_loopw [3, 4] (fun u3 u4 wr => ∃ (k gl c t' : Nat) (xs : List Irq), u4 = .int .i64 k ∧ k ≤ 8 ∧ u3 = .slice (some ⟨gl, 0, none⟩) k c ∧ t' ≤ t + 10 * k ∧ Hid (LSt w wr g B A n cp zs t' (.slice (some ⟨gl, 0, none⟩) k c) k xs)) (fun _ u4 _ => 8 - (intOf u4).toNat)
  case atStart => exact ⟨0, _, 0, t, [], rfl, Nat.zero_le _, rfl, by omega, HL0⟩
  case round =>
    clear HL0
    obtain ⟨k, gl, c, t', xs, rfl, hk, rfl, htk, H⟩ := hrel
    by_cases hlt : k < 8
    · skip
      go_wp2_with fail
      refine (one_any _ g B A n cp zs _ HZ.out H.out.cur (by omega) hn 4 (by omega) (by omega)).mono ?_
      rintro e v1 ⟨y1, rfl, ⟨u1, hu1, hc⟩, hg⟩
      replace H := Lib.hid (H.out.draw hg hc)
      clear hc hg
      go_wp2_with fail
      refine (one_any _ g B A n cp zs _ HZ.out H.out.cur (by omega) hn 2 (by omega) (by omega)).mono ?_
      rintro e v2 ⟨y2, rfl, ⟨u2, hu2, hc⟩, hg⟩
      replace H := Lib.hid (H.out.draw hg hc)
      clear hc hg
      go_wp2_with fail
      refine (one_any _ g B A n cp zs _ HZ.out H.out.cur (by omega) hn 5 (by omega) (by omega)).mono ?_
      rintro e v3 ⟨y3, rfl, ⟨u3, hu3, hc⟩, hg⟩
      replace H := Lib.hid (H.out.draw hg hc)
      clear hc hg
      go_wp2_with fail
      refine (pick_any _ g B A n cp zs _ HZ.out H.out.cur (by omega) hn 8 (by omega) (by omega)).mono ?_
      rintro e v4 ⟨y4, rfl, hy40, hy41, ⟨u4, hu4, hc⟩, hg⟩
      replace H := Lib.hid (H.out.draw hg hc)
      clear hc hg
      go_wp2_with fail
      refine (among_list _ g B A n cp zs _ HZ.out H.out.cur (by omega) hn [0, 0, 0, 1, 1, 2, 3] _ rfl 3 7 rfl (by omega) (by omega)).mono ?_
      rintro e v5 ⟨y5, rfl, _, ⟨u5, hu5, hc⟩, hg⟩
      replace H := Lib.hid (H.out.draw hg hc)
      clear hc hg
      have hown := H.out.own
      have hsz := H.out.gr.size
      go_wp2_with (at_builtin; refine wpList_append_own _ rfl _ _ 25 rfl w.heap.size 53 i0 (.agg #[.bool false, .bool false, .bool false, .int .i64 0, .int .i64 0]) 5 24 Try.underlying25 hi hz0 hz1 hz2 rfl (by decide) _ _ _ rfl (hown.alloc _) ⟨v5.heap.size, 0, none⟩ 1 1 [.bool (!y1), .bool y2, .bool y3, .int .i64 y4, .int .i64 y5] rfl rfl (cells_new _ _ _) (one_irq ⟨!y1, y2, y3, y4, y5⟩) (by unfold maxLen; omega) (by omega) (by simp; omega) ?_; intro v' w4 hown1 hgrow1 _)
      obtain ⟨A6, c6, rfl, _, _⟩ := own_form hown1
      obtain ⟨g6, rfl⟩ := own_head hown1 (by omega)
      have hown2 : w4.ownsRow w.heap.size 53 5 (.slice (some ⟨g6, 0, none⟩) (k + 1) c6) (k + 1) (FL (xs ++ [⟨!y1, y2, y3, y4, y5⟩])) := by rw [← snoc_irq]; exact hown1
      have HN := Lib.hid ((H.out.alloc _).grow hgrow1 hown2)
      clear hown hsz hown1 hgrow1 hown2 H
      go_roundw
      case rel => exact ⟨k + 1, g6, c6, u5, xs ++ [⟨!y1, y2, y3, y4, y5⟩], by go_num, by omega, rfl, by omega, HN⟩
      case measure => simp [intOf]; omega
    · have hk8 : k = 8 := by omega
      subst hk8
      go_wp2_with fail
      refine (pick_any _ g B A n cp zs _ HZ.out H.out.cur (by omega) hn 32 (by omega) (by omega)).mono ?_
      rintro e v6 ⟨sw, rfl, hsw0, hsw1, ⟨u6, hu6, hc⟩, hg⟩
      replace H := Lib.hid (H.out.draw hg hc)
      clear hc hg
      by_cases h0 : sw = 0
      · subst h0
        have hown := H.out.own
        have hsz := H.out.gr.size
        go_wp2_with (at_builtin; refine wpList_append_own _ rfl _ _ 25 rfl w.heap.size 53 i0 (.agg #[.bool false, .bool false, .bool false, .int .i64 0, .int .i64 0]) 5 24 Try.underlying25 hi hz0 hz1 hz2 rfl (by decide) _ _ _ rfl (hown.alloc _) ⟨v6.heap.size, 0, none⟩ 1 1 [.bool false, .bool false, .bool false, .int .i64 0, .int .i64 0] rfl rfl (cells_new _ _ _) (one_irq ⟨false, false, false, 0, 0⟩) (by unfold maxLen; omega) (by omega) (by simp; omega) ?_; intro v' w4 hown1 hgrow1 _)
        obtain ⟨A6, c6, rfl, _, _⟩ := own_form hown1
        obtain ⟨g6, rfl⟩ := own_head hown1 (by omega)
        have hown2 : w4.ownsRow w.heap.size 53 5 (.slice (some ⟨g6, 0, none⟩) 9 c6) 9 (FL (xs ++ [⟨false, false, false, 0, 0⟩])) := by rw [← snoc_irq]; exact hown1
        have HN := Lib.hid ((H.out.alloc _).grow hgrow1 hown2)
        clear hown hsz hown1 hgrow1 hown2 H
        go_ret
        exact ⟨9, g6, c6, u6, _, rfl, by omega, by omega, HN.out⟩
      replace h0 : (sw == 0) = false := by simpa using h0
      by_cases h1 : sw = 1
      · subst h1
        have hcc : 8 ≤ c := by
          obtain ⟨_, _, e1, h3, _⟩ := own_form H.out.own
          simp only [Value.slice.injEq, true_and] at e1
          omega
        have HN : Hid (LSt w v6 g B A n cp zs u6 (.slice (some ⟨gl, 0, none⟩) 7 c) 7 (xs.take 7)) := Lib.hid ⟨H.out.cur, H.out.gr, own_cut H.out.own (by omega), H.out.hg⟩
        clear H
        go_wp2_with fail
        go_ret
        exact ⟨7, gl, c, u6, _, rfl, by omega, by omega, HN.out⟩
      replace h1 : (sw == 1) = false := by simpa using h1
      by_cases h2 : sw = 2
      · subst h2
        clear h0 h1
        go_wp2_with fail
        refine (pick_any _ g B A n cp zs _ HZ.out H.out.cur (by omega) hn 8 (by omega) (by omega)).mono ?_
        rintro e v7 ⟨j, rfl, hj0, hj1, ⟨u7, hu7, hc⟩, hg⟩
        replace H := Lib.hid (H.out.draw hg hc)
        clear hc hg
        go_wp2_with fail
        refine (among_list _ g B A n cp zs _ HZ.out H.out.cur (by omega) hn [-1, 15, 16] _ rfl 3 3 rfl (by omega) (by omega)).mono ?_
        rintro e v8 ⟨p, rfl, _, ⟨u8, hu8, hc⟩, hg⟩
        replace H := Lib.hid (H.out.draw hg hc)
        clear hc hg
        go_wp2_with fail
        refine (among_list _ g B A n cp zs _ HZ.out H.out.cur (by omega) hn [-1, 3, 4] _ rfl 3 3 rfl (by omega) (by omega)).mono ?_
        rintro e v9 ⟨q, rfl, _, ⟨u9, hu9, hc⟩, hg⟩
        replace H := Lib.hid (H.out.draw hg hc)
        clear hc hg
        obtain ⟨jn, rfl⟩ : ∃ jn : Nat, j = jn := ⟨j.toNat, by omega⟩
        have hjn : jn < 8 := by omega
        have hown := H.out.own
        have hxl : xs.length = 8 := by
          have h5 := hown.1
          rw [FL_len] at h5
          exact Nat.eq_of_mul_eq_mul_right (by decide : 0 < 5) h5
        have hfl : (FL xs).length = 40 := by rw [FL_len, hxl]; rfl
        have hpt := irq_put hown (k := jn) (by omega) ⟨false, false, false, p, q⟩
        have HN := Lib.hid (H.out.grow hpt.2 hpt.1)
        obtain ⟨d0, c0⟩ : ∃ d, v9.cell? ⟨gl, jn * 5, none⟩ = some d := ⟨_, (hown.cellAt (jn * 5) (by omega)).trans (List.getElem?_eq_getElem (by omega))⟩
        have f0 := hown.frozenAt (jn * 5)
        obtain ⟨d1, c1⟩ : ∃ d, v9.cell? ⟨gl, jn * 5 + 1, none⟩ = some d := ⟨_, (hown.cellAt (jn * 5 + 1) (by omega)).trans (List.getElem?_eq_getElem (by omega))⟩
        have f1 := hown.frozenAt (jn * 5 + 1)
        obtain ⟨d2, c2⟩ : ∃ d, v9.cell? ⟨gl, jn * 5 + 2, none⟩ = some d := ⟨_, (hown.cellAt (jn * 5 + 2) (by omega)).trans (List.getElem?_eq_getElem (by omega))⟩
        have f2 := hown.frozenAt (jn * 5 + 2)
        obtain ⟨d3, c3⟩ : ∃ d, v9.cell? ⟨gl, jn * 5 + 3, none⟩ = some d := ⟨_, (hown.cellAt (jn * 5 + 3) (by omega)).trans (List.getElem?_eq_getElem (by omega))⟩
        have f3 := hown.frozenAt (jn * 5 + 3)
        obtain ⟨d4, c4⟩ : ∃ d, v9.cell? ⟨gl, jn * 5 + 4, none⟩ = some d := ⟨_, (hown.cellAt (jn * 5 + 4) (by omega)).trans (List.getElem?_eq_getElem (by omega))⟩
        have f4 := hown.frozenAt (jn * 5 + 4)
        clear hown hpt hfl hxl H
        go_wp2_with fail
        go_ret
        exact ⟨8, gl, c, u9, _, rfl, by omega, by omega, HN.out⟩
      replace h2 : (sw == 2) = false := by simpa using h2
      go_wp2_with fail
      go_ret
      exact ⟨8, gl, c, u6, xs, rfl, by omega, by omega, H.out⟩
end Go.Proofs.Ytclnhdjnmfkeaaa.Draw
