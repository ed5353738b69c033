/- For every code the law FnSlotEnds returns true. -/
import Derived.Test.YtadpjkghfgnbbaaRows
import Derived.Test.YtadpjkghfgnbbaaFrame
import Derived.Deep.Cut
import Derived.Deep.CutRange
import Derived.BigQuiet
import Derived.Test.YtadpjkghfgnbbaaSloB
import Derived.Test.YtadpjkghfgnbbaaDrawO
import Derived.Test.YtadpjkghfgnbbaaOne
import Derived.Test.YtadpjkghfgnbbaaAmong
import Derived.Test.YtadpjkghfgnbbaaNew
import Derived.Test.YtadpjkghfgnbbaaSltT
import Derived.Test.YtadpjkghfgnbbaaSlTb
import Derived.Test.YtadpjkghfgnbbaaSlTd
import Derived.Deep.CutBlock
import Derived.Test.YtadpjkghfgnbbaaSlS
import Derived.Test.YtadpjkghfgnbbaaPut
import Derived.Deep.RegionWith
import Derived.Deep.DeepMust
import Derived.Test.YtadpjkghfgnbbaaSltA
import Derived.Test.YtadpjkghfgnbbaaBlk
import Derived.Test.YtadpjkghfgnbbaaStep
import Derived.Test.YtadpjkghfgnbbaaSlX
import Derived.Test.YtadpjkghfgnbbaaSlP
import Derived.Test.YtadpjkghfgnbbaaSlTc
import Derived.Test.YtadpjkghfgnbbaaRow
import Derived.Test.YtadpjkghfgnbbaaLaySo
import Derived.Test.YtadpjkghfgnbbaaSrt
import Derived.Test.YtadpjkghfgnbbaaInf
import Derived.Laws.AppendOwnNone
namespace Go.Proofs.Ytadpjkghfgnbbaa.L8
open Go Go.Proofs.Ytadpjkghfgnbbaa.Own
theorem okB_of {xs : List Slt} (h4 : xs.length = 4) (hok : ∀ (j : Nat) (x : Slt), xs[j]? = some x → Ok x) (hne : ∀ (i j : Nat) (x y : Slt), i < j → xs[i]? = some x → xs[j]? = some y → x.st ≠ 0 → y.st ≠ 0 → x.iq ≠ y.iq) : okB xs = true := by
  unfold okB
  rw [decide_eq_true h4, Bool.true_and, h4]
  unfold upB
  rw [List.all_eq_true]
  intro j hj
  rw [List.mem_range] at hj
  have hx := at_getD (xs := xs) (j := j) (by omega)
  rw [atB_eq hx, decide_eq_true (hok j _ hx), Bool.true_and, Bool.or_eq_true, beq_iff_eq, Bool.not_eq_true', List.any_eq_false]
  by_cases h0 : (xs.getD j default).st = 0
  · exact .inl h0
  · right
    intro y hy
    rw [List.mem_take_iff_getElem] at hy
    obtain ⟨i, hi, rfl⟩ := hy
    have hil : i < xs.length := by omega
    simp only [has, Bool.and_eq_true, bne_iff_ne, beq_iff_eq, not_and]
    intro h1
    exact hne i j _ _ (by omega) (List.getElem?_eq_getElem hil) hx h1 h0
/-- one slot changed, to what is valid and no other slot holds -/
theorem okB_set {xs : List Slt} (h : okB xs = true) {k : Nat} {y : Slt} (hy : Ok y) (hn : y.st ≠ 0 → ∀ (j : Nat) (x : Slt), j ≠ k → xs[j]? = some x → x.st ≠ 0 → x.iq ≠ y.iq) : okB (xs.set k y) = true := by
  have h4 := okB_len h
  refine okB_of (by rw [List.length_set]; exact h4) (fun j x hx => ?_) (fun i j x z hij hx hz h0 h1 => ?_)
  · by_cases e : k = j
    · subst e
      have hk : k < xs.length := by have := (List.getElem?_eq_some_iff.1 hx).1; rw [List.length_set] at this; exact this
      rw [List.getElem?_set_self hk] at hx
      rw [← Option.some.inj hx]; exact hy
    · rw [List.getElem?_set_ne e] at hx
      exact okB_ok h hx
  · have hil : i < xs.length := by have := (List.getElem?_eq_some_iff.1 hx).1; rw [List.length_set] at this; exact this
    have hjl : j < xs.length := by have := (List.getElem?_eq_some_iff.1 hz).1; rw [List.length_set] at this; exact this
    by_cases e : k = i
    · subst e
      rw [List.getElem?_set_self hil] at hx
      have he : y = x := Option.some.inj hx
      subst he
      rw [List.getElem?_set_ne (by omega)] at hz
      exact fun hh => hn h0 j z (by omega) hz h1 hh.symm
    · rw [List.getElem?_set_ne e] at hx
      by_cases e2 : k = j
      · subst e2
        rw [List.getElem?_set_self hjl] at hz
        have he : y = z := Option.some.inj hz
        subst he
        exact hn h1 i x (by omega) hx h0
      · rw [List.getElem?_set_ne e2] at hz
        intro hh
        have := okB_one h hx hz h0 h1 hh
        omega
/-- one slot changed that holds the interrupt of before -/
theorem okB_keep {xs : List Slt} (h : okB xs = true) {k : Nat} {x y : Slt} (hx : xs[k]? = some x) (h0 : x.st ≠ 0) (hy : Ok y) (he : y.iq = x.iq) : okB (xs.set k y) = true :=
  okB_set h hy (fun _ _ _ hj hz h1 hh => hj (okB_one h hz hx h1 h0 (hh.trans he)))
theorem okB_nul {xs : List Slt} (h : okB xs = true) (k : Nat) : okB (xs.set k nul) = true := okB_set h (.inl ⟨rfl, rfl, rfl⟩) (fun h => absurd rfl h)
theorem has_st {q : Int} {x : Slt} (h : has q x = true) : x.st ≠ 0 ∧ x.iq = q := by simpa [has] using h
theorem ok_keep {x : Slt} (h : Ok x) (h0 : x.st ≠ 0) {z : Int} (hz : z = 1 ∨ z = 2 ∨ z = 3) : Ok { x with st := z } := by
  unfold Ok at *
  simp only
  omega
theorem ok_again {x : Slt} (h : Ok x) (h0 : x.st ≠ 0) : Ok (again x) := by
  unfold again
  exact ok_keep h h0 (by unfold Ok at h; split <;> omega)
theorem put_ok {xs : List Slt} {q p : Int} (h : okB xs = true) (hq : 0 ≤ q ∧ q < 8) (hp : 0 ≤ p ∧ p < 16) (l : List Slt) (hl : putOf xs q p = (l, true)) : okB l = true := by
  rcases ixOf_cases (has q) xs with ⟨hf, hn⟩ | ⟨k, x, hf, hk, hx, hh, _⟩
  · rcases ixOf_cases (fun x => x.st == 0) xs with ⟨he, _⟩ | ⟨k, x, he, hk, hx, hh, _⟩
    · rw [putOf_no hf he] at hl
      cases (congrArg Prod.snd hl)
    · rw [putOf_new hf he] at hl
      rw [← (Prod.mk.inj hl).1]
      refine okB_set h (.inr ⟨.inl rfl, hq, hp⟩) (fun _ _ z _ hz h1 hh => ?_)
      have := List.any_eq_false.1 hn z (List.mem_of_getElem? hz)
      exact this (by simp [has, h1, hh])
  · rw [putOf_at hf hx] at hl
    rw [← (Prod.mk.inj hl).1]
    exact okB_keep h hx (has_st hh).1 (ok_again (okB_ok h hx) (has_st hh).1) rfl
theorem tk_ok {xs : List Slt} {lim : Int} (h : okB xs = true) (l : List Slt) (z : Int) (hl : tkOf xs lim = (l, z, true)) : okB l = true := by
  rcases bst_is true xs 4 with ⟨hb, _⟩ | ⟨k, hb, hj⟩
  · rw [tkOf_no hb] at hl
    cases (congrArg (fun x => x.2.2) hl)
  · have hx := at_getD (xs := xs) (j := k) (by rw [okB_len h]; exact hj.lt)
    have h1 := hj.one
    by_cases hp : lim ≤ (xs.getD k default).pr
    · rw [tkOf_hi hb hx hp] at hl
      cases (congrArg (fun x => x.2.2) hl)
    · rw [tkOf_yes hb hx (by omega)] at hl
      rw [← (Prod.mk.inj hl).1]
      exact okB_keep h hx (by rw [h1]; decide) (ok_keep (okB_ok h hx) (by rw [h1]; decide) (.inr (.inl rfl))) rfl
theorem end_ok {xs : List Slt} {q : Int} (h : okB xs = true) (l : List Slt) (hl : endOf xs q = (l, true)) : okB l = true := by
  rcases ixOf_cases (has q) xs with ⟨hf, _⟩ | ⟨k, x, hf, hk, hx, hh, _⟩
  · rw [endOf_no hf] at hl
    cases (congrArg Prod.snd hl)
  · by_cases h1 : x.st = 1
    · rw [endOf_1 hf hx h1] at hl
      cases (congrArg Prod.snd hl)
    · by_cases h2 : x.st = 2
      · rw [endOf_2 hf hx h2] at hl
        rw [← (Prod.mk.inj hl).1]
        exact okB_nul h k
      · rw [endOf_3 hf hx h1 h2] at hl
        rw [← (Prod.mk.inj hl).1]
        exact okB_keep h hx (has_st hh).1 (ok_keep (okB_ok h hx) (has_st hh).1 (.inl rfl)) rfl
/-- the count of empty slots where one is changed -/
theorem emp_set {xs : List Slt} {k : Nat} {x y : Slt} (hx : xs[k]? = some x) : emp (xs.set k y) + (if x.st = 0 then 1 else 0) = emp xs + (if y.st = 0 then 1 else 0) := by
  unfold emp
  induction xs generalizing k with
  | nil => simp at hx
  | cons z xs ih =>
    cases k with
    | zero =>
      simp only [List.getElem?_cons_zero, Option.some.injEq] at hx
      subst hx
      simp only [List.set_cons_zero, List.countP_cons, beq_iff_eq]
      omega
    | succ k =>
      simp only [List.getElem?_cons_succ] at hx
      have h := ih hx
      simp only [List.set_cons_succ, List.countP_cons]
      omega
/-- what is evicted can be put again, and as many are empty as before -/
theorem ev_put {xs : List Slt} {k : Nat} {x : Slt} (h : okB xs = true) (hx : xs[k]? = some x) (h1 : x.st = 1) : ∃ l, putAns (xs.set k nul) x.iq x.pr = (l, true) ∧ okB l = true ∧ emp l = emp xs := by
  have hk := (List.getElem?_eq_some_iff.1 hx).1
  have hok := okB_ok h hx
  have h0 : x.st ≠ 0 := by omega
  have hb : (0 ≤ x.iq ∧ x.iq < 8) ∧ (0 ≤ x.pr ∧ x.pr < 16) := by unfold Ok at hok; omega
  have ho := okB_nul h k
  have hput : putAns (xs.set k nul) x.iq x.pr = putOf (xs.set k nul) x.iq x.pr := by unfold putAns; rw [if_pos ⟨ho, hb.1, hb.2⟩]
  have hf : fnd (xs.set k nul) x.iq = -1 := by
    rcases ixOf_cases (has x.iq) (xs.set k nul) with ⟨hf, _⟩ | ⟨j, y, _, _, hy, hh, _⟩
    · exact hf
    · exfalso
      have hs := has_st hh
      by_cases e : k = j
      · subst e
        rw [List.getElem?_set_self hk] at hy
        rw [← Option.some.inj hy] at hs
        exact hs.1 rfl
      · rw [List.getElem?_set_ne e] at hy
        exact e (okB_one h hx hy h0 hs.1 hs.2.symm)
  rcases ixOf_cases (fun x => x.st == 0) (xs.set k nul) with ⟨_, hn⟩ | ⟨j, y, he, hj, hy, hh, _⟩
  · exfalso
    have := List.any_eq_false.1 hn nul (List.mem_of_getElem? (List.getElem?_set_self hk))
    exact this rfl
  · refine ⟨_, by rw [hput]; exact putOf_new hf he, put_ok ho hb.1 hb.2 _ (putOf_new hf he), ?_⟩
    have a := emp_set (y := ⟨1, x.iq, x.pr⟩) hy
    have b := emp_set (y := nul) hx
    have hy0 : y.st = 0 := by simpa using hh
    rw [if_pos hy0, if_neg (show ¬ (1 : Int) = 0 by decide)] at a
    rw [if_neg h0, if_pos (show nul.st = 0 from rfl)] at b
    omega
end Go.Proofs.Ytadpjkghfgnbbaa.L8

namespace Go.Proofs.Ytadpjkghfgnbbaa.Draw
open Go Go.RowKit Go.Proofs.Ytadpjkghfgnbbaa.Mem Go.Proofs.Ytadpjkghfgnbbaa.Own Go.Proofs.Ytadpjkghfgnbbaa.L8
set_option linter.unusedVariables false
/-- a cursor and slots beside it -/
structure SlSt (w wr : World) (g B : Nat) (A : Option Addr) (n cp : Nat) (zs : List Int) (t : Nat) (v : Value) (m : Nat) (xs : List Slt) : Prop where
  cur : Cur wr g B A n cp zs t
  gr : w.grownBy wr (some g)
  own : wr.ownsRow w.heap.size 33 3 v m (FL xs)
  hg : g < w.heap.size
section
variable {w wr w' : World} {g B n cp t t' m m' : Nat} {A : Option Addr} {zs : List Int} {v v' : Value} {xs xs' : List Slt}
theorem SlSt.draw (h : SlSt w wr g B A n cp zs t v m xs) (hg : wr.grownBy w' (some g)) (hc : Cur w' g B A n cp zs t') : SlSt w w' g B A n cp zs t' v m xs :=
  ⟨hc, grown_trans' h.gr hg, own_cur h.own hg h.hg, h.hg⟩
theorem SlSt.below (h : SlSt w wr g B A n cp zs t v m xs) (hb : Below wr.heap.size wr w') : SlSt w w' g B A n cp zs t v m xs :=
  ⟨h.cur.below hb, grown_trans' h.gr ⟨hb.os, hb.tape, hb.output, hb.size, fun k hk _ => hb.block k hk⟩, own_below h.own hb, h.hg⟩
theorem SlSt.take (h : SlSt w wr g B A n cp zs t v m xs) (hb : Below wr.heap.size wr w') (ho : w'.ownsRow wr.heap.size 33 3 v' m' (FL xs')) : SlSt w w' g B A n cp zs t v' m' xs' :=
  ⟨h.cur.below hb, grown_trans' h.gr ⟨hb.os, hb.tape, hb.output, hb.size, fun k hk _ => hb.block k hk⟩, own_mono ho h.gr.size, h.hg⟩
theorem SlSt.grow (h : SlSt w wr g B A n cp zs t v m xs) (hg : wr.grownBy w' v.ownBlock) (ho : w'.ownsRow w.heap.size 33 3 v' m' (FL xs')) : SlSt w w' g B A n cp zs t v' m' xs' :=
  ⟨h.cur.grown hg (fun r e => Nat.lt_of_lt_of_le h.hg (h.own.lt r e).1), grown_over h.gr hg (fun r e => (h.own.lt r e).1), ho, h.hg⟩
theorem SlSt.alloc (h : SlSt w wr g B A n cp zs t v m xs) (o : Obj) : SlSt w (wr.alloc o) g B A n cp zs t v m xs := h.below (below_more (Below.refl _ _) o)
end
/-- four or five slots have been drawn -/
def SlotsDrawn (w : World) (g B : Nat) (A : Option Addr) (n cp : Nat) (zs : List Int) (t : Nat) (e : Ending) (w' : World) : Prop :=
  ∃ (m gl c t' : Nat) (xs : List Slt), e = .returned (.slice (some ⟨gl, 0, none⟩) m c) ∧ m ≤ 5 ∧ t' ≤ t + 130 ∧ SlSt w w' g B A n cp zs t' (.slice (some ⟨gl, 0, none⟩) m c) m xs
theorem len4 {w : World} {b g c : Nat} {xs : List Slt} (h : w.ownsRow b 33 3 (.slice (some ⟨g, 0, none⟩) 4 c) 4 (FL xs)) : xs.length = 4 := by
  have h1 := h.1
  rw [FL_len] at h1
  have h2 : Cells.size Slt = 3 := rfl
  rw [h2] at h1
  omega
theorem cells_newS (w : World) (l : List Value) (t : TypeId) : ∀ j u, l[j]? = some u → (w.alloc (.cells l.toArray t)).cell? ((⟨w.heap.size, 0, none⟩ : Addr).add j) = some u := by
  intro j u hu
  rw [Go.WideShapes.add_plain, Nat.zero_add, cell_of_row _ _ _ _ _ _ (heap_alloc_new w _)]
  simpa using hu
theorem snoc_slt (L : List Slt) (x : Slt) : FL L ++ [.int .i64 x.st, .int .i64 x.iq, .int .i64 x.pr] = FL (L ++ [x]) := by
  rw [FL_append, FL_one]
  rfl
set_option maxRecDepth 100000 in
set_option maxHeartbeats 1600000 in
theorem slots_any (w : World) (g B : Nat) (A : Option Addr) (n cp : Nat) (zs : List Int) (t : Nat) (hz : ∀ z ∈ zs, 0 ≤ z ∧ z ≤ 255) (hc : Cur w g B A n cp zs t) (ht : t ≤ 800000) (hn : n ≤ 1000000) :
    Calls Try.prog 45 #[.pointer (some ⟨g, 0, none⟩)] w (SlotsDrawn w g B A n cp zs t) := by
  obtain ⟨i0, hi, hz0, hz1, hz2⟩ := info_parts infoSlt
  have HZ := Lib.hid hz
  have H0 : Hid (SlSt w (w.alloc (.cells #[.int .i64 0, .int .i64 0, .int .i64 0, .int .i64 0, .int .i64 0, .int .i64 0, .int .i64 0, .int .i64 0, .int .i64 0, .int .i64 0, .int .i64 0, .int .i64 0] 33)) g B A n cp zs t (.slice (some ⟨w.heap.size, 0, none⟩) 4 4) 4 [nul, nul, nul, nul]) := Lib.hid ⟨hc.alloc _, World.grownBy_alloc w _ (some g), own_arr (xs := [nul, nul, nul, nul]) (Blk.new w #[.int .i64 0, .int .i64 0, .int .i64 0, .int .i64 0, .int .i64 0, .int .i64 0, .int .i64 0, .int .i64 0, .int .i64 0, .int .i64 0, .int .i64 0, .int .i64 0] 33) rfl (Nat.le_refl _), hc.lt⟩
  clear hz hc
  go_enter Try.func45, Try.ntmps45
  go_wp2_with fail
  refine (pick_any _ g B A n cp zs _ HZ.out H0.out.cur (by omega) hn 9 (by omega) (by omega)).mono ?_
  rintro e w1 ⟨y, rfl, hy0, hy1, ⟨a1, ha1, hc⟩, hg⟩
  replace H0 := Lib.hid (H0.out.draw hg hc)
  clear hc hg
  obtain ⟨y, rfl⟩ : ∃ k : Nat, y = k := ⟨y.toNat, by omega⟩
  go_wp2_with fail
  go_loopw [3, 4] (fun u3 u4 wr => ∃ (r k gl c t' : Nat) (xs : List Slt), u4 = .int .i64 r ∧ r + k ≤ 8 ∧ u3 = .slice (some ⟨gl, 0, none⟩) 4 c ∧ t' ≤ t + 2 + 10 * k ∧ Hid (SlSt w wr g B A n cp zs t' (.slice (some ⟨gl, 0, none⟩) 4 c) 4 xs) ∧ Hid (okB xs = true)) (fun _ u4 _ => (intOf u4).toNat)
  case atStart => exact ⟨y, 0, _, 4, a1, _, rfl, by omega, rfl, by omega, H0, Lib.hid (by decide)⟩
  case round =>
    clear H0 hy0 hy1 ha1
    obtain ⟨r, k, gl, c, t', xs, rfl, hrk, rfl, ht', H, HG⟩ := hrel
    by_cases hr : 0 < r
    · have hrz : (r : Int) > 0 := by omega
      have hrt : decide ((r : Int) > 0) = true := decide_eq_true hrz
      have hwr : IntKind.i64.wrap ((r : Int) - 1) = ((r - 1 : Nat) : Int) := by rw [show ((r : Int) - 1) = ((r - 1 : Nat) : Int) by omega]; exact IntWalk.i64_in _ (by omega)
      go_wp2_with fail
      refine (pick_any _ g B A n cp zs _ HZ.out H.out.cur (by omega) hn 4 (by omega) (by omega)).mono ?_
      rintro e v1 ⟨s, rfl, hs0, hs1, ⟨b1, hb1, hc⟩, hg⟩
      replace H := Lib.hid (H.out.draw hg hc)
      clear hc hg
      have hs4 : s = 0 ∨ s = 1 ∨ s = 2 ∨ s = 3 := by omega
      clear hs0 hs1
      rcases hs4 with rfl | rfl | rfl | rfl
      · skip
        go_wp2_with fail
        refine (pick_any _ g B A n cp zs _ HZ.out H.out.cur (by omega) hn 8 (by omega) (by omega)).mono ?_
        rintro e v2 ⟨q, rfl, hq0, hq1, ⟨b2, hb2, hc⟩, hg⟩
        replace H := Lib.hid (H.out.draw hg hc)
        clear hc hg
        go_wp2_with fail
        refine (pick_any _ g B A n cp zs _ HZ.out H.out.cur (by omega) hn 8 (by omega) (by omega)).mono ?_
        rintro e v3 ⟨p, rfl, hp0, hp1, ⟨b3, hb3, hc⟩, hg⟩
        replace H := Lib.hid (H.out.draw hg hc)
        clear hc hg
        have hput := put_ok HG.out (q := q) (p := p) ⟨hq0, hq1⟩ (by omega)
        have HC := Lib.hid (l8Put_any (some ⟨gl, 0, none⟩) c xs q p v3 (own_reads H.out.own) HG.out)
        obtain ⟨rr, hrr⟩ : ∃ r, putOf xs q p = r := ⟨_, rfl⟩
        rw [hrr] at HC
        obtain ⟨l, d⟩ := rr
        have HP : Hid (d = true → okB l = true) := Lib.hid (fun h => hput l (by rw [hrr, h]))
        clear hput hrr
        go_wp2_with fail
        refine HC.out.mono ?_
        rintro e v4 ⟨A', c', rfl, hown, hb⟩
        clear HC
        cases d with
        | false =>
          have HN := Lib.hid (H.out.below hb)
          clear hown hb H HP
          go_wp2_with fail
          go_roundw
          case rel => exact ⟨r - 1, k + 1, gl, c, b3, xs, by go_num, by omega, rfl, by omega, HN, HG⟩
          case measure => simp [intOf]; omega
        | true =>
          have HG2 := Lib.hid (HP.out rfl)
          have hl4 := okB_len HG2.out
          simp only at hown
          rw [hl4] at hown
          obtain ⟨g6, rfl⟩ := own_head hown (by omega)
          have HN := Lib.hid (H.out.take hb hown)
          simp only [hl4]
          clear hown hb H HP hl4
          go_wp2_with fail
          go_roundw
          case rel => exact ⟨r - 1, k + 1, g6, c', b3, l, by go_num, by omega, rfl, by omega, HN, HG2⟩
          case measure => simp [intOf]; omega
      · skip
        go_wp2_with fail
        refine (pick_any _ g B A n cp zs _ HZ.out H.out.cur (by omega) hn 8 (by omega) (by omega)).mono ?_
        rintro e v2 ⟨q, rfl, hq0, hq1, ⟨b2, hb2, hc⟩, hg⟩
        replace H := Lib.hid (H.out.draw hg hc)
        clear hc hg
        go_wp2_with fail
        refine (pick_any _ g B A n cp zs _ HZ.out H.out.cur (by omega) hn 8 (by omega) (by omega)).mono ?_
        rintro e v3 ⟨p, rfl, hp0, hp1, ⟨b3, hb3, hc⟩, hg⟩
        replace H := Lib.hid (H.out.draw hg hc)
        clear hc hg
        have hput := put_ok HG.out (q := q) (p := p) ⟨hq0, hq1⟩ (by omega)
        have HC := Lib.hid (l8Put_any (some ⟨gl, 0, none⟩) c xs q p v3 (own_reads H.out.own) HG.out)
        obtain ⟨rr, hrr⟩ : ∃ r, putOf xs q p = r := ⟨_, rfl⟩
        rw [hrr] at HC
        obtain ⟨l, d⟩ := rr
        have HP : Hid (d = true → okB l = true) := Lib.hid (fun h => hput l (by rw [hrr, h]))
        clear hput hrr
        go_wp2_with fail
        refine HC.out.mono ?_
        rintro e v4 ⟨A', c', rfl, hown, hb⟩
        clear HC
        cases d with
        | false =>
          have HN := Lib.hid (H.out.below hb)
          clear hown hb H HP
          go_wp2_with fail
          go_roundw
          case rel => exact ⟨r - 1, k + 1, gl, c, b3, xs, by go_num, by omega, rfl, by omega, HN, HG⟩
          case measure => simp [intOf]; omega
        | true =>
          have HG2 := Lib.hid (HP.out rfl)
          have hl4 := okB_len HG2.out
          simp only at hown
          rw [hl4] at hown
          obtain ⟨g6, rfl⟩ := own_head hown (by omega)
          have HN := Lib.hid (H.out.take hb hown)
          simp only [hl4]
          clear hown hb H HP hl4
          go_wp2_with fail
          go_roundw
          case rel => exact ⟨r - 1, k + 1, g6, c', b3, l, by go_num, by omega, rfl, by omega, HN, HG2⟩
          case measure => simp [intOf]; omega
      · have HC := Lib.hid (l8Take_any (some ⟨gl, 0, none⟩) c xs 16 v1 (own_reads H.out.own) HG.out)
        have htk := tk_ok HG.out (lim := 16)
        have HK := Lib.hid htk
        clear htk
        go_wp2_with fail
        refine HC.out.mono ?_
        rintro e v4 (⟨_, rfl, hb⟩ | ⟨l, z, g6, c', hl, hl4, hz, rfl, hown, hb⟩)
        · have HN := Lib.hid (H.out.below hb)
          clear hb H HC HK
          go_wp2_with fail
          go_roundw
          case rel => exact ⟨r - 1, k + 1, gl, c, b1, xs, by go_num, by omega, rfl, by omega, HN, HG⟩
          case measure => simp [intOf]; omega
        · have HG2 := Lib.hid (HK.out l z hl)
          have HN := Lib.hid (H.out.take hb hown)
          clear hb hown hl hl4 hz H HC HK
          go_wp2_with fail
          go_roundw
          case rel => exact ⟨r - 1, k + 1, g6, c', b1, l, by go_num, by omega, rfl, by omega, HN, HG2⟩
          case measure => simp [intOf]; omega
      · skip
        go_wp2_with fail
        refine (pick_any _ g B A n cp zs _ HZ.out H.out.cur (by omega) hn 8 (by omega) (by omega)).mono ?_
        rintro e v2 ⟨q, rfl, hq0, hq1, ⟨b2, hb2, hc⟩, hg⟩
        replace H := Lib.hid (H.out.draw hg hc)
        clear hc hg
        have hput := end_ok HG.out (q := q)
        have HC := Lib.hid (l8End_any (some ⟨gl, 0, none⟩) c xs q v2 (own_reads H.out.own) HG.out)
        obtain ⟨rr, hrr⟩ : ∃ r, endOf xs q = r := ⟨_, rfl⟩
        rw [hrr] at HC
        obtain ⟨l, d⟩ := rr
        have HP : Hid (d = true → okB l = true) := Lib.hid (fun h => hput l (by rw [hrr, h]))
        clear hput hrr
        go_wp2_with fail
        refine HC.out.mono ?_
        rintro e v4 ⟨A', c', rfl, hown, hb⟩
        clear HC
        cases d with
        | false =>
          have HN := Lib.hid (H.out.below hb)
          clear hown hb H HP
          go_wp2_with fail
          go_roundw
          case rel => exact ⟨r - 1, k + 1, gl, c, b2, xs, by go_num, by omega, rfl, by omega, HN, HG⟩
          case measure => simp [intOf]; omega
        | true =>
          have HG2 := Lib.hid (HP.out rfl)
          have hl4 := okB_len HG2.out
          simp only at hown
          rw [hl4] at hown
          obtain ⟨g6, rfl⟩ := own_head hown (by omega)
          have HN := Lib.hid (H.out.take hb hown)
          have HM := Lib.hid (H.out.below hb)
          simp only [hl4]
          clear hown hb H HP hl4
          go_wp2_with fail
          refine (one_any _ g B A n cp zs _ HZ.out HN.out.cur (by omega) hn 2 (by omega) (by omega)).mono ?_
          rintro e v5 ⟨bb, rfl, ⟨b3, hb3, hc⟩, hg⟩
          replace HN := Lib.hid (HN.out.draw hg hc)
          replace HM := Lib.hid (HM.out.draw hg hc)
          clear hc hg
          cases bb with
          | true =>
            clear HM
            go_wp2_with fail
            go_roundw
            case rel => exact ⟨r - 1, k + 1, g6, c', b3, l, by go_num, by omega, rfl, by omega, HN, HG2⟩
            case measure => simp [intOf]; omega
          | false =>
            clear HN
            go_wp2_with fail
            go_roundw
            case rel => exact ⟨r - 1, k + 1, gl, c, b3, xs, by go_num, by omega, rfl, by omega, HM, HG⟩
            case measure => simp [intOf]; omega
    · have hr0 : r = 0 := by omega
      subst hr0
      go_wp2_with fail
      refine (pick_any _ g B A n cp zs _ HZ.out H.out.cur (by omega) hn 24 (by omega) (by omega)).mono ?_
      rintro e v1 ⟨s, rfl, hs0, hs1, ⟨b1, hb1, hc⟩, hg⟩
      replace H := Lib.hid (H.out.draw hg hc)
      clear hc hg
      by_cases h0 : s = 0
      · subst h0
        go_wp2_with fail
        refine (pick_any _ g B A n cp zs _ HZ.out H.out.cur (by omega) hn 4 (by omega) (by omega)).mono ?_
        rintro e v2 ⟨x, rfl, hx0, hx1, ⟨b2, hb2, hc⟩, hg⟩
        replace H := Lib.hid (H.out.draw hg hc)
        clear hc hg
        obtain ⟨kk, rfl⟩ : ∃ k : Nat, x = k := ⟨x.toNat, by omega⟩
        go_wp2_with fail
        refine (among_list _ g B A n cp zs _ HZ.out H.out.cur (by omega) hn [-1, 4, 1] _ rfl 3 3 rfl (by omega) (by omega)).mono ?_
        rintro e v3 ⟨z3, rfl, _, ⟨b3, hb3, hc⟩, hg⟩
        replace H := Lib.hid (H.out.draw hg hc)
        clear hc hg
        go_wp2_with fail
        refine (among_list _ g B A n cp zs _ HZ.out H.out.cur (by omega) hn [-1, 7, 8] _ rfl 3 3 rfl (by omega) (by omega)).mono ?_
        rintro e v4 ⟨z4, rfl, _, ⟨b4, hb4, hc⟩, hg⟩
        replace H := Lib.hid (H.out.draw hg hc)
        clear hc hg
        go_wp2_with fail
        refine (among_list _ g B A n cp zs _ HZ.out H.out.cur (by omega) hn [-1, 15, 16] _ rfl 3 3 rfl (by omega) (by omega)).mono ?_
        rintro e v5 ⟨z5, rfl, _, ⟨b5, hb5, hc⟩, hg⟩
        replace H := Lib.hid (H.out.draw hg hc)
        clear hc hg
        have hl4 := len4 H.out.own
        have hfl : (FL xs).length = 12 := by rw [FL_len, hl4]; rfl
        have HPUT := slt_put H.out.own (k := kk) (by omega) ⟨z3, z4, z5⟩
        have HN := Lib.hid (H.out.grow HPUT.2 HPUT.1)
        have f0 := H.out.own.frozenAt (kk * 3)
        have f1 := H.out.own.frozenAt (kk * 3 + 1)
        have f2 := H.out.own.frozenAt (kk * 3 + 2)
        obtain ⟨y0, e0⟩ : ∃ z, v5.cell? ⟨gl, kk * 3, none⟩ = some z := ⟨_, (H.out.own.cellAt (kk * 3) (by omega)).trans (List.getElem?_eq_getElem (by omega))⟩
        obtain ⟨y1, e1⟩ : ∃ z, v5.cell? ⟨gl, kk * 3 + 1, none⟩ = some z := ⟨_, (H.out.own.cellAt (kk * 3 + 1) (by omega)).trans (List.getElem?_eq_getElem (by omega))⟩
        obtain ⟨y2, e2⟩ : ∃ z, v5.cell? ⟨gl, kk * 3 + 2, none⟩ = some z := ⟨_, (H.out.own.cellAt (kk * 3 + 2) (by omega)).trans (List.getElem?_eq_getElem (by omega))⟩
        clear HPUT hfl hl4 H
        go_wp2_with fail
        go_ret
        exact ⟨4, gl, c, b5, _, rfl, by omega, by omega, HN.out⟩
      · replace h0 : (s == 0) = false := by simpa using h0
        by_cases h1 : s = 1
        · subst h1
          clear h0
          have hown := H.out.own
          have hsz := H.out.gr.size
          go_wp2_with (at_builtin; refine wpList_append_own _ rfl _ _ 24 rfl w.heap.size 33 i0 (.agg #[.int .i64 0, .int .i64 0, .int .i64 0]) 3 24 Try.underlying24 hi hz0 hz1 hz2 rfl (by decide) _ _ _ rfl (hown.alloc _) ⟨v1.heap.size, 0, none⟩ 1 1 [.int .i64 0, .int .i64 0, .int .i64 0] rfl rfl (cells_newS _ _ _) (fun u hu => by simp at hu; subst hu; rfl) (by unfold maxLen; omega) (by omega) (by simp; omega) ?_; intro v' w4 hown1 hgrow1 _)
          obtain ⟨A6, c6, rfl, _, _⟩ := own_form hown1
          obtain ⟨g6, rfl⟩ := own_head hown1 (by omega)
          have hown2 : w4.ownsRow w.heap.size 33 3 (.slice (some ⟨g6, 0, none⟩) 5 c6) 5 (FL (xs ++ [nul])) := by rw [← snoc_slt]; exact hown1
          have HN := Lib.hid ((H.out.alloc _).grow hgrow1 hown2)
          clear hown hsz hown1 hgrow1 hown2 H
          go_wp2_with fail
          go_ret
          exact ⟨5, g6, c6, b1, _, rfl, by omega, by omega, HN.out⟩
        · replace h1 : (s == 1) = false := by simpa using h1
          by_cases h2 : s = 2
          · subst h2
            clear h0 h1
            have hl4 := len4 H.out.own
            have hfl : (FL xs).length = 12 := by rw [FL_len, hl4]; rfl
            have HPUT := slt_put H.out.own (k := 3) (by omega) ⟨0, 1, 0⟩
            have HN := Lib.hid (H.out.grow HPUT.2 HPUT.1)
            have f0 := H.out.own.frozenAt (3 * 3)
            have f1 := H.out.own.frozenAt (3 * 3 + 1)
            have f2 := H.out.own.frozenAt (3 * 3 + 2)
            obtain ⟨y0, e0⟩ : ∃ z, v1.cell? ⟨gl, 3 * 3, none⟩ = some z := ⟨_, (H.out.own.cellAt (3 * 3) (by omega)).trans (List.getElem?_eq_getElem (by omega))⟩
            obtain ⟨y1, e1⟩ : ∃ z, v1.cell? ⟨gl, 3 * 3 + 1, none⟩ = some z := ⟨_, (H.out.own.cellAt (3 * 3 + 1) (by omega)).trans (List.getElem?_eq_getElem (by omega))⟩
            obtain ⟨y2, e2⟩ : ∃ z, v1.cell? ⟨gl, 3 * 3 + 2, none⟩ = some z := ⟨_, (H.out.own.cellAt (3 * 3 + 2) (by omega)).trans (List.getElem?_eq_getElem (by omega))⟩
            clear HPUT hfl hl4 H
            go_wp2_with fail
            go_ret
            exact ⟨4, gl, c, b1, _, rfl, by omega, by omega, HN.out⟩
          · replace h2 : (s == 2) = false := by simpa using h2
            go_wp2_with fail
            go_ret
            exact ⟨4, gl, c, b1, xs, rfl, by omega, by omega, H.out⟩
end Go.Proofs.Ytadpjkghfgnbbaa.Draw

namespace Go.Proofs.Ytadpjkghfgnbbaa.Draw
open Go Go.RowKit Go.Proofs.Ytadpjkghfgnbbaa.Mem Go.Proofs.Ytadpjkghfgnbbaa.Own
set_option linter.unusedVariables false
set_option maxHeartbeats 1000000 in
theorem irq_any (w : World) (g B : Nat) (A : Option Addr) (n cp : Nat) (zs : List Int) (t : Nat) (hz : ∀ z ∈ zs, 0 ≤ z ∧ z ≤ 255) (hc : Cur w g B A n cp zs t) (ht : t ≤ 800000) (hn : n ≤ 1000000) :
    Calls Try.prog 49 #[.pointer (some ⟨g, 0, none⟩)] w fun e w' => ∃ x : Int, e = .returned (.int .i64 x) ∧ (∃ t', t' ≤ t + 4 ∧ Cur w' g B A n cp zs t') ∧ w.grownBy w' (some g) := by
  have HC := Lib.hid hc
  have HZ := Lib.hid hz
  clear hc hz
  go_enter Try.func49, Try.ntmps49
  go_wp2_with fail
  refine (one_any _ g B A n cp zs _ HZ.out HC.out (by omega) hn 20 (by omega) (by omega)).mono ?_
  rintro e w1 ⟨b, rfl, ⟨t1, ht1, hc1⟩, hg1⟩
  have HC1 := Lib.hid hc1
  have HG1 := Lib.hid hg1
  clear hc1 hg1 HC
  cases b with
  | true =>
    go_wp2_with fail
    refine (among_list _ g B A n cp zs _ HZ.out HC1.out (by omega) hn [-1, 8] _ rfl 3 2 rfl (by omega) (by omega)).mono ?_
    rintro e w2 ⟨x, rfl, _, ⟨t2, ht2, hc2⟩, hg2⟩
    have H2 := Lib.hid hc2
    have HG2 := Lib.hid (grown_trans' HG1.out hg2)
    clear hc2 hg2
    go_wp2_with fail
    go_ret
    exact ⟨x, rfl, ⟨t2, by omega, H2.out⟩, HG2.out⟩
  | false =>
    go_wp2_with fail
    refine (pick_any _ g B A n cp zs _ HZ.out HC1.out (by omega) hn 8 (by omega) (by omega)).mono ?_
    rintro e w2 ⟨x, rfl, _, _, ⟨t2, ht2, hc2⟩, hg2⟩
    have H2 := Lib.hid hc2
    have HG2 := Lib.hid (grown_trans' HG1.out hg2)
    clear hc2 hg2
    go_wp2_with fail
    go_ret
    exact ⟨x, rfl, ⟨t2, by omega, H2.out⟩, HG2.out⟩
end Go.Proofs.Ytadpjkghfgnbbaa.Draw

namespace Go.Proofs.Ytadpjkghfgnbbaa.L8
open Go Go.RowKit Go.Proofs.Ytadpjkghfgnbbaa.Mem Go.Proofs.Ytadpjkghfgnbbaa.Own Go.Proofs.Ytadpjkghfgnbbaa.L6 Go.Proofs.Ytadpjkghfgnbbaa.L1 Go.Proofs.Ytadpjkghfgnbbaa.L3
set_option maxRecDepth 100000 in
set_option maxHeartbeats 1600000 in
theorem l1Put_same (go m c' base k : Nat) (L : List Int) (x : Int) (w : World) (hown : w.ownsRow base 3 1 (.slice (some ⟨go, 0, none⟩) m c') m (I L)) (hm : m ≤ 1048576) (hkm : k < m) (ha : ∀ a z, a < k → L[a]? = some z → z < x) (hb : L[k]? = some x) :
    Calls Try.prog 72 #[.slice (some ⟨go, 0, none⟩) m c', .int .i64 x] w fun e w' => e = .returned (.slice (some ⟨go, 0, none⟩) m c') ∧ w = w' := by
  have HOQ0 := Lib.hid hown
  have HA := Lib.hid ha
  have HBX := Lib.hid hb
  have HL : Hid (L.length = m) := Lib.hid (by have h1 := hown.1; rw [I_len] at h1; omega)
  obtain ⟨kk, hkk⟩ : ∃ kk, k = kk := ⟨_, rfl⟩
  clear hown ha hb
  go_enter Try.func72, Try.ntmps72
  go_wp2_with fail
  go_loop [5] (fun u5 => ∃ a : Nat, u5 = .int .i64 a ∧ a ≤ kk) (fun u5 => m - (intOf u5).toNat)
  case atStart => exact ⟨0, rfl, Nat.zero_le _⟩
  case round =>
    obtain ⟨a, rfl, hak⟩ := hrel
    by_cases hlt : a < kk
    · have ham : a < m := by omega
      obtain ⟨z, hz⟩ : ∃ z, L[a]? = some z := ⟨_, List.getElem?_eq_getElem (by rw [HL.out]; exact ham)⟩
      have c0 : w.cell? ⟨go, a, none⟩ = some (.int .i64 z) := (HOQ0.out.cellAt a (by omega)).trans (I_at hz)
      have hzx : z < x := HA.out a z (by omega) hz
      have hamz : (a : Int) < m := by omega
      clear hz hkk
      go_wp2_with fail
      go_round
      case rel => exact ⟨a + 1, by go_num, by omega⟩
      case measure => simp [intOf]; omega
    · have hae : a = k := by omega
      subst hae
      clear hkk hak hlt
      have c0 : w.cell? ⟨go, a, none⟩ = some (.int .i64 x) := (HOQ0.out.cellAt a (by omega)).trans (I_at HBX.out)
      have hzd : decide (x < x) = false := decide_eq_false (by omega)
      have hamz : (a : Int) < m := by omega
      go_wp2_with fail
      go_ret
      exact ⟨rfl, rfl⟩
/-- where a number belongs in a list, or is -/
theorem spot_of (L : List Int) (x : Int) : ∃ k, k ≤ L.length ∧ (∀ a z, a < k → L[a]? = some z → z < x) ∧ ((∃ h : k < L.length, L[k] = x) ∨ ∀ z, L[k]? = some z → x < z) := by
  induction L with
  | nil => exact ⟨0, Nat.le_refl _, fun a z ha => absurd ha (Nat.not_lt_zero _), .inr (fun z hz => by simp at hz)⟩
  | cons y L ih =>
    by_cases hy : y < x
    · obtain ⟨k, hk, h1, h2⟩ := ih
      refine ⟨k + 1, by simp; omega, fun a z ha hz => ?_, ?_⟩
      · cases a with
        | zero => simp at hz; omega
        | succ a => exact h1 a z (by omega) (by simpa using hz)
      · rcases h2 with ⟨h, e⟩ | h2
        · exact .inl ⟨by simp; omega, by simpa using e⟩
        · exact .inr (fun z hz => h2 z (by simpa using hz))
    · refine ⟨0, Nat.zero_le _, fun a z ha => absurd ha (Nat.not_lt_zero _), ?_⟩
      by_cases he : y = x
      · exact .inl ⟨by simp, he⟩
      · refine .inr (fun z hz => ?_)
        simp at hz
        omega
theorem l1Put_w (go m c' base : Nat) (L : List Int) (x : Int) (w : World) (hown : w.ownsRow base 3 1 (.slice (some ⟨go, 0, none⟩) m c') m (I L)) (hm : m ≤ 1048576) :
    Calls Try.prog 72 #[.slice (some ⟨go, 0, none⟩) m c', .int .i64 x] w fun e w' => ∃ g m2 c2 L2, e = .returned (.slice (some ⟨g, 0, none⟩) m2 c2) ∧ m2 ≤ m + 1 ∧ w'.ownsRow base 3 1 (.slice (some ⟨g, 0, none⟩) m2 c2) m2 (I L2) ∧ Below w.heap.size w w' := by
  have hl : L.length = m := by have h1 := hown.1; rw [I_len] at h1; omega
  have hlt := hown.lt go rfl
  obtain ⟨k, hk, ha, hb⟩ := spot_of L x
  rcases hb with ⟨h, e⟩ | hb
  · refine (l1Put_same go m c' base k L x w hown hm (by omega) ha (by rw [List.getElem?_eq_getElem h, e])).mono ?_
    rintro e w' ⟨rfl, rfl⟩
    exact ⟨go, m, c', L, rfl, by omega, hown, Below.refl _ _⟩
  · refine (l1Put_at go m c' base k L x w hown hm (by omega) ha hb).mono ?_
    rintro e w' ⟨g, c2, rfl, h1, h2⟩
    exact ⟨g, m + 1, c2, _, rfl, Nat.le_refl _, own_mono h1 (by omega), h2⟩
set_option maxRecDepth 100000 in
set_option maxHeartbeats 1600000 in
theorem l8Active_w (A : Option Addr) (n c : Nat) (xs : List Slt) (w : World) (hr : Reads w w.heap.size 3 A n (FL xs)) (hn : n ≤ 5) :
    Calls Try.prog 46 #[.slice A n c] w fun e w' => ∃ g m c' L, e = .returned (.slice (some ⟨g, 0, none⟩) m c') ∧ m ≤ 5 ∧ w'.ownsRow w.heap.size 3 1 (.slice (some ⟨g, 0, none⟩) m c') m (I L) ∧ Below w.heap.size w w' := by
  have HR := Lib.hid hr
  clear hr
  obtain ⟨wb, hwb⟩ : ∃ wb, w.alloc (.cells #[] 3) = wb := ⟨_, rfl⟩
  have HB0 : Hid (Below w.heap.size w wb) := Lib.hid (by rw [← hwb]; exact below_more (Below.refl _ _) _)
  have HO0 : Hid (wb.ownsRow w.heap.size 3 1 (.slice (some ⟨w.heap.size, 0, none⟩) 0 0) 0 (I [])) := Lib.hid (by rw [← hwb]; exact World.ownsRow_made w #[] 0 (Nat.le_refl _) (Nat.zero_le _) rfl)
  have HWB := Lib.hid hwb
  clear hwb
  go_enter Try.func46, Try.ntmps46
  go_upto_region 2 with fail
  rw [HWB.out]
  clear HWB
  go_wp2_with fail
  go_loopw [3, 4] (fun u3 u4 wr => ∃ (k go m c' : Nat) (L : List Int), u4 = .int .i64 k ∧ k ≤ n ∧ m ≤ k ∧ u3 = .slice (some ⟨go, 0, none⟩) m c' ∧ Hid (wr.ownsRow w.heap.size 3 1 (.slice (some ⟨go, 0, none⟩) m c') m (I L)) ∧ Hid (Below w.heap.size w wr)) (fun _ u4 _ => n - (intOf u4).toNat)
  case atStart => exact ⟨0, w.heap.size, 0, 0, [], rfl, Nat.zero_le _, Nat.le_refl _, rfl, HO0, HB0⟩
  case round =>
    obtain ⟨k, go, m, c', L, rfl, hk, hm, rfl, HO, HB⟩ := hrel
    by_cases hlt : k < n
    · obtain ⟨b1, o1, x, rfl, hbB, hu, c0, c1, c2⟩ := slt_at ((HR.out.below HB.out).more HB.out.size) hlt
      clear hu c2
      obtain ⟨x0, x1, x2⟩ := x
      simp only at c0 c1
      by_cases h2 : x0 = 2
      · subst h2
        have HPC := Lib.hid (l1Put_w go m c' w.heap.size L x1 wr HO.out (by omega))
        go_wp2_with fail
        refine HPC.out.mono ?_
        rintro e w3 ⟨g, m2, c2, L2, rfl, hm2, hown, hb⟩
        have HO3 := Lib.hid hown
        have HB3 := Lib.hid (below_then HB.out hb)
        clear hown hb c0 c1 HPC
        go_wp2_with fail
        go_roundw
        case rel => exact ⟨k + 1, g, m2, c2, L2, by go_num, by omega, by omega, rfl, HO3, HB3⟩
        case measure => simp [intOf]; omega
      · have t2 : (x0 == 2) = false := by simpa using h2
        by_cases h3 : x0 = 3
        · subst h3
          clear h2
          have HPC := Lib.hid (l1Put_w go m c' w.heap.size L x1 wr HO.out (by omega))
          go_wp2_with fail
          refine HPC.out.mono ?_
          rintro e w3 ⟨g, m2, c2, L2, rfl, hm2, hown, hb⟩
          have HO3 := Lib.hid hown
          have HB3 := Lib.hid (below_then HB.out hb)
          clear hown hb c0 c1 HPC
          go_wp2_with fail
          go_roundw
          case rel => exact ⟨k + 1, g, m2, c2, L2, by go_num, by omega, by omega, rfl, HO3, HB3⟩
          case measure => simp [intOf]; omega
        · have t3 : (x0 == 3) = false := by simpa using h3
          clear h2 h3
          go_wp2_with fail
          go_roundw
          case rel => exact ⟨k + 1, go, m, c', L, by go_num, by omega, by omega, rfl, HO, HB⟩
          case measure => simp [intOf]; omega
    · have hkn : k = n := by omega
      subst hkn
      go_wp2_with fail
      go_ret
      exact ⟨go, m, c', L, rfl, by omega, HO.out, HB.out⟩
end Go.Proofs.Ytadpjkghfgnbbaa.L8

namespace Go.Proofs.Ytadpjkghfgnbbaa.Draw
open Go Go.RowKit Go.Proofs.Ytadpjkghfgnbbaa.Mem Go.Proofs.Ytadpjkghfgnbbaa.Own Go.Proofs.Ytadpjkghfgnbbaa.L8
set_option linter.unusedVariables false
/-- four or five slots of the call's own -/
def SlsDrawn (w w' : World) (gl m c : Nat) (xs : List Slt) : Prop := m ≤ 5 ∧ w'.ownsRow w.heap.size 33 3 (.slice (some ⟨gl, 0, none⟩) m c) m (FL xs) ∧ Below w.heap.size w w'
def DrSs (w : World) (e : Ending) (w' : World) : Prop := ∃ (gl m c : Nat) (xs : List Slt), e = .returned (.slice (some ⟨gl, 0, none⟩) m c) ∧ SlsDrawn w w' gl m c xs
def DrSs1 (w : World) (e : Ending) (w' : World) : Prop := ∃ (gl m c : Nat) (xs : List Slt) (x : Int), e = .returned (.tuple #[.slice (some ⟨gl, 0, none⟩) m c, .int .i64 x]) ∧ SlsDrawn w w' gl m c xs
theorem slsDrawn_of {w w' : World} {A : Option Addr} {n cp t gl m c : Nat} {zs : List Int} {xs : List Slt} (hm : m ≤ 5) (h : SlSt (w.alloc (.cells #[.slice A n cp, .int .i64 0, .int .u64 0] 58)) w' w.heap.size w.heap.size A n cp zs t (.slice (some ⟨gl, 0, none⟩) m c) m xs) : SlsDrawn w w' gl m c xs :=
  ⟨hm, own_mono h.own (alloc_le _ _), below_cur (below_more (Below.refl _ _) _) h.gr (Nat.le_refl _)⟩
set_option maxRecDepth 100000 in
set_option maxHeartbeats 1600000 in
theorem drawAreSlots_any (w : World) (A : Option Addr) (n cp : Nat) (zs : List Int) (hz : ∀ z ∈ zs, 0 ≤ z ∧ z ≤ 255) (hr : Reads w w.heap.size 1 A n (zs.map (Value.int .u8))) (hn : n ≤ 1000000) :
    Calls Try.prog 55 #[.slice A n cp] w (DrSs w) := by
  have HC := Lib.hid (cur_new w A n cp zs hr)
  have HZ := Lib.hid hz
  clear hr hz
  go_enter Try.func55, Try.ntmps55
  go_wp2_with fail
  refine (slots_any _ w.heap.size w.heap.size A n cp zs 0 HZ.out HC.out (by omega) hn).mono ?_
  rintro e w1 ⟨m, gl, c, t1, xs, rfl, hm, ht1, hl⟩
  have H := Lib.hid hl
  clear hl HC
  go_wp2_with fail
  go_ret
  exact ⟨gl, m, c, xs, rfl, slsDrawn_of hm H.out⟩
set_option maxRecDepth 100000 in
set_option maxHeartbeats 1600000 in
theorem drawEndSlot_any (w : World) (A : Option Addr) (n cp : Nat) (zs : List Int) (hz : ∀ z ∈ zs, 0 ≤ z ∧ z ≤ 255) (hr : Reads w w.heap.size 1 A n (zs.map (Value.int .u8))) (hn : n ≤ 1000000) :
    Calls Try.prog 13 #[.slice A n cp] w (DrSs1 w) := by
  have HC := Lib.hid (cur_new w A n cp zs hr)
  have HZ := Lib.hid hz
  clear hr hz
  go_enter Try.func13, Try.ntmps13
  go_wp2_with fail
  refine (slots_any _ w.heap.size w.heap.size A n cp zs 0 HZ.out HC.out (by omega) hn).mono ?_
  rintro e w1 ⟨m, gl, c, t1, xs, rfl, hm, ht1, hl⟩
  have H := Lib.hid hl
  clear hl HC
  have hglt : w.heap.size < w1.heap.size := by have h1 := H.out.gr.size; rw [size1] at h1; omega
  go_wp2_with fail
  refine (l8Active_w _ m c xs _ (own_reads H.out.own) hm).mono ?_
  rintro e w2 ⟨g2, m2, c2, L, rfl, hm2, hown, hb⟩
  have HI := Lib.hid hown
  replace H := Lib.hid (H.out.below hb)
  clear hown hb
  by_cases h0 : 0 < m2
  · have t0 : decide ((m2 : Int) > 0) = true := decide_eq_true (by omega)
    go_wp2_with fail
    refine (one_any _ w.heap.size w.heap.size A n cp zs _ HZ.out H.out.cur (by omega) hn 2 (by omega) (by omega)).mono ?_
    rintro e w3 ⟨bb, rfl, ⟨t2, ht2, hc⟩, hg⟩
    replace H := Lib.hid (H.out.draw hg hc)
    replace HI := Lib.hid (own_cur HI.out hg hglt)
    clear hc hg
    cases bb with
    | true =>
      have HP := Lib.hid (pick_any w3.drew w.heap.size w.heap.size A n cp zs t2 HZ.out H.out.cur (by omega) hn (m2 : Int) (by omega) (by omega))
      have HLL : Hid (L.length = m2) := Lib.hid (by have h1 := HI.out.1; rw [I_len] at h1; omega)
      go_upto_region 5 with fail
      go_region_with (go_at_call 48; go_must (refine HP.out.mono ?_; rintro e w4 ⟨x, rfl, hx0, hx1, ⟨t3, ht3, hc⟩, hg⟩; have HD : Hid (SlSt (w.alloc (.cells #[.slice A n cp, .int .i64 0, .int .u64 0] 58)) w3.drew w.heap.size w.heap.size A n cp zs t2 (.slice (some ⟨gl, 0, none⟩) m c) m xs) := Lib.hid (H.out.below ⟨rfl, rfl, rfl, Nat.le_refl _, fun _ _ => rfl⟩); have HE := Lib.hid (HD.out.draw hg hc); have HID : Hid (w3.drew.ownsRow w1.heap.size 3 1 (.slice (some ⟨g2, 0, none⟩) m2 c2) m2 (I L)) := Lib.hid HI.out; have HJ := Lib.hid (own_cur HID.out hg hglt); obtain ⟨kk, rfl⟩ : ∃ k : Nat, x = k := ⟨x.toNat, by omega⟩; have hkk : kk < m2 := (by omega); obtain ⟨z, hz⟩ : ∃ z, L[kk]? = some z := ⟨_, List.getElem?_eq_getElem (by have h9 := HLL.out; omega)⟩; have c0 : w4.cell? ⟨g2, kk, none⟩ = some (.int .i64 z) := (HJ.out.cellAt kk (by omega)).trans (I_at hz); have hkz : (kk : Int) < m2 := (by omega); clear hc hg HD HID hz))
      all_goals
        clear c0
        go_wp2_with fail
        go_ret2
        exact ⟨gl, m, c, xs, z, rfl, slsDrawn_of hm HE.out⟩
    | false =>
      clear HI
      go_wp2_with fail
      refine (irq_any _ w.heap.size w.heap.size A n cp zs _ HZ.out H.out.cur (by omega) hn).mono ?_
      rintro e w4 ⟨x, rfl, ⟨t3, ht3, hc⟩, hg⟩
      replace H := Lib.hid (H.out.draw hg hc)
      clear hc hg
      go_wp2_with fail
      go_ret2
      exact ⟨gl, m, c, xs, x, rfl, slsDrawn_of hm H.out⟩
  · have h00 : m2 = 0 := by omega
    subst h00
    clear HI h0
    go_wp2_with fail
    refine (irq_any _ w.heap.size w.heap.size A n cp zs _ HZ.out H.out.cur (by omega) hn).mono ?_
    rintro e w4 ⟨x, rfl, ⟨t3, ht3, hc⟩, hg⟩
    replace H := Lib.hid (H.out.draw hg hc)
    clear hc hg
    go_wp2_with fail
    go_ret2
    exact ⟨gl, m, c, xs, x, rfl, slsDrawn_of hm H.out⟩
set_option maxRecDepth 100000 in
set_option maxHeartbeats 1600000 in
theorem drawEvictSlot_any (w : World) (A : Option Addr) (n cp : Nat) (zs : List Int) (hz : ∀ z ∈ zs, 0 ≤ z ∧ z ≤ 255) (hr : Reads w w.heap.size 1 A n (zs.map (Value.int .u8))) (hn : n ≤ 1000000) :
    Calls Try.prog 18 #[.slice A n cp] w (DrSs w) := by
  have HR := Lib.hid hr
  have HZ := Lib.hid hz
  clear hr hz
  go_enter Try.func18, Try.ntmps18
  go_wp2_with fail
  refine (drawAreSlots_any _ A n cp zs HZ.out HR.out hn).mono ?_
  rintro e w1 ⟨gl, m, c, xs, rfl, hd⟩
  have HD := Lib.hid hd
  clear hd
  go_wp2_with fail
  go_ret
  exact ⟨gl, m, c, xs, rfl, HD.out⟩
set_option maxRecDepth 100000 in
set_option maxHeartbeats 1600000 in
theorem drawEmptySlots_any (w : World) (A : Option Addr) (n cp : Nat) (zs : List Int) (hz : ∀ z ∈ zs, 0 ≤ z ∧ z ≤ 255) (hr : Reads w w.heap.size 1 A n (zs.map (Value.int .u8))) (hn : n ≤ 1000000) :
    Calls Try.prog 23 #[.slice A n cp] w (DrSs w) := by
  have HR := Lib.hid hr
  have HZ := Lib.hid hz
  clear hr hz
  go_enter Try.func23, Try.ntmps23
  go_wp2_with fail
  refine (drawAreSlots_any _ A n cp zs HZ.out HR.out hn).mono ?_
  rintro e w1 ⟨gl, m, c, xs, rfl, hd⟩
  have HD := Lib.hid hd
  clear hd
  go_wp2_with fail
  go_ret
  exact ⟨gl, m, c, xs, rfl, HD.out⟩
set_option maxRecDepth 100000 in
set_option maxHeartbeats 1600000 in
theorem drawActiveIrqs_any (w : World) (A : Option Addr) (n cp : Nat) (zs : List Int) (hz : ∀ z ∈ zs, 0 ≤ z ∧ z ≤ 255) (hr : Reads w w.heap.size 1 A n (zs.map (Value.int .u8))) (hn : n ≤ 1000000) :
    Calls Try.prog 25 #[.slice A n cp] w (DrSs w) := by
  have HR := Lib.hid hr
  have HZ := Lib.hid hz
  clear hr hz
  go_enter Try.func25, Try.ntmps25
  go_wp2_with fail
  refine (drawAreSlots_any _ A n cp zs HZ.out HR.out hn).mono ?_
  rintro e w1 ⟨gl, m, c, xs, rfl, hd⟩
  have HD := Lib.hid hd
  clear hd
  go_wp2_with fail
  go_ret
  exact ⟨gl, m, c, xs, rfl, HD.out⟩
set_option maxRecDepth 100000 in
set_option maxHeartbeats 1600000 in
theorem drawFindSlot_any (w : World) (A : Option Addr) (n cp : Nat) (zs : List Int) (hz : ∀ z ∈ zs, 0 ≤ z ∧ z ≤ 255) (hr : Reads w w.heap.size 1 A n (zs.map (Value.int .u8))) (hn : n ≤ 1000000) :
    Calls Try.prog 29 #[.slice A n cp] w (DrSs1 w) := by
  have HR := Lib.hid hr
  have HZ := Lib.hid hz
  clear hr hz
  go_enter Try.func29, Try.ntmps29
  go_wp2_with fail
  refine (drawEndSlot_any _ A n cp zs HZ.out HR.out hn).mono ?_
  rintro e w1 ⟨gl, m, c, xs, x, rfl, hd⟩
  have HD := Lib.hid hd
  clear hd
  go_wp2_with fail
  go_ret2
  exact ⟨gl, m, c, xs, x, rfl, HD.out⟩
end Go.Proofs.Ytadpjkghfgnbbaa.Draw

namespace Go.Proofs.Ytadpjkghfgnbbaa.L8
open Go Go.RowKit Go.Proofs.Ytadpjkghfgnbbaa.Mem Go.Proofs.Ytadpjkghfgnbbaa.Own
set_option maxRecDepth 100000 in
set_option maxHeartbeats 1000000 in
theorem vSlots_same (A A' : Option Addr) (n c c' : Nat) (xs : List Slt) (w : World) (hn : n ≤ 1048576) (hx : Reads w w.heap.size 3 A n (FL xs)) (hy : Reads w w.heap.size 3 A' n (FL xs)) :
    Calls Try.prog 16 #[.slice A n c, .slice A' n c'] w fun e w' => e = .returned (.bool true) ∧ Below w.heap.size w w' := by
  go_enter Try.func16, Try.ntmps16
  go_wp2_with fail
  go_loopw [5] (fun i wr => ∃ (k j : Nat), i = .int .i64 k ∧ k ≤ n ∧ wr = w.drewN j) (fun i _ => n - (intOf i).toNat)
  case atStart => exact ⟨0, 0, rfl, Nat.zero_le _, rfl⟩
  case round =>
    obtain ⟨k, j, rfl, hk, rfl⟩ := hrel
    by_cases hlt : k < n
    · obtain ⟨b1, o1, x, rfl, _, hu, c0, c1, c2⟩ := slt_at hx hlt
      obtain ⟨b2, o2, y, rfl, _, hv, d0, d1, d2⟩ := slt_at hy hlt
      obtain rfl : x = y := by rw [hu] at hv; exact Option.some.inj hv
      clear hu hv
      obtain ⟨x0, x1, x2⟩ := x
      simp only at c0 c1 c2 d0 d1 d2
      go_wp2_with fail
      go_quiet (fail)
      go_wp2_with fail
      go_roundw
      case rel => exact ⟨k + 1, _, by go_num, by omega, rfl⟩
      case measure => simp [intOf]; omega
    · go_wp2_with fail
      go_ret
      exact ⟨rfl, Go.Proofs.Ytadpjkghfgnbbaa.Own.below_drewN w j⟩
end Go.Proofs.Ytadpjkghfgnbbaa.L8

namespace Go.Proofs.Ytadpjkghfgnbbaa.Own
open Go.RowKit Go.Proofs.Ytadpjkghfgnbbaa.Mem
set_option maxHeartbeats 1000000 in
theorem vInts_same (A A' : Option Addr) (n c c' : Nat) (xs : List Int) (w : World) (hn : n ≤ 1048576) (hx : Reads w w.heap.size 1 A n (I xs)) (hy : Reads w w.heap.size 1 A' n (I xs)) :
    Calls Try.prog 28 #[.slice A n c, .slice A' n c'] w fun e w' => e = .returned (.bool true) ∧ Below w.heap.size w w' := by
  go_enter Try.func28, Try.ntmps28
  go_wp2
  go_loopw [5] (fun i wr => ∃ (k j : Nat), i = .int .i64 k ∧ k ≤ n ∧ wr = w.drewN j) (fun i _ => n - (intOf i).toNat)
  case atStart => exact ⟨0, 0, rfl, Nat.zero_le _, rfl⟩
  case round =>
    obtain ⟨k, j, rfl, hk, rfl⟩ := hrel
    by_cases hlt : k < n
    · obtain ⟨b1, o1, x, rfl, _, hu, hc⟩ := hx.int_at hlt
      obtain ⟨b2, o2, y, rfl, _, hv, hc'⟩ := hy.int_at hlt
      obtain rfl : x = y := by rw [hu] at hv; exact Option.some.inj hv
      clear hu hv
      go_wp2
      go_quiet (fail)
      go_wp2
      go_roundw
      case rel => exact ⟨k + 1, _, by go_num, by omega, rfl⟩
      case measure => simp [intOf]; omega
    · go_wp2
      go_ret
      exact ⟨rfl, below_drewN w j⟩
theorem vBig_any (A : Option Addr) (n c : Nat) (w : World) :
    Calls Try.prog 12 #[.slice A n c] w fun e w' => e = .returned (.bool (decide ((65536 : Int) < n))) ∧ w = w' := by
  go_enter Try.func12, Try.ntmps12
  go_wp2
  go_ret
  exact ⟨rfl, rfl⟩
end Go.Proofs.Ytadpjkghfgnbbaa.Own

namespace Go.Proofs.Ytadpjkghfgnbbaa.L8
open Go Go.RowKit Go.Proofs.Ytadpjkghfgnbbaa.Mem Go.Proofs.Ytadpjkghfgnbbaa.Own Go.Proofs.Ytadpjkghfgnbbaa.L6
set_option maxRecDepth 100000 in
set_option maxHeartbeats 1600000 in
theorem isActive_c (x0 x1 x2 : Int) (h : x0 = 0 ∨ x0 = 1 ∨ x0 = 2 ∨ x0 = 3) (b : Bool) (hb : isAc ⟨x0, x1, x2⟩ = b) (w : World) :
    Calls Try.prog 50 #[.agg #[.int .i64 x0, .int .i64 x1, .int .i64 x2]] w fun e w' => e = .returned (.bool b) ∧ Below w.heap.size w w' := by
  rcases h with rfl | rfl | rfl | rfl
  all_goals
    subst hb
    go_enter Try.func50, Try.ntmps50
    go_wp2_with fail
    go_ret
    exact ⟨rfl, below_more (Below.refl _ _) _⟩
theorem st_of {x : Slt} (h : Ok x) : x.st = 0 ∨ x.st = 1 ∨ x.st = 2 ∨ x.st = 3 := by unfold Ok at h; omega
set_option maxRecDepth 100000 in
set_option maxHeartbeats 1600000 in
theorem implFind_any (A : Option Addr) (n c : Nat) (xs : List Slt) (q : Int) (w : World) (hr : Reads w w.heap.size 3 A n (FL xs)) (hc : n ≤ c) (z : Int) (d : Bool) (h : fdAns xs q = (z, d)) :
    Calls Try.prog 17 #[.slice A n c, .int .i64 q] w fun e w' => e = .returned (.tuple #[.int .i64 z, .bool d]) ∧ Below w.heap.size w w' := by
  have HR := Lib.hid hr
  obtain ⟨b, hb⟩ : ∃ b, okB xs = b := ⟨_, rfl⟩
  have HG := Lib.hid hb
  have HI := Lib.hid (fun w hr => implAre_any A n c _ xs w hr (Nat.le_refl _) hc b HG.out)
  clear hr hb
  have HZ := Lib.hid h
  clear h
  cases b
  · have h := HZ.out
    unfold fdAns at h
    rw [if_neg (by rw [HG.out]; simp)] at h
    obtain ⟨e1, e2⟩ := Prod.mk.inj h; subst e1 e2
    clear HZ
    go_enter Try.func17, Try.ntmps17
    go_wp2_with fail
    refine (HI.out _ HR.out).mono ?_
    rintro e w1 ⟨rfl, hb1⟩
    have HB1 := Lib.hid hb1
    clear hb1
    go_wp2_with fail
    go_ret2
    exact ⟨rfl, HB1.out⟩
  · have h4 : n = 4 := by have h1 : xs.length = n := reads_len HR.out; have h2 := okB_len HG.out; omega
    subst h4
    have h := HZ.out
    unfold fdAns at h
    obtain ⟨f, hf⟩ : ∃ f, fnd xs q = f := ⟨_, rfl⟩
    have hlo : -1 ≤ f := by rw [← hf]; exact ixOf_lo _ _
    rw [hf] at h
    have HF := Lib.hid hf
    clear HZ hf
    by_cases h0 : 0 ≤ f
    · rw [if_pos ⟨HG.out, h0⟩] at h
      obtain ⟨e1, e2⟩ := Prod.mk.inj h; subst e1 e2
      have t0 : decide (f < 0) = false := decide_eq_false (by omega)
      clear h
      go_enter Try.func17, Try.ntmps17
      go_wp2_with fail
      refine (HI.out _ HR.out).mono ?_
      rintro e w1 ⟨rfl, hb1⟩
      have HB1 := Lib.hid hb1
      clear hb1
      go_wp2_with fail
      refine (slotWith_any A 4 c q xs _ ((HR.out.below HB1.out).more HB1.out.size) (by omega)).mono ?_
      rintro e w2 ⟨rfl, hb2⟩
      rw [HF.out]
      have HB2 := Lib.hid (below_then HB1.out hb2)
      clear hb2 HB1 h0 hlo
      go_wp2_with fail
      go_ret2
      exact ⟨rfl, HB2.out⟩
    · rw [if_neg (fun hh => h0 hh.2)] at h
      obtain ⟨e1, e2⟩ := Prod.mk.inj h; subst e1 e2
      have hf1 : f = -1 := by omega
      subst hf1
      clear h h0 hlo
      go_enter Try.func17, Try.ntmps17
      go_wp2_with fail
      refine (HI.out _ HR.out).mono ?_
      rintro e w1 ⟨rfl, hb1⟩
      have HB1 := Lib.hid hb1
      clear hb1
      go_wp2_with fail
      refine (slotWith_any A 4 c q xs _ ((HR.out.below HB1.out).more HB1.out.size) (by omega)).mono ?_
      rintro e w2 ⟨rfl, hb2⟩
      rw [HF.out]
      have HB2 := Lib.hid (below_then HB1.out hb2)
      clear hb2 HB1
      go_wp2_with fail
      go_ret2
      exact ⟨rfl, HB2.out⟩
set_option maxRecDepth 100000 in
set_option maxHeartbeats 1600000 in
theorem implEmpty_any (A : Option Addr) (n c : Nat) (xs : List Slt) (w : World) (hr : Reads w w.heap.size 3 A n (FL xs)) (hc : n ≤ c) (z : Int) (d : Bool) (h : emAns xs = (z, d)) :
    Calls Try.prog 22 #[.slice A n c] w fun e w' => e = .returned (.tuple #[.int .i64 z, .bool d]) ∧ Below w.heap.size w w' := by
  have HR := Lib.hid hr
  obtain ⟨b, hb⟩ : ∃ b, okB xs = b := ⟨_, rfl⟩
  have HG := Lib.hid hb
  have HI := Lib.hid (fun w hr => implAre_any A n c _ xs w hr (Nat.le_refl _) hc b HG.out)
  clear hr hb
  have HZ := Lib.hid h
  clear h
  cases b
  · have h := HZ.out
    unfold emAns at h
    rw [if_neg (by rw [HG.out]; simp)] at h
    obtain ⟨e1, e2⟩ := Prod.mk.inj h; subst e1 e2
    clear HZ
    go_enter Try.func22, Try.ntmps22
    go_wp2_with fail
    refine (HI.out _ HR.out).mono ?_
    rintro e w1 ⟨rfl, hb1⟩
    have HB1 := Lib.hid hb1
    clear hb1
    go_wp2_with fail
    go_ret2
    exact ⟨rfl, HB1.out⟩
  · have HL : Hid (xs.length = n) := Lib.hid (reads_len HR.out)
    have h4 : n = 4 := by have h2 := okB_len HG.out; rw [HL.out] at h2; exact h2
    subst h4
    have h := HZ.out
    unfold emAns at h
    rw [if_pos HG.out] at h
    have HE : Hid ((emp xs : Int) = z) := Lib.hid (congrArg Prod.fst h)
    have hd : d = true := (congrArg Prod.snd h).symm
    subst hd
    clear h HZ
    go_enter Try.func22, Try.ntmps22
    go_wp2_with fail
    refine (HI.out _ HR.out).mono ?_
    rintro e w1 ⟨rfl, hb1⟩
    have HB1 := Lib.hid hb1
    clear hb1
    go_wp2_with fail
    go_loopw [4, 12] (fun u4 i wr => ∃ (k m : Nat), i = .int .i64 k ∧ k ≤ 4 ∧ u4 = .int .i64 m ∧ m ≤ k ∧ Hid (emp (xs.take k) = m) ∧ Hid (Below w.heap.size w wr)) (fun _ i _ => 4 - (intOf i).toNat)
    case atStart => exact ⟨0, 0, rfl, Nat.zero_le _, rfl, Nat.le_refl _, Lib.hid (by simp [emp]), HB1⟩
    case round =>
      obtain ⟨k, m, rfl, hk, rfl, hm, HM, HB⟩ := hrel
      by_cases hlt : k < 4
      · obtain ⟨b1, o1, x, rfl, _, hx, c0, c1, c2⟩ := slt_at ((HR.out.below HB.out).more HB.out.size) hlt
        have HT := Lib.hid (emp_take hx)
        clear hx
        obtain ⟨x0, x1, x2⟩ := x
        simp only at c0 c1 c2 HT
        have HB3 := Lib.hid (below_more HB.out (.cells #[.int .i64 x0, .int .i64 x1, .int .i64 x2] 33))
        by_cases h0 : x0 = 0
        · have HM2 : Hid (emp (xs.take (k + 1)) = m + 1) := Lib.hid (by rw [HT.out, HM.out, if_pos h0])
          subst h0
          clear HT HM HB
          go_wp2_with fail
          go_roundw
          case rel => exact ⟨k + 1, m + 1, by go_num, by omega, by go_num, by omega, HM2, HB3⟩
          case measure => simp [intOf]; omega
        · have HM2 : Hid (emp (xs.take (k + 1)) = m) := Lib.hid (by rw [HT.out, HM.out, if_neg h0, Nat.add_zero])
          have t0 : (x0 == 0) = false := by simpa using h0
          clear HT HM HB h0
          go_wp2_with fail
          go_roundw
          case rel => exact ⟨k + 1, m, by go_num, by omega, rfl, by omega, HM2, HB3⟩
          case measure => simp [intOf]; omega
      · have hkn : k = 4 := by omega
        subst hkn
        have HM2 : Hid ((m : Int) = z) := Lib.hid (by
          have h := HM.out
          rw [List.take_of_length_le (by rw [HL.out]; exact Nat.le_refl _)] at h
          rw [← HE.out, h])
        clear HM HE
        go_wp2_with fail
        go_ret2
        exact ⟨by rw [← HM2.out]; rfl, HB.out⟩
end Go.Proofs.Ytadpjkghfgnbbaa.L8

namespace Go.Proofs.Ytadpjkghfgnbbaa.L8
open Go Go.RowKit Go.Proofs.Ytadpjkghfgnbbaa.Mem Go.Proofs.Ytadpjkghfgnbbaa.Own Go.Proofs.Ytadpjkghfgnbbaa.L6
set_option maxRecDepth 100000 in
set_option maxHeartbeats 4000000 in
theorem implPut_any (A : Option Addr) (n c : Nat) (xs : List Slt) (q p : Int) (w : World) (hr : Reads w w.heap.size 3 A n (FL xs)) (hc : n ≤ c) :
    Calls Try.prog 21 #[.slice A n c, .int .i64 q, .int .i64 p] w (SlPost w (putAns xs q p)) := by
  have HR := Lib.hid hr
  obtain ⟨b, hb⟩ : ∃ b, okB xs = b := ⟨_, rfl⟩
  have HG := Lib.hid hb
  have HI := Lib.hid (fun w hr => implAre_any A n c _ xs w hr (Nat.le_refl _) hc b HG.out)
  clear hr hb
  cases b
  · have HZ : Hid (putAns xs q p = ([], false)) := Lib.hid (by unfold putAns; rw [if_neg (by rw [HG.out]; simp)])
    rw [HZ.out]
    clear HZ
    go_enter Try.func21, Try.ntmps21
    go_wp2_with fail
    refine (HI.out _ HR.out).mono ?_
    rintro e w1 ⟨rfl, hb1⟩
    have HB1 := Lib.hid hb1
    clear hb1
    go_wp2_with fail
    go_ret2
    exact slPost_no HB1.out
  obtain ⟨b1, hb1⟩ : ∃ b, decide (0 ≤ q ∧ q < 8) = b := ⟨_, rfl⟩
  have H1 := Lib.hid hb1
  obtain ⟨b2, hb2⟩ : ∃ b, decide (0 ≤ p ∧ p < 16) = b := ⟨_, rfl⟩
  have H2 := Lib.hid hb2
  clear hb1 hb2
  cases b1
  · have HZ : Hid (putAns xs q p = ([], false)) := Lib.hid (by unfold putAns; rw [if_neg (fun hh => of_decide_eq_false H1.out hh.2.1)])
    rw [HZ.out]
    clear HZ
    go_enter Try.func21, Try.ntmps21
    go_wp2_with fail
    refine (HI.out _ HR.out).mono ?_
    rintro e w1 ⟨rfl, hb1⟩
    have HB1 := Lib.hid hb1
    clear hb1
    go_wp2_with fail
    refine (isIrq_any _ _ H1.out _).mono ?_
    rintro e w1 ⟨rfl, rfl⟩
    go_wp2_with fail
    go_ret2
    exact slPost_no HB1.out
  cases b2
  · have HZ : Hid (putAns xs q p = ([], false)) := Lib.hid (by unfold putAns; rw [if_neg (fun hh => of_decide_eq_false H2.out hh.2.2)])
    rw [HZ.out]
    clear HZ
    go_enter Try.func21, Try.ntmps21
    go_wp2_with fail
    refine (HI.out _ HR.out).mono ?_
    rintro e w1 ⟨rfl, hb1⟩
    have HB1 := Lib.hid hb1
    clear hb1
    go_wp2_with fail
    refine (isIrq_any _ _ H1.out _).mono ?_
    rintro e w1 ⟨rfl, rfl⟩
    go_wp2_with fail
    refine (isPriority_any _ _ H2.out _).mono ?_
    rintro e w1 ⟨rfl, rfl⟩
    go_wp2_with fail
    go_ret2
    exact slPost_no HB1.out
  have HZ : Hid (putAns xs q p = putOf xs q p) := Lib.hid (by unfold putAns; rw [if_pos ⟨HG.out, of_decide_eq_true H1.out, of_decide_eq_true H2.out⟩])
  rw [HZ.out]
  have h4 : n = 4 := by have h1 : xs.length = n := reads_len HR.out; have h2 := okB_len HG.out; omega
  subst h4
  clear HZ
  go_enter Try.func21, Try.ntmps21
  go_wp2_with fail
  refine (HI.out _ HR.out).mono ?_
  rintro e w1 ⟨rfl, hb1⟩
  have HB1 := Lib.hid hb1
  clear hb1
  go_wp2_with fail
  refine (isIrq_any _ _ H1.out _).mono ?_
  rintro e w1 ⟨rfl, rfl⟩
  go_wp2_with fail
  refine (isPriority_any _ _ H2.out _).mono ?_
  rintro e w1 ⟨rfl, rfl⟩
  obtain ⟨b, off, rfl, hbB, a0, a1, a2, b0, b1, b2, c0, c1, c2, d0, d1, d2, hfl, k0, k1, k2, k3, k4, k5, k6, k7, k8, k9, k10, k11⟩ := cells12 (HR.out.below HB1.out)
  obtain ⟨wc, hwc⟩ : ∃ wc, w1.alloc (.cells #[.int .i64 a0, .int .i64 a1, .int .i64 a2, .int .i64 b0, .int .i64 b1, .int .i64 b2, .int .i64 c0, .int .i64 c1, .int .i64 c2, .int .i64 d0, .int .i64 d1, .int .i64 d2] 66) = wc := ⟨_, rfl⟩
  have HO : Hid (wc.ownsRow w.heap.size 66 3 (.slice (some ⟨w1.heap.size, 0, none⟩) 4 4) 4 (FL xs)) := Lib.hid (own_arr (by rw [← hwc, hfl]; exact Blk.new _ _ _) (reads_len HR.out) HB1.out.size)
  have HB2 : Hid (Below w.heap.size w wc) := Lib.hid (by rw [← hwc]; exact below_more HB1.out _)
  have HWC := Lib.hid hwc
  have hat := arrayAt_any (some ⟨b, off, none⟩) c
  clear hfl hwc
  go_upto_region 4 with fail
  rw [HWC.out]
  clear HWC hat k0 k1 k2 k3 k4 k5 k6 k7 k8 k9 k10 k11
  have hR2 := Lib.hid ((HR.out.below HB2.out).more HB2.out.size)
  have hgw : w.heap.size ≤ w1.heap.size := HB1.out.size
  obtain ⟨g, hg⟩ : ∃ g, w1.heap.size = g := ⟨_, rfl⟩
  rw [hg] at HO hgw
  rw [hg]
  clear hg HB1
  rcases ixOf_cases (has q) xs with ⟨hf, _⟩ | ⟨k, x, hf, hk, hx, hp, _⟩
  · have HF : Hid (fnd xs q = -1) := Lib.hid hf
    clear hf
    go_wp2_with fail
    refine (slotWith_any (some ⟨b, off, none⟩) 4 c q xs _ hR2.out (by omega)).mono ?_
    rintro e w2 ⟨rfl, hb2⟩
    rw [HF.out]
    have HR3 := Lib.hid ((hR2.out.below hb2).more hb2.size)
    have HO3 := Lib.hid (own_below HO.out hb2)
    have HB3 := Lib.hid (below_then HB2.out hb2)
    clear hb2 HO HB2 hR2
    go_wp2_with fail
    refine (index_any (some ⟨b, off, none⟩) c xs _ HR3.out HG.out).mono ?_
    rintro e w3 ⟨rfl, hb3⟩
    have HO4 := Lib.hid (own_below HO3.out hb3)
    have HB4 := Lib.hid (below_then HB3.out hb3)
    clear hb3 HO3 HB3 HR3
    rcases ixOf_cases (fun x => x.st == 0) xs with ⟨he, _⟩ | ⟨k, x, he, hk, hx, hp, _⟩
    · have HE : Hid (fre xs = -1) := Lib.hid he
      rw [HE.out]
      have HZ2 := Lib.hid (putOf_no (p := p) HF.out HE.out)
      clear he HE HF
      go_wp2_with fail
      go_ret2
      rw [HZ2.out]
      exact slPost_no HB4.out
    · have HE : Hid (fre xs = k) := Lib.hid he
      have hl : xs.length = 4 := okB_len HG.out
      rw [HE.out]
      have HZ2 := Lib.hid (putOf_new (p := p) HF.out HE.out)
      have hk4 : k < 4 := by omega
      have hkz : (k : Int) < 4 := by omega
      have hfl : (FL xs).length = 12 := by rw [FL_len, hl]; rfl
      have HP := Lib.hid (slt_put HO4.out hk ⟨1, q, p⟩)
      have HW := Lib.hid (below_set (below_set (below_set HB4.out hgw (j := k * 3) (.int .i64 1)) hgw (j := k * 3 + 1) (.int .i64 q)) hgw (j := k * 3 + 2) (.int .i64 p))
      have hlen : (xs.set k ⟨1, q, p⟩).length = 4 := by rw [List.length_set]; exact hl
      have HLEN := Lib.hid hlen
      have f0 := HO4.out.frozenAt (k * 3)
      have f1 := HO4.out.frozenAt (k * 3 + 1)
      have f2 := HO4.out.frozenAt (k * 3 + 2)
      obtain ⟨y0, e0⟩ : ∃ z, w3.cell? ⟨g, k * 3, none⟩ = some z := ⟨_, (HO4.out.cellAt (k * 3) (by omega)).trans (List.getElem?_eq_getElem (by omega))⟩
      obtain ⟨y1, e1⟩ : ∃ z, w3.cell? ⟨g, k * 3 + 1, none⟩ = some z := ⟨_, (HO4.out.cellAt (k * 3 + 1) (by omega)).trans (List.getElem?_eq_getElem (by omega))⟩
      obtain ⟨y2, e2⟩ : ∃ z, w3.cell? ⟨g, k * 3 + 2, none⟩ = some z := ⟨_, (HO4.out.cellAt (k * 3 + 2) (by omega)).trans (List.getElem?_eq_getElem (by omega))⟩
      clear he HE HF HO4 HB4 hlen hfl hl hk hx hp
      go_wp2_with fail
      go_ret2
      rw [HZ2.out]
      exact slPost_4 HLEN.out HP.out.1 HW.out
  · have HF : Hid (fnd xs q = k) := Lib.hid hf
    have hl : xs.length = 4 := okB_len HG.out
    have HZ2 := Lib.hid (putOf_at (p := p) HF.out hx)
    go_wp2_with fail
    refine (slotWith_any (some ⟨b, off, none⟩) 4 c q xs _ hR2.out (by omega)).mono ?_
    rintro e w2 ⟨rfl, hb2⟩
    rw [HF.out]
    have HO3 := Lib.hid (own_below HO.out hb2)
    have HB3 := Lib.hid (below_then HB2.out hb2)
    have hkz : (k : Int) < 4 := by omega
    have hk4 : k < 4 := by omega
    have hfl : (FL xs).length = 12 := by rw [FL_len, hl]; rfl
    have hlen : (xs.set k (again x)).length = 4 := by rw [List.length_set]; exact hl
    have HLEN := Lib.hid hlen
    have hst : x.st = 1 ∨ x.st = 2 ∨ x.st = 3 := by
      have h1 := okB_ok HG.out hx
      simp only [has, Bool.and_eq_true, bne_iff_ne] at hp
      unfold Ok at h1
      omega
    have HFS := fun z => Lib.hid (fl_set0 hx z)
    have c0 : w2.cell? ⟨g, k * 3, none⟩ = some (.int .i64 x.st) := (HO3.out.cellAt (k * 3) (by omega)).trans (FL_at (i := 0) hx rfl)
    have f0 := HO3.out.frozenAt (k * 3)
    obtain ⟨x0, x1, x2⟩ := x
    simp only at hst c0
    clear hb2 HO HB2 hR2 hf hlen hfl hl hk hx hp HF
    rcases hst with rfl | rfl | rfl
    · have HS := Lib.hid (HO3.out.stored (k * 3) (.int .i64 1)).1
      have HW := Lib.hid (below_set HB3.out hgw (j := k * 3) (.int .i64 1))
      rw [(HFS 1).out] at HS
      clear HO3 HB3 HFS
      go_wp2_with fail
      go_ret2
      rw [HZ2.out]
      exact slPost_4 HLEN.out HS.out HW.out
    · have HS := Lib.hid (HO3.out.stored (k * 3) (.int .i64 3)).1
      have HW := Lib.hid (below_set HB3.out hgw (j := k * 3) (.int .i64 3))
      rw [(HFS 3).out] at HS
      clear HO3 HB3 HFS
      go_wp2_with fail
      go_ret2
      rw [HZ2.out]
      exact slPost_4 HLEN.out HS.out HW.out
    · have HS := Lib.hid (HO3.out.stored (k * 3) (.int .i64 3)).1
      have HW := Lib.hid (below_set HB3.out hgw (j := k * 3) (.int .i64 3))
      rw [(HFS 3).out] at HS
      clear HO3 HB3 HFS
      go_wp2_with fail
      go_ret2
      rw [HZ2.out]
      exact slPost_4 HLEN.out HS.out HW.out
end Go.Proofs.Ytadpjkghfgnbbaa.L8

namespace Go.Proofs.Ytadpjkghfgnbbaa.L8
open Go Go.RowKit Go.Proofs.Ytadpjkghfgnbbaa.Mem Go.Proofs.Ytadpjkghfgnbbaa.Own Go.Proofs.Ytadpjkghfgnbbaa.L6
set_option maxRecDepth 100000 in
set_option maxHeartbeats 1600000 in
theorem implEnd_any (A : Option Addr) (n c : Nat) (xs : List Slt) (q : Int) (w : World) (hr : Reads w w.heap.size 3 A n (FL xs)) (hc : n ≤ c) :
    Calls Try.prog 14 #[.slice A n c, .int .i64 q] w (SlPost w (endAns xs q)) := by
  have HR := Lib.hid hr
  obtain ⟨r, hr_⟩ : ∃ r, fdAns xs q = r := ⟨_, rfl⟩
  obtain ⟨z, d⟩ := r
  have HFD := Lib.hid hr_
  have HI := Lib.hid (fun w hr => implFind_any A n c xs q w hr hc z d HFD.out)
  clear hr hr_
  cases d
  · have HZ : Hid (endAns xs q = ([], false)) := Lib.hid (by
      have h := HFD.out
      unfold fdAns at h
      split at h
      · cases h
      · rename_i hn
        unfold endAns
        split
        · rename_i hy
          have := ixOf_lo (has q) xs
          have h2 : fnd xs q < 0 := Int.not_le.1 (fun hh => hn ⟨hy.1, hh⟩)
          unfold endOf
          rw [if_pos h2]
        · rfl)
    rw [HZ.out]
    clear HZ HFD
    go_enter Try.func14, Try.ntmps14
    go_wp2_with fail
    refine (HI.out _ HR.out).mono ?_
    rintro e w1 ⟨rfl, hb1⟩
    have HB1 := Lib.hid hb1
    clear hb1
    go_wp2_with fail
    go_ret2
    exact slPost_no HB1.out
  have hok : okB xs = true ∧ 0 ≤ fnd xs q ∧ fnd xs q = z := by
    have h := HFD.out
    unfold fdAns at h
    split at h
    · rename_i hy
      exact ⟨hy.1, hy.2, congrArg Prod.fst h⟩
    · cases h
  have HG := Lib.hid hok.1
  have HZ : Hid (endAns xs q = endOf xs q) := Lib.hid (endAns_eq HG.out)
  rw [HZ.out]
  have hl : xs.length = 4 := okB_len HG.out
  have h4 : n = 4 := by have h1 : xs.length = n := reads_len HR.out; omega
  subst h4
  rcases ixOf_cases (has q) xs with ⟨hf, _⟩ | ⟨k, x, hf, hk, hx, hp, _⟩
  · exact absurd hok.2.1 (by rw [show fnd xs q = -1 from hf]; omega)
  have HF : Hid (fnd xs q = k) := Lib.hid hf
  have hz : z = k := by rw [← hok.2.2, HF.out]
  subst hz
  have hst := st_of (okB_ok HG.out hx)
  have hst0 : x.st ≠ 0 := by
    simp only [has, Bool.and_eq_true, bne_iff_ne] at hp
    exact hp.1
  have HX := Lib.hid hx
  have hk4 : k < 4 := by omega
  have hkz : (k : Int) < 4 := by omega
  have HLEN : Hid (∀ y, (xs.set k y).length = 4) := Lib.hid (fun y => by rw [List.length_set]; exact hl)
  have HFS := Lib.hid (fl_set0 hx 1)
  have hfl : (FL xs).length = 12 := by rw [FL_len, hl]; rfl
  have HE1 : Hid (x.st = 1 → endOf xs q = ([], false)) := Lib.hid (endOf_1 HF.out hx)
  have HE2 : Hid (x.st = 2 → endOf xs q = (xs.set k nul, true)) := Lib.hid (endOf_2 HF.out hx)
  have HE3 : Hid (x.st = 3 → endOf xs q = (xs.set k { x with st := 1 }, true)) := Lib.hid (fun h => endOf_3 HF.out hx (by omega) (by omega))
  obtain ⟨b, off, y, rfl, _, hy, m0, m1, m2⟩ := slt_at HR.out hk4
  obtain rfl : y = x := by rw [hx] at hy; exact (Option.some.inj hy).symm
  clear hok HZ HFD hp hf hx hy hl HF hk
  obtain ⟨x0, x1, x2⟩ := y
  simp only at hst hst0 m0 m1 m2 HFS HE1 HE2 HE3
  have hbb := block_lt_of_cell m0
  have hst3 : x0 = 1 ∨ x0 = 2 ∨ x0 = 3 := by omega
  rcases hst3 with rfl | rfl | rfl
  · rw [HE1.out rfl]
    clear hst hst0 HE1 HE2 HE3 HFS
    go_enter Try.func14, Try.ntmps14
    go_wp2_with fail
    refine (HI.out _ HR.out).mono ?_
    rintro e w1 ⟨rfl, hb1⟩
    have HB1 := Lib.hid hb1
    have p0 : w1.cell? ⟨b, off + k * 3, none⟩ = some (.int .i64 1) := (hb1.cell hbb).trans m0
    have p1 : w1.cell? ⟨b, off + k * 3 + 1, none⟩ = some (.int .i64 x1) := (hb1.cell hbb).trans m1
    have p2 : w1.cell? ⟨b, off + k * 3 + 2, none⟩ = some (.int .i64 x2) := (hb1.cell hbb).trans m2
    clear hb1 m0 m1 m2
    go_wp2_with fail
    refine (isActive_c 1 x1 x2 (.inr (.inl rfl)) false rfl _).mono ?_
    rintro e w2 ⟨rfl, hb2⟩
    have HB2 := Lib.hid (below_then HB1.out hb2)
    clear hb2 p0 p1 p2
    go_wp2_with fail
    go_ret2
    exact slPost_no HB2.out
  · rw [HE2.out rfl]
    clear hst hst0 HE1 HE2 HE3 HFS
    go_enter Try.func14, Try.ntmps14
    go_wp2_with fail
    refine (HI.out _ HR.out).mono ?_
    rintro e w1 ⟨rfl, hb1⟩
    have HB1 := Lib.hid hb1
    have p0 : w1.cell? ⟨b, off + k * 3, none⟩ = some (.int .i64 2) := (hb1.cell hbb).trans m0
    have p1 : w1.cell? ⟨b, off + k * 3 + 1, none⟩ = some (.int .i64 x1) := (hb1.cell hbb).trans m1
    have p2 : w1.cell? ⟨b, off + k * 3 + 2, none⟩ = some (.int .i64 x2) := (hb1.cell hbb).trans m2
    clear hb1 m0 m1 m2
    go_wp2_with fail
    refine (isActive_c 2 x1 x2 (.inr (.inr (.inl rfl))) true rfl _).mono ?_
    rintro e w2 ⟨rfl, hb2⟩
    have HBB := Lib.hid (below_then HB1.out hb2)
    clear hb2 p0 p1 p2 HB1
    obtain ⟨_, _, hA, _, a0, a1, a2, b0, b1, b2, c0, c1, c2, d0, d1, d2, hfl, k0, k1, k2, k3, k4, k5, k6, k7, k8, k9, k10, k11⟩ := cells12 (HR.out.below HBB.out)
    simp only [Option.some.injEq, Addr.mk.injEq, and_true] at hA
    obtain ⟨rfl, rfl⟩ := hA
    obtain ⟨wc, hwc⟩ : ∃ wc, w2.alloc (.cells #[.int .i64 a0, .int .i64 a1, .int .i64 a2, .int .i64 b0, .int .i64 b1, .int .i64 b2, .int .i64 c0, .int .i64 c1, .int .i64 c2, .int .i64 d0, .int .i64 d1, .int .i64 d2] 66) = wc := ⟨_, rfl⟩
    have HO : Hid (wc.ownsRow w.heap.size 66 3 (.slice (some ⟨w2.heap.size, 0, none⟩) 4 4) 4 (FL xs)) := Lib.hid (own_arr (by rw [← hwc, hfl]; exact Blk.new _ _ _) (reads_len HR.out) HBB.out.size)
    have HB2 : Hid (Below w.heap.size w wc) := Lib.hid (by rw [← hwc]; exact below_more HBB.out _)
    have HWC := Lib.hid hwc
    have hat := arrayAt_any (some ⟨b, off, none⟩) c
    clear hfl hwc
    go_upto_region 5 with fail
    rw [HWC.out]
    clear HWC hat k0 k1 k2 k3 k4 k5 k6 k7 k8 k9 k10 k11
    have hgw : w.heap.size ≤ w2.heap.size := HBB.out.size
    obtain ⟨g, hg⟩ : ∃ g, w2.heap.size = g := ⟨_, rfl⟩
    rw [hg] at HO hgw
    rw [hg]
    clear hg HBB
    have f0 := HO.out.frozenAt (k * 3)
    have f1 := HO.out.frozenAt (k * 3 + 1)
    have f2 := HO.out.frozenAt (k * 3 + 2)
    have e0 : wc.cell? ⟨g, k * 3, none⟩ = some (.int .i64 2) := (HO.out.cellAt (k * 3) (by omega)).trans (FL_at (i := 0) HX.out rfl)
    have e1 : wc.cell? ⟨g, k * 3 + 1, none⟩ = some (.int .i64 x1) := (HO.out.cellAt (k * 3 + 1) (by omega)).trans (FL_at (i := 1) HX.out rfl)
    have e2 : wc.cell? ⟨g, k * 3 + 2, none⟩ = some (.int .i64 x2) := (HO.out.cellAt (k * 3 + 2) (by omega)).trans (FL_at (i := 2) HX.out rfl)
    have HP := Lib.hid (slt_put HO.out (k := k) (by rw [reads_len HR.out]; exact hk4) nul)
    have HW := Lib.hid (below_set (below_set (below_set HB2.out hgw (j := k * 3) (.int .i64 0)) hgw (j := k * 3 + 1) (.int .i64 0)) hgw (j := k * 3 + 2) (.int .i64 0))
    clear HO HB2
    go_wp2_with fail
    go_ret2
    exact slPost_4 (HLEN.out _) HP.out.1 HW.out
  · rw [HE3.out rfl]
    clear hst hst0 HE1 HE2 HE3
    go_enter Try.func14, Try.ntmps14
    go_wp2_with fail
    refine (HI.out _ HR.out).mono ?_
    rintro e w1 ⟨rfl, hb1⟩
    have HB1 := Lib.hid hb1
    have p0 : w1.cell? ⟨b, off + k * 3, none⟩ = some (.int .i64 3) := (hb1.cell hbb).trans m0
    have p1 : w1.cell? ⟨b, off + k * 3 + 1, none⟩ = some (.int .i64 x1) := (hb1.cell hbb).trans m1
    have p2 : w1.cell? ⟨b, off + k * 3 + 2, none⟩ = some (.int .i64 x2) := (hb1.cell hbb).trans m2
    clear hb1 m0 m1 m2
    go_wp2_with fail
    refine (isActive_c 3 x1 x2 (.inr (.inr (.inr rfl))) true rfl _).mono ?_
    rintro e w2 ⟨rfl, hb2⟩
    have HBB := Lib.hid (below_then HB1.out hb2)
    clear hb2 p0 p1 p2 HB1
    obtain ⟨_, _, hA, _, a0, a1, a2, b0, b1, b2, c0, c1, c2, d0, d1, d2, hfl, k0, k1, k2, k3, k4, k5, k6, k7, k8, k9, k10, k11⟩ := cells12 (HR.out.below HBB.out)
    simp only [Option.some.injEq, Addr.mk.injEq, and_true] at hA
    obtain ⟨rfl, rfl⟩ := hA
    obtain ⟨wc, hwc⟩ : ∃ wc, w2.alloc (.cells #[.int .i64 a0, .int .i64 a1, .int .i64 a2, .int .i64 b0, .int .i64 b1, .int .i64 b2, .int .i64 c0, .int .i64 c1, .int .i64 c2, .int .i64 d0, .int .i64 d1, .int .i64 d2] 66) = wc := ⟨_, rfl⟩
    have HO : Hid (wc.ownsRow w.heap.size 66 3 (.slice (some ⟨w2.heap.size, 0, none⟩) 4 4) 4 (FL xs)) := Lib.hid (own_arr (by rw [← hwc, hfl]; exact Blk.new _ _ _) (reads_len HR.out) HBB.out.size)
    have HB2 : Hid (Below w.heap.size w wc) := Lib.hid (by rw [← hwc]; exact below_more HBB.out _)
    have HWC := Lib.hid hwc
    have hat := arrayAt_any (some ⟨b, off, none⟩) c
    clear hfl hwc
    go_upto_region 5 with fail
    rw [HWC.out]
    clear HWC hat k0 k1 k2 k3 k4 k5 k6 k7 k8 k9 k10 k11
    have hgw : w.heap.size ≤ w2.heap.size := HBB.out.size
    obtain ⟨g, hg⟩ : ∃ g, w2.heap.size = g := ⟨_, rfl⟩
    rw [hg] at HO hgw
    rw [hg]
    clear hg HBB
    have f0 := HO.out.frozenAt (k * 3)
    have f1 := HO.out.frozenAt (k * 3 + 1)
    have f2 := HO.out.frozenAt (k * 3 + 2)
    have e0 : wc.cell? ⟨g, k * 3, none⟩ = some (.int .i64 3) := (HO.out.cellAt (k * 3) (by omega)).trans (FL_at (i := 0) HX.out rfl)
    have e1 : wc.cell? ⟨g, k * 3 + 1, none⟩ = some (.int .i64 x1) := (HO.out.cellAt (k * 3 + 1) (by omega)).trans (FL_at (i := 1) HX.out rfl)
    have e2 : wc.cell? ⟨g, k * 3 + 2, none⟩ = some (.int .i64 x2) := (HO.out.cellAt (k * 3 + 2) (by omega)).trans (FL_at (i := 2) HX.out rfl)
    have HS := Lib.hid (HO.out.stored (k * 3) (.int .i64 1)).1
    have HW := Lib.hid (below_set HB2.out hgw (j := k * 3) (.int .i64 1))
    rw [HFS.out] at HS
    clear HO HB2 HFS
    go_wp2_with fail
    go_ret2
    exact slPost_4 (HLEN.out _) HS.out HW.out
end Go.Proofs.Ytadpjkghfgnbbaa.L8

namespace Go.Proofs.Ytadpjkghfgnbbaa.L8
open Go Go.RowKit Go.Proofs.Ytadpjkghfgnbbaa.Mem Go.Proofs.Ytadpjkghfgnbbaa.Own Go.Proofs.Ytadpjkghfgnbbaa.L6
/-- an answer of slots, one slot, and whether there is one -/
def EvPost (w : World) (r : List Slt × Slt × Bool) (e : Ending) (w' : World) : Prop :=
  ∃ A' c' t, e = .returned (.tuple #[.slice A' r.1.length c', .agg #[.int .i64 r.2.1.st, .int .i64 r.2.1.iq, .int .i64 r.2.1.pr], .bool r.2.2]) ∧ w'.ownsRow w.heap.size t 3 (.slice A' r.1.length c') r.1.length (FL r.1) ∧ Below w.heap.size w w'
theorem evPost_no {w w' : World} (hb : Below w.heap.size w w') : EvPost w ([], nul, false) (.returned (.tuple #[.slice none 0 0, .agg #[.int .i64 0, .int .i64 0, .int .i64 0], .bool false])) w' := ⟨none, 0, 33, rfl, World.ownsRow_nil _ _ _ _, hb⟩
theorem evPost_nil {w w' : World} {g : Nat} (ho : w'.ownsRow w.heap.size 33 3 (.slice (some ⟨g, 0, none⟩) 0 0) 0 []) (hb : Below w.heap.size w w') : EvPost w ([], nul, false) (.returned (.tuple #[.slice (some ⟨g, 0, none⟩) 0 0, .agg #[.int .i64 0, .int .i64 0, .int .i64 0], .bool false])) w' := ⟨_, 0, 33, rfl, ho, hb⟩
theorem evPost_4 {w w' : World} {l : List Slt} {x : Slt} {g c : Nat} {t : TypeId} (hl : l.length = 4) (ho : w'.ownsRow w.heap.size t 3 (.slice (some ⟨g, 0, none⟩) 4 c) 4 (FL l)) (hb : Below w.heap.size w w') : EvPost w (l, x, true) (.returned (.tuple #[.slice (some ⟨g, 0, none⟩) 4 c, .agg #[.int .i64 x.st, .int .i64 x.iq, .int .i64 x.pr], .bool true])) w' :=
  ⟨some ⟨g, 0, none⟩, c, t, by rw [hl], by rw [hl]; exact ho, hb⟩
end Go.Proofs.Ytadpjkghfgnbbaa.L8

namespace Go.Proofs.Ytadpjkghfgnbbaa.L8
open Go Go.RowKit Go.Proofs.Ytadpjkghfgnbbaa.Mem Go.Proofs.Ytadpjkghfgnbbaa.Own Go.Proofs.Ytadpjkghfgnbbaa.L6 Go.Proofs.Ytadpjkghfgnbbaa.L1
set_option maxRecDepth 100000 in
set_option maxHeartbeats 800000 in
theorem implEvict_any (A : Option Addr) (n c : Nat) (xs : List Slt) (w : World) (hr : Reads w w.heap.size 3 A n (FL xs)) (hc : n ≤ c) :
    Calls Try.prog 19 #[.slice A n c] w (EvPost w (evAns xs)) := by
  have HR := Lib.hid hr
  obtain ⟨b, hb⟩ : ∃ b, okB xs = b := ⟨_, rfl⟩
  have HG := Lib.hid hb
  have HI := Lib.hid (fun w hr => implAre_any A n c _ xs w hr (Nat.le_refl _) hc b HG.out)
  clear hr hb
  cases b
  · have HZ : Hid (evAns xs = ([], nul, false)) := Lib.hid (evAns_no (.inl HG.out))
    rw [HZ.out]
    clear HZ
    obtain ⟨wz, hwz⟩ : ∃ wz, w.alloc (.cells #[.int .i64 0, .int .i64 0, .int .i64 0] 33) = wz := ⟨_, rfl⟩
    have HRZ : Hid (Blk wz w.heap.size 33 #[.int .i64 0, .int .i64 0, .int .i64 0]) := Lib.hid (by rw [← hwz]; exact Blk.new _ _ _)
    have HB0 : Hid (Below w.heap.size w wz) := Lib.hid (by rw [← hwz]; exact below_more (Below.refl _ _) _)
    have HWZ := Lib.hid hwz
    clear hwz
    go_enter Try.func19, Try.ntmps19
    go_upto_region 1 with fail
    rw [HWZ.out]
    clear HWZ
    go_wp2_with fail
    refine (HI.out _ ((HR.out.below HB0.out).more HB0.out.size)).mono ?_
    rintro e w1 ⟨rfl, hb1⟩
    have HB1 := Lib.hid (below_then HB0.out hb1)
    have HR1 := Lib.hid (Blk.kept hb1 HRZ.out)
    clear hb1
    have z0 : w1.cell? ⟨w.heap.size, 0, none⟩ = some (.int .i64 0) := HR1.out.cell 0 _ rfl
    have z1 : w1.cell? ⟨w.heap.size, 1, none⟩ = some (.int .i64 0) := HR1.out.cell 1 _ rfl
    have z2 : w1.cell? ⟨w.heap.size, 2, none⟩ = some (.int .i64 0) := HR1.out.cell 2 _ rfl
    have zf0 := HR1.out.free 0
    have zf1 := HR1.out.free 1
    have zf2 := HR1.out.free 2
    have H3 := Lib.hid (((HR1.out.set 0 (.int .i64 0)).set 1 (.int .i64 0)).set 2 (.int .i64 0))
    have HB3 := Lib.hid (below_set (below_set (below_set HB1.out (Nat.le_refl _) (j := 0) (.int .i64 0)) (Nat.le_refl _) (j := 1) (.int .i64 0)) (Nat.le_refl _) (j := 2) (.int .i64 0))
    clear HB1 HR1
    go_wp2_with fail
    have y0 := H3.out.cell 0 _ rfl
    have y1 := H3.out.cell 1 _ rfl
    have y2 := H3.out.cell 2 _ rfl
    exact bodyPost_ret (v := .tuple #[.slice none 0 0, .agg #[.int .i64 0, .int .i64 0, .int .i64 0], .bool false]) (by simp [results, Try.results19, go_sem, y0, y1, y2]) rfl (evPost_no HB3.out)
  have hl : xs.length = 4 := okB_len HG.out
  have h4 : n = 4 := by have h1 : xs.length = n := reads_len HR.out; omega
  subst h4
  obtain ⟨wz, hwz⟩ : ∃ wz, w.alloc (.cells #[.int .i64 0, .int .i64 0, .int .i64 0] 33) = wz := ⟨_, rfl⟩
  have HRZ : Hid (Blk wz w.heap.size 33 #[.int .i64 0, .int .i64 0, .int .i64 0]) := Lib.hid (by rw [← hwz]; exact Blk.new _ _ _)
  have HB0 : Hid (Below w.heap.size w wz) := Lib.hid (by rw [← hwz]; exact below_more (Below.refl _ _) _)
  have HWZ := Lib.hid hwz
  clear hwz
  go_enter Try.func19, Try.ntmps19
  go_upto_region 1 with fail
  rw [HWZ.out]
  clear HWZ
  go_wp2_with fail
  refine (HI.out _ ((HR.out.below HB0.out).more HB0.out.size)).mono ?_
  rintro e w1 ⟨rfl, hb1⟩
  have HB1 := Lib.hid (below_then HB0.out hb1)
  have HR1 := Lib.hid (Blk.kept hb1 HRZ.out)
  clear hb1
  go_wp2_with fail
  refine (pendingSlots_any A c xs _ ((HR.out.below HB1.out).more HB1.out.size) HG.out).mono ?_
  rintro e w2 ⟨A', c', rfl, hown, hb2⟩
  have HB := Lib.hid (below_then HB1.out hb2)
  have HR2 := Lib.hid (Blk.kept hb2 HR1.out)
  have HOP := Lib.hid hown
  obtain ⟨m, hm⟩ : ∃ m, (pnd xs).length = m := ⟨_, rfl⟩
  have hm4 : m ≤ 4 := by rw [← hm]; exact pnd_len xs
  rw [hm] at HOP
  rw [hm]
  have HM := Lib.hid hm
  clear hb2 hown HB1 HR1 hm
  by_cases h0 : m = 0
  · have HT := Lib.hid (evAns_no (xs := xs) (.inr (pnd_nil (m := false) (List.length_eq_zero_iff.1 (HM.out.trans h0)))))
    subst h0
    have z0 : w2.cell? ⟨w.heap.size, 0, none⟩ = some (.int .i64 0) := HR2.out.cell 0 _ rfl
    have z1 : w2.cell? ⟨w.heap.size, 1, none⟩ = some (.int .i64 0) := HR2.out.cell 1 _ rfl
    have z2 : w2.cell? ⟨w.heap.size, 2, none⟩ = some (.int .i64 0) := HR2.out.cell 2 _ rfl
    have zf0 := HR2.out.free 0
    have zf1 := HR2.out.free 1
    have zf2 := HR2.out.free 2
    have H3 := Lib.hid (((HR2.out.set 0 (.int .i64 0)).set 1 (.int .i64 0)).set 2 (.int .i64 0))
    have HB3 := Lib.hid (below_set (below_set (below_set HB.out (Nat.le_refl _) (j := 0) (.int .i64 0)) (Nat.le_refl _) (j := 1) (.int .i64 0)) (Nat.le_refl _) (j := 2) (.int .i64 0))
    clear HB HR2
    go_wp2_with fail
    have y0 := H3.out.cell 0 _ rfl
    have y1 := H3.out.cell 1 _ rfl
    have y2 := H3.out.cell 2 _ rfl
    exact bodyPost_ret (v := .tuple #[.slice none 0 0, .agg #[.int .i64 0, .int .i64 0, .int .i64 0], .bool false]) (by simp [results, Try.results19, go_sem, y0, y1, y2]) rfl (by rw [HT.out]; exact evPost_no HB3.out)
  obtain ⟨m1, hm1⟩ : ∃ m1, m = m1 + 1 := ⟨m - 1, by omega⟩
  subst hm1
  have hpl : m1 < (pnd xs).length := by rw [HM.out]; omega
  obtain ⟨k, hk⟩ : ∃ k, (pnd xs)[m1]? = some k := ⟨_, List.getElem?_eq_getElem hpl⟩
  have hbst := pnd_last HG.out HM.out hk
  have hkm := mem_pnd.1 (List.mem_of_getElem? hk)
  have hk4 : k < 4 := hkm.1
  have hkz : (k : Int) < 4 := by omega
  obtain ⟨g0, rfl⟩ := own_head HOP.out (by omega)
  have q0 : w2.cell? ⟨g0, m1, none⟩ = some (.int .i64 (k : Int)) := (HOP.out.cellAt m1 (by omega)).trans (I_at (L6.ints_at hk))
  obtain ⟨b, off, y, rfl, _, hx, m0, mm1, mm2⟩ := slt_at HR.out hk4
  have hs1 : y.st = 1 := by have h := hkm.2; rw [getD_atS hx] at h; exact h
  have HX := Lib.hid hx
  have HLEN : Hid (∀ y, (xs.set k y).length = 4) := Lib.hid (fun y => by rw [List.length_set]; exact hl)
  have HT := Lib.hid (evAns_yes HG.out hbst hx)
  obtain ⟨x0, x1, x2⟩ := y
  simp only at hs1 m0 mm1 mm2
  subst hs1
  have hfl : (FL xs).length = 12 := by rw [FL_len, hl]; rfl
  have t00 : (((m1 + 1 : Nat) : Int) == 0) = false := by simp; omega
  have hw1 : IntKind.i64.wrap (((m1 + 1 : Nat) : Int) - 1) = (m1 : Int) := by rw [show (((m1 + 1 : Nat) : Int) - 1) = (m1 : Int) by push_cast; omega]; exact IntWalk.i64_in _ (by omega)
  have hmz : (m1 : Int) < ((m1 + 1 : Nat) : Int) := by push_cast; omega
  clear hbst hx hl h0 hpl hk hkm
  have HM0 := Lib.hid m0
  have HM1 := Lib.hid mm1
  have HM2 := Lib.hid mm2
  clear m0 mm1 mm2
  go_upto_region 7 with fail
  clear q0 t00 hw1 hmz
  obtain ⟨_, _, hA, _, a0, a1, a2, b0, b1, b2, c0, c1, c2, d0, d1, d2, hfl2, k0, k1, k2, k3, k4, k5, k6, k7, k8, k9, k10, k11⟩ := cells12 (HR.out.below HB.out)
  simp only [Option.some.injEq, Addr.mk.injEq, and_true] at hA
  obtain ⟨rfl, rfl⟩ := hA
  obtain ⟨wc, hwc⟩ : ∃ wc, w2.alloc (.cells #[.int .i64 a0, .int .i64 a1, .int .i64 a2, .int .i64 b0, .int .i64 b1, .int .i64 b2, .int .i64 c0, .int .i64 c1, .int .i64 c2, .int .i64 d0, .int .i64 d1, .int .i64 d2] 66) = wc := ⟨_, rfl⟩
  have HO : Hid (wc.ownsRow w.heap.size 66 3 (.slice (some ⟨w2.heap.size, 0, none⟩) 4 4) 4 (FL xs)) := Lib.hid (own_arr (by rw [← hwc, hfl2]; exact Blk.new _ _ _) (reads_len HR.out) HB.out.size)
  have HB2 : Hid (Below w.heap.size w wc) := Lib.hid (by rw [← hwc]; exact below_more HB.out _)
  have HWC := Lib.hid hwc
  have hat := arrayAt_any (some ⟨b, off, none⟩) c
  clear hfl2 hwc
  go_upto_region 8 with fail
  rw [HWC.out]
  clear hat k0 k1 k2 k3 k4 k5 k6 k7 k8 k9 k10 k11
  have HWC2 := HWC
  clear HWC
  have hgw : w.heap.size ≤ w2.heap.size := HB.out.size
  have hgw2 : w.heap.size < w2.heap.size := HR2.out.lt
  obtain ⟨g, hg⟩ : ∃ g, w2.heap.size = g := ⟨_, rfl⟩
  rw [hg] at HO hgw hgw2
  rw [hg]
  clear hg HB
  have hgw1 : w.heap.size ≠ g := by omega
  have HRC : Hid (Blk wc w.heap.size 33 #[.int .i64 0, .int .i64 0, .int .i64 0]) := Lib.hid (by rw [← HWC2.out]; exact HR2.out.alloc _)
  clear HWC2 HR2
  have f0 := HO.out.frozenAt (k * 3)
  have f1 := HO.out.frozenAt (k * 3 + 1)
  have f2 := HO.out.frozenAt (k * 3 + 2)
  have e0 : wc.cell? ⟨g, k * 3, none⟩ = some (.int .i64 1) := (HO.out.cellAt (k * 3) (by omega)).trans (FL_at (i := 0) HX.out rfl)
  have e1 : wc.cell? ⟨g, k * 3 + 1, none⟩ = some (.int .i64 x1) := (HO.out.cellAt (k * 3 + 1) (by omega)).trans (FL_at (i := 1) HX.out rfl)
  have e2 : wc.cell? ⟨g, k * 3 + 2, none⟩ = some (.int .i64 x2) := (HO.out.cellAt (k * 3 + 2) (by omega)).trans (FL_at (i := 2) HX.out rfl)
  have HP := Lib.hid (slt_put HO.out (k := k) (by rw [reads_len HR.out]; exact hk4) nul).1
  have HW := Lib.hid (below_set (below_set (below_set HB2.out hgw (j := k * 3) (.int .i64 0)) hgw (j := k * 3 + 1) (.int .i64 0)) hgw (j := k * 3 + 2) (.int .i64 0))
  have HRD := Lib.hid (((HRC.out.other (.int .i64 0) hgw1 (j := k * 3)).other (.int .i64 0) hgw1 (j := k * 3 + 1)).other (.int .i64 0) hgw1 (j := k * 3 + 2))
  go_upto_region 9 with fail
  clear e0 e1 e2 f0 f1 f2 HO HB2 HRC
  revert HP HW HRD
  simp only [nul]
  generalize (World.setCell (World.setCell (World.setCell wc _ _) _ _) _ _) = wd
  intro HP HW HRD
  have n0 : wd.cell? ⟨b, off + k * 3, none⟩ = some (.int .i64 1) := (HW.out.cell (block_lt_of_cell HM0.out)).trans HM0.out
  have n1 : wd.cell? ⟨b, off + k * 3 + 1, none⟩ = some (.int .i64 x1) := (HW.out.cell (block_lt_of_cell HM1.out)).trans HM1.out
  have n2 : wd.cell? ⟨b, off + k * 3 + 2, none⟩ = some (.int .i64 x2) := (HW.out.cell (block_lt_of_cell HM2.out)).trans HM2.out
  have z0 : wd.cell? ⟨w.heap.size, 0, none⟩ = some (.int .i64 0) := HRD.out.cell 0 _ rfl
  have z1 : wd.cell? ⟨w.heap.size, 1, none⟩ = some (.int .i64 0) := HRD.out.cell 1 _ rfl
  have z2 : wd.cell? ⟨w.heap.size, 2, none⟩ = some (.int .i64 0) := HRD.out.cell 2 _ rfl
  have zf0 := HRD.out.free 0
  have zf1 := HRD.out.free 1
  have zf2 := HRD.out.free 2
  have hgn : (Value.slice (some ⟨g, 0, none⟩) 4 4).ownBlock ≠ some w.heap.size := by intro h; injection h with h; exact hgw1 h.symm
  have HD : Hid (Blk wd w.heap.size 33 #[.int .i64 0, .int .i64 0, .int .i64 0]) := Lib.hid HRD.out
  have HPD : Hid (wd.ownsRow w.heap.size 66 3 (.slice (some ⟨g, 0, none⟩) 4 4) 4 (FL (xs.set k ⟨0, 0, 0⟩))) := Lib.hid HP.out
  have HWD : Hid (Below w.heap.size w wd) := Lib.hid HW.out
  have H3 := Lib.hid (((HD.out.set 0 (.int .i64 1)).set 1 (.int .i64 x1)).set 2 (.int .i64 x2))
  have HO3 := Lib.hid (own_set (own_set (own_set HPD.out (j := 0) (.int .i64 1) hgn) (j := 1) (.int .i64 x1) hgn) (j := 2) (.int .i64 x2) hgn)
  have HB3 := Lib.hid (below_set (below_set (below_set HWD.out (Nat.le_refl _) (j := 0) (.int .i64 1)) (Nat.le_refl _) (j := 1) (.int .i64 x1)) (Nat.le_refl _) (j := 2) (.int .i64 x2))
  clear HRD HP HW HD HPD HWD hgn
  go_region
  all_goals
    clear n0 n1 n2 z0 z1 z2 zf0 zf1 zf2
    revert H3 HO3 HB3
    generalize (World.setCell (World.setCell (World.setCell _ _ _) _ _) _ _) = wy
    intro H3 HO3 HB3
    have y0 : World.cell? _ ⟨w.heap.size, 0, none⟩ = some (.int .i64 1) := H3.out.cell 0 _ rfl
    have y1 : World.cell? _ ⟨w.heap.size, 1, none⟩ = some (.int .i64 x1) := H3.out.cell 1 _ rfl
    have y2 : World.cell? _ ⟨w.heap.size, 2, none⟩ = some (.int .i64 x2) := H3.out.cell 2 _ rfl
    go_wp2_with fail
    exact bodyPost_ret (v := .tuple #[.slice (some ⟨g, 0, none⟩) 4 4, .agg #[.int .i64 1, .int .i64 x1, .int .i64 x2], .bool true]) (by simp [results, Try.results19, go_sem, y0, y1, y2]) rfl (by rw [HT.out]; exact evPost_4 (x := ⟨1, x1, x2⟩) (HLEN.out _) HO3.out (below_then HB3.out (below_dN wy 1)))
end Go.Proofs.Ytadpjkghfgnbbaa.L8

namespace Go.Proofs.Ytadpjkghfgnbbaa.L8
open Go Go.RowKit Go.Proofs.Ytadpjkghfgnbbaa.Mem Go.Proofs.Ytadpjkghfgnbbaa.Own Go.Proofs.Ytadpjkghfgnbbaa.L6 Go.Proofs.Ytadpjkghfgnbbaa.L1
set_option maxRecDepth 100000 in
set_option maxHeartbeats 800000 in
theorem specEvict_any (A : Option Addr) (n c : Nat) (xs : List Slt) (w : World) (hr : Reads w w.heap.size 3 A n (FL xs)) (hn : n ≤ 1048576) :
    Calls Try.prog 20 #[.slice A n c] w (EvPost w (evAns xs)) := by
  have HR := Lib.hid hr
  obtain ⟨b, hb⟩ : ∃ b, okB xs = b := ⟨_, rfl⟩
  have HG := Lib.hid hb
  have HI := Lib.hid (fun w hr => l8Good_any A n c _ xs w hr (Nat.le_refl _) hn b HG.out)
  clear hr hb
  cases b
  · have HZ : Hid (evAns xs = ([], nul, false)) := Lib.hid (evAns_no (.inl HG.out))
    rw [HZ.out]
    clear HZ
    obtain ⟨wz, hwz⟩ : ∃ wz, w.alloc (.cells #[.int .i64 0, .int .i64 0, .int .i64 0] 33) = wz := ⟨_, rfl⟩
    have HRZ : Hid (Blk wz w.heap.size 33 #[.int .i64 0, .int .i64 0, .int .i64 0]) := Lib.hid (by rw [← hwz]; exact Blk.new _ _ _)
    have HB0 : Hid (Below w.heap.size w wz) := Lib.hid (by rw [← hwz]; exact below_more (Below.refl _ _) _)
    have HWZ := Lib.hid hwz
    clear hwz
    go_enter Try.func20, Try.ntmps20
    go_upto_region 1 with fail
    rw [HWZ.out]
    clear HWZ
    go_wp2_with fail
    refine (HI.out _ ((HR.out.below HB0.out).more HB0.out.size)).mono ?_
    rintro e w1 ⟨rfl, hb1⟩
    have HB1 := Lib.hid (below_then HB0.out hb1)
    have HR1 := Lib.hid (Blk.kept hb1 HRZ.out)
    clear hb1
    go_upto_region 2 with fail
    obtain ⟨we, hwe⟩ : ∃ we, w1.alloc (.cells #[] 33) = we := ⟨_, rfl⟩
    have HOE : Hid (we.ownsRow w.heap.size 33 3 (.slice (some ⟨w1.heap.size, 0, none⟩) 0 0) 0 []) := Lib.hid (by rw [← hwe]; exact World.ownsRow_made w1 #[] 0 HB1.out.size (Nat.zero_le _) rfl)
    have HBE : Hid (Below w.heap.size w we) := Lib.hid (by rw [← hwe]; exact below_more HB1.out _)
    have HRE : Hid (Blk we w.heap.size 33 #[.int .i64 0, .int .i64 0, .int .i64 0]) := Lib.hid (by rw [← hwe]; exact HR1.out.alloc _)
    have hgn : (Value.slice (some ⟨w1.heap.size, 0, none⟩) 0 0).ownBlock ≠ some w.heap.size := by intro h; injection h with h; exact absurd h (Nat.ne_of_gt HR1.out.lt)
    have z0 : we.cell? ⟨w.heap.size, 0, none⟩ = some (.int .i64 0) := HRE.out.cell 0 _ rfl
    have z1 : we.cell? ⟨w.heap.size, 1, none⟩ = some (.int .i64 0) := HRE.out.cell 1 _ rfl
    have z2 : we.cell? ⟨w.heap.size, 2, none⟩ = some (.int .i64 0) := HRE.out.cell 2 _ rfl
    have zf0 := HRE.out.free 0
    have zf1 := HRE.out.free 1
    have zf2 := HRE.out.free 2
    have H3 := Lib.hid (((HRE.out.set 0 (.int .i64 0)).set 1 (.int .i64 0)).set 2 (.int .i64 0))
    have HO3 := Lib.hid (own_set (own_set (own_set HOE.out (j := 0) (.int .i64 0) hgn) (j := 1) (.int .i64 0) hgn) (j := 2) (.int .i64 0) hgn)
    have HB3 := Lib.hid (below_set (below_set (below_set HBE.out (Nat.le_refl _) (j := 0) (.int .i64 0)) (Nat.le_refl _) (j := 1) (.int .i64 0)) (Nat.le_refl _) (j := 2) (.int .i64 0))
    clear HOE HBE HRE hgn
    go_wp2_with (at_builtin; rw [hwe])
    clear z0 z1 z2 zf0 zf1 zf2
    revert H3 HO3 HB3
    generalize (World.setCell (World.setCell (World.setCell we _ _) _ _) _ _) = wy
    intro H3 HO3 HB3
    have y0 : wy.cell? ⟨w.heap.size, 0, none⟩ = some (.int .i64 0) := H3.out.cell 0 _ rfl
    have y1 : wy.cell? ⟨w.heap.size, 1, none⟩ = some (.int .i64 0) := H3.out.cell 1 _ rfl
    have y2 : wy.cell? ⟨w.heap.size, 2, none⟩ = some (.int .i64 0) := H3.out.cell 2 _ rfl
    exact bodyPost_ret (v := .tuple #[.slice (some ⟨w1.heap.size, 0, none⟩) 0 0, .agg #[.int .i64 0, .int .i64 0, .int .i64 0], .bool false]) (by simp [results, Try.results20, go_sem, y0, y1, y2]) rfl (evPost_nil HO3.out HB3.out)
  have hl : xs.length = 4 := okB_len HG.out
  have h4 : n = 4 := by have h1 : xs.length = n := reads_len HR.out; omega
  subst h4
  rcases bst_is false xs 4 with ⟨hb, _⟩ | ⟨k, hb, hj⟩
  · have HB := Lib.hid hb
    have HZ : Hid (evAns xs = ([], nul, false)) := Lib.hid (evAns_no (.inr HB.out))
    rw [HZ.out]
    clear HZ hb hl
    obtain ⟨wz, hwz⟩ : ∃ wz, w.alloc (.cells #[.int .i64 0, .int .i64 0, .int .i64 0] 33) = wz := ⟨_, rfl⟩
    have HRZ : Hid (Blk wz w.heap.size 33 #[.int .i64 0, .int .i64 0, .int .i64 0]) := Lib.hid (by rw [← hwz]; exact Blk.new _ _ _)
    have HB0 : Hid (Below w.heap.size w wz) := Lib.hid (by rw [← hwz]; exact below_more (Below.refl _ _) _)
    have HWZ := Lib.hid hwz
    clear hwz
    go_enter Try.func20, Try.ntmps20
    go_upto_region 1 with fail
    rw [HWZ.out]
    clear HWZ
    go_wp2_with fail
    refine (HI.out _ ((HR.out.below HB0.out).more HB0.out.size)).mono ?_
    rintro e w1 ⟨rfl, hb1⟩
    have HB1 := Lib.hid (below_then HB0.out hb1)
    have HR1 := Lib.hid (Blk.kept hb1 HRZ.out)
    clear hb1
    go_wp2_with fail
    refine (l8Best_false A c _ xs _ (HR.out.below HB1.out) HB1.out.size).mono ?_
    rintro e w2 ⟨rfl, hb2⟩
    rw [HB.out]
    have HB2 := Lib.hid (below_then HB1.out hb2)
    have HR2 := Lib.hid (Blk.kept hb2 HR1.out)
    clear hb2 HB1 HR1
    go_upto_region 2 with fail
    obtain ⟨we, hwe⟩ : ∃ we, w2.alloc (.cells #[] 33) = we := ⟨_, rfl⟩
    have HOE : Hid (we.ownsRow w.heap.size 33 3 (.slice (some ⟨w2.heap.size, 0, none⟩) 0 0) 0 []) := Lib.hid (by rw [← hwe]; exact World.ownsRow_made w2 #[] 0 HB2.out.size (Nat.zero_le _) rfl)
    have HBE : Hid (Below w.heap.size w we) := Lib.hid (by rw [← hwe]; exact below_more HB2.out _)
    have HRE : Hid (Blk we w.heap.size 33 #[.int .i64 0, .int .i64 0, .int .i64 0]) := Lib.hid (by rw [← hwe]; exact HR2.out.alloc _)
    have hgn : (Value.slice (some ⟨w2.heap.size, 0, none⟩) 0 0).ownBlock ≠ some w.heap.size := by intro h; injection h with h; exact absurd h (Nat.ne_of_gt HR2.out.lt)
    have z0 : we.cell? ⟨w.heap.size, 0, none⟩ = some (.int .i64 0) := HRE.out.cell 0 _ rfl
    have z1 : we.cell? ⟨w.heap.size, 1, none⟩ = some (.int .i64 0) := HRE.out.cell 1 _ rfl
    have z2 : we.cell? ⟨w.heap.size, 2, none⟩ = some (.int .i64 0) := HRE.out.cell 2 _ rfl
    have zf0 := HRE.out.free 0
    have zf1 := HRE.out.free 1
    have zf2 := HRE.out.free 2
    have H3 := Lib.hid (((HRE.out.set 0 (.int .i64 0)).set 1 (.int .i64 0)).set 2 (.int .i64 0))
    have HO3 := Lib.hid (own_set (own_set (own_set HOE.out (j := 0) (.int .i64 0) hgn) (j := 1) (.int .i64 0) hgn) (j := 2) (.int .i64 0) hgn)
    have HB3 := Lib.hid (below_set (below_set (below_set HBE.out (Nat.le_refl _) (j := 0) (.int .i64 0)) (Nat.le_refl _) (j := 1) (.int .i64 0)) (Nat.le_refl _) (j := 2) (.int .i64 0))
    clear HOE HBE HRE hgn
    go_wp2_with (at_builtin; rw [hwe])
    clear z0 z1 z2 zf0 zf1 zf2
    revert H3 HO3 HB3
    generalize (World.setCell (World.setCell (World.setCell we _ _) _ _) _ _) = wy
    intro H3 HO3 HB3
    have y0 : wy.cell? ⟨w.heap.size, 0, none⟩ = some (.int .i64 0) := H3.out.cell 0 _ rfl
    have y1 : wy.cell? ⟨w.heap.size, 1, none⟩ = some (.int .i64 0) := H3.out.cell 1 _ rfl
    have y2 : wy.cell? ⟨w.heap.size, 2, none⟩ = some (.int .i64 0) := H3.out.cell 2 _ rfl
    exact bodyPost_ret (v := .tuple #[.slice (some ⟨w2.heap.size, 0, none⟩) 0 0, .agg #[.int .i64 0, .int .i64 0, .int .i64 0], .bool false]) (by simp [results, Try.results20, go_sem, y0, y1, y2]) rfl (evPost_nil HO3.out HB3.out)
  have hk4 : k < 4 := hj.lt
  have hkz : (k : Int) < 4 := by omega
  have tk : decide ((k : Int) < 0) = false := decide_eq_false (by omega)
  obtain ⟨b, off, x, rfl, hbB, hx, m0, m1, m2⟩ := slt_at HR.out hk4
  have HM0 := Lib.hid m0
  have HM1 := Lib.hid m1
  have HM2 := Lib.hid m2
  have HT := Lib.hid (evAns_yes HG.out hb hx)
  have HLEN : Hid (∀ y, (xs.set k y).length = 4) := Lib.hid (fun y => by rw [List.length_set]; exact hl)
  have HB := Lib.hid hb
  rw [HT.out]
  obtain ⟨x0, x1, x2⟩ := x
  simp only at HM0 HM1 HM2
  clear m0 m1 m2 hb hj hl hx HT
  obtain ⟨wz, hwz⟩ : ∃ wz, w.alloc (.cells #[.int .i64 0, .int .i64 0, .int .i64 0] 33) = wz := ⟨_, rfl⟩
  have HRZ : Hid (Blk wz w.heap.size 33 #[.int .i64 0, .int .i64 0, .int .i64 0]) := Lib.hid (by rw [← hwz]; exact Blk.new _ _ _)
  have HB0 : Hid (Below w.heap.size w wz) := Lib.hid (by rw [← hwz]; exact below_more (Below.refl _ _) _)
  have HWZ := Lib.hid hwz
  clear hwz
  go_enter Try.func20, Try.ntmps20
  go_upto_region 1 with fail
  rw [HWZ.out]
  clear HWZ
  go_wp2_with fail
  refine (HI.out _ ((HR.out.below HB0.out).more HB0.out.size)).mono ?_
  rintro e w1 ⟨rfl, hb1⟩
  have HB1 := Lib.hid (below_then HB0.out hb1)
  have HR1 := Lib.hid (Blk.kept hb1 HRZ.out)
  clear hb1
  go_wp2_with fail
  refine (l8Best_false (some ⟨b, off, none⟩) c _ xs _ (HR.out.below HB1.out) HB1.out.size).mono ?_
  rintro e w2 ⟨rfl, hb2⟩
  rw [HB.out]
  have HB2 := Lib.hid (below_then HB1.out hb2)
  have HR2 := Lib.hid (Blk.kept hb2 HR1.out)
  clear hb2 HB1 HR1
  go_wp2_with fail
  refine (l8Best_false (some ⟨b, off, none⟩) c _ xs _ (HR.out.below HB2.out) HB2.out.size).mono ?_
  rintro e w3 ⟨rfl, hb3⟩
  rw [HB.out]
  have HBZ := Lib.hid (below_then HB2.out hb3)
  have HRR := Lib.hid (Blk.kept hb3 HR2.out)
  clear hb3 HB2 HR2
  go_upto_region 4 with fail
  have n0 : w3.cell? ⟨b, off + k * 3, none⟩ = some (.int .i64 x0) := (HBZ.out.cell (block_lt_of_cell HM0.out)).trans HM0.out
  have n1 : w3.cell? ⟨b, off + k * 3 + 1, none⟩ = some (.int .i64 x1) := (HBZ.out.cell (block_lt_of_cell HM1.out)).trans HM1.out
  have n2 : w3.cell? ⟨b, off + k * 3 + 2, none⟩ = some (.int .i64 x2) := (HBZ.out.cell (block_lt_of_cell HM2.out)).trans HM2.out
  have HC : Hid (Calls Try.prog 58 #[.slice (some ⟨b, off, none⟩) 4 c, .int .i64 k, .agg #[.int .i64 0, .int .i64 0, .int .i64 0]] w3.drew (NewS w3.drew (xs.set k nul))) := Lib.hid (l8With_any (some ⟨b, off, none⟩) c k xs nul w3.drew ((HR.out.below HBZ.out).more HBZ.out.size) hk4)
  have HRD : Hid (Blk w3.drew w.heap.size 33 #[.int .i64 0, .int .i64 0, .int .i64 0]) := Lib.hid HRR.out
  have HBD : Hid (Below w.heap.size w w3.drew) := Lib.hid (below_then HBZ.out (below_dN w3 1))
  have HLT : Hid (w.heap.size < w3.drew.heap.size) := Lib.hid HRR.out.lt
  clear HRR HBZ
  go_region_with (go_at_call 58; refine HC.out.mono ?_; rintro e v1 ⟨g, cc, rfl, hown, hb⟩; have HO := Lib.hid (own_mono hown HBD.out.size); have HBB := Lib.hid (below_then HBD.out hb); have HRV := Lib.hid (Blk.kept hb HRD.out); have hgg : w.heap.size < g := Nat.lt_of_lt_of_le HLT.out ((hown.lt g rfl).1); have o0 : v1.cell? ⟨b, off + k * 3, none⟩ = some (.int .i64 x0) := (HBB.out.cell (block_lt_of_cell HM0.out)).trans HM0.out; have o1 : v1.cell? ⟨b, off + k * 3 + 1, none⟩ = some (.int .i64 x1) := (HBB.out.cell (block_lt_of_cell HM1.out)).trans HM1.out; have o2 : v1.cell? ⟨b, off + k * 3 + 2, none⟩ = some (.int .i64 x2) := (HBB.out.cell (block_lt_of_cell HM2.out)).trans HM2.out; have z0 : v1.cell? ⟨w.heap.size, 0, none⟩ = some (.int .i64 0) := HRV.out.cell 0 _ rfl; have z1 : v1.cell? ⟨w.heap.size, 1, none⟩ = some (.int .i64 0) := HRV.out.cell 1 _ rfl; have z2 : v1.cell? ⟨w.heap.size, 2, none⟩ = some (.int .i64 0) := HRV.out.cell 2 _ rfl; have zf0 := HRV.out.free 0; have zf1 := HRV.out.free 1; have zf2 := HRV.out.free 2; clear hown hb)
  all_goals
    have hgn : (Value.slice (some ⟨g, 0, none⟩) 4 cc).ownBlock ≠ some w.heap.size := by intro h; injection h with h; exact absurd h (Nat.ne_of_gt hgg)
    have H3 := Lib.hid (((HRV.out.set 0 (.int .i64 x0)).set 1 (.int .i64 x1)).set 2 (.int .i64 x2))
    have HO3 := Lib.hid (own_set (own_set (own_set HO.out (j := 0) (.int .i64 x0) hgn) (j := 1) (.int .i64 x1) hgn) (j := 2) (.int .i64 x2) hgn)
    have HB3 := Lib.hid (below_set (below_set (below_set HBB.out (Nat.le_refl _) (j := 0) (.int .i64 x0)) (Nat.le_refl _) (j := 1) (.int .i64 x1)) (Nat.le_refl _) (j := 2) (.int .i64 x2))
    clear n0 n1 n2 o0 o1 o2 z0 z1 z2 zf0 zf1 zf2 hgn HRV HO HBB
    revert H3 HO3 HB3
    generalize (World.setCell (World.setCell (World.setCell v1 _ _) _ _) _ _) = wy
    intro H3 HO3 HB3
    have y0 : wy.cell? ⟨w.heap.size, 0, none⟩ = some (.int .i64 x0) := H3.out.cell 0 _ rfl
    have y1 : wy.cell? ⟨w.heap.size, 1, none⟩ = some (.int .i64 x1) := H3.out.cell 1 _ rfl
    have y2 : wy.cell? ⟨w.heap.size, 2, none⟩ = some (.int .i64 x2) := H3.out.cell 2 _ rfl
    go_wp2_with fail
    exact bodyPost_ret (v := .tuple #[.slice (some ⟨g, 0, none⟩) 4 cc, .agg #[.int .i64 x0, .int .i64 x1, .int .i64 x2], .bool true]) (by simp [results, Try.results20, go_sem, y0, y1, y2]) rfl (evPost_4 (x := ⟨x0, x1, x2⟩) (HLEN.out _) HO3.out HB3.out)
end Go.Proofs.Ytadpjkghfgnbbaa.L8

namespace Go.Proofs.Ytadpjkghfgnbbaa.L8
open Go Go.RowKit Go.Proofs.Ytadpjkghfgnbbaa.Mem Go.Proofs.Ytadpjkghfgnbbaa.Own
def AcPost (w : World) (r : List Int × Bool) (e : Ending) (w' : World) : Prop :=
  ∃ A' c', e = .returned (.tuple #[.slice A' r.1.length c', .bool r.2]) ∧ w'.ownsRow w.heap.size 3 1 (.slice A' r.1.length c') r.1.length (I r.1) ∧ Below w.heap.size w w'
theorem acPost_no {w w' : World} (hb : Below w.heap.size w w') : AcPost w ([], false) (.returned (.tuple #[.slice none 0 0, .bool false])) w' := ⟨none, 0, rfl, World.ownsRow_nil _ _ _ _, hb⟩
theorem acPost_of {w w' : World} {l : List Int} {A : Option Addr} {n cc : Nat} {d : Bool} (hl : l.length = n) (ho : w'.ownsRow w.heap.size 3 1 (.slice A n cc) n (I l)) (hb : Below w.heap.size w w') : AcPost w (l, d) (.returned (.tuple #[.slice A n cc, .bool d])) w' := by
  subst hl
  exact ⟨_, cc, rfl, ho, hb⟩
theorem snocI (l : List Int) (z : Int) : I l ++ [.int .i64 z] = I (l ++ [z]) := by simp [I]
end Go.Proofs.Ytadpjkghfgnbbaa.L8

namespace Go.Proofs.Ytadpjkghfgnbbaa.L8
open Go Go.RowKit Go.Proofs.Ytadpjkghfgnbbaa.Mem Go.Proofs.Ytadpjkghfgnbbaa.Own Go.Proofs.Ytadpjkghfgnbbaa.L6 Go.Sort Go.Lib
theorem holdsI {w : World} {base g n cc : Nat} {zs : List Int} (h : w.ownsRow base 3 1 (.slice (some ⟨g, 0, none⟩) n cc) n (I zs)) : Holds (Value.int .i64) w g 0 zs.toArray := holds_of_own (enc := Value.int .i64) h
theorem sortI_some (g n cc base : Nat) (zs : List Int) (w : World) (hown : w.ownsRow base 3 1 (.slice (some ⟨g, 0, none⟩) n cc) n (I zs)) (hn : n ≤ 1048576) :
    Calls Try.prog 62 #[.slice (some ⟨g, 0, none⟩) n cc] w fun e w' => e = .returned (.tuple #[]) ∧ w'.ownsRow base 3 1 (.slice (some ⟨g, 0, none⟩) n cc) n (I (zs.mergeSort leZ)) ∧ w.grownBy w' (some g) := by
  have hlen : zs.length = n := by have := hown.1; rw [I_len] at this; omega
  have hH := holdsI hown
  have hg := hown.lt g rfl
  have hcon := Go.Proofs.AnyG.slices_Sort_int (P := Try.prog) (ρ := soLays_ren) soLays g 0 cc zs w hH hg.2 (by omega)
  rw [hlen] at hcon
  refine hcon.mono ?_
  rintro e w' ⟨rfl, q, os, rfl⟩
  have h1 := own_sorted (enc := Value.int .i64) hown zs.toArray hH (by simpa using hlen) (zs.mergeSort fun x y => decide (x ≤ y)) (by rw [List.length_mergeSort, hlen]) q os
  exact ⟨rfl, h1⟩
theorem sortI_none (p : Option Addr) (cap : Nat) (w : World) : Calls Try.prog 62 #[.slice p 0 cap] w fun e w' => e = .returned (.tuple #[]) ∧ w' = w :=
  Go.Proofs.AnyG.slices_Sort_int_none (P := Try.prog) (ρ := soLays_ren) soLays p cap w
set_option maxRecDepth 100000 in
set_option maxHeartbeats 1600000 in
theorem implActive_any (A : Option Addr) (n c : Nat) (xs : List Slt) (w : World) (hr : Reads w w.heap.size 3 A n (FL xs)) (hc : n ≤ c) :
    Calls Try.prog 26 #[.slice A n c] w (AcPost w (acAns xs)) := by
  obtain ⟨i0, hi, hz0, hz1, hz2⟩ := info_parts intInfo
  have HR := Lib.hid hr
  obtain ⟨b, hb⟩ : ∃ b, okB xs = b := ⟨_, rfl⟩
  have HG := Lib.hid hb
  have HI := Lib.hid (fun w hr => implAre_any A n c _ xs w hr (Nat.le_refl _) hc b HG.out)
  clear hr hb
  cases b
  · have HZ : Hid (acAns xs = ([], false)) := Lib.hid (by unfold acAns; rw [if_neg (by rw [HG.out]; simp)])
    rw [HZ.out]
    clear HZ
    go_enter Try.func26, Try.ntmps26
    go_wp2_with fail
    refine (HI.out _ HR.out).mono ?_
    rintro e w1 ⟨rfl, hb1⟩
    have HB1 := Lib.hid hb1
    clear hb1
    go_wp2_with fail
    go_ret2
    exact acPost_no HB1.out
  have HZ : Hid (acAns xs = (act xs 4, true)) := Lib.hid (by unfold acAns; rw [if_pos HG.out])
  rw [HZ.out]
  clear HZ
  have hl : xs.length = 4 := okB_len HG.out
  have h4 : n = 4 := by have h1 : xs.length = n := reads_len HR.out; omega
  subst h4
  clear hl
  go_enter Try.func26, Try.ntmps26
  go_wp2_with fail
  refine (HI.out _ HR.out).mono ?_
  rintro e w1 ⟨rfl, hb1⟩
  have HB1 := Lib.hid hb1
  clear hb1
  go_wp2_with fail
  go_loopw [4, 12] (fun u4 i wr => ∃ (k : Nat), i = .int .i64 k ∧ k ≤ 4 ∧ Hid (wr.ownsRow w.heap.size 3 1 u4 (acs xs k).length (I (acs xs k))) ∧ Hid (Below w.heap.size w wr)) (fun _ i _ => 4 - (intOf i).toNat)
  case atStart => exact ⟨0, rfl, Nat.zero_le _, Lib.hid (World.ownsRow_nil _ _ _ _), HB1⟩
  case round =>
    obtain ⟨k, rfl, hk, HO, HB⟩ := hrel
    by_cases hlt : k < 4
    · obtain ⟨b1, o1, x, rfl, hbB, hu, c0, c1, c2⟩ := slt_at ((HR.out.below HB.out).more HB.out.size) hlt
      have HCS := Lib.hid (acs_succ hu)
      have HST := Lib.hid (st_of (okB_ok HG.out hu))
      clear hu
      obtain ⟨q, hq⟩ : ∃ q, isAc x = q := ⟨_, rfl⟩
      rw [hq] at HCS
      have HQ := Lib.hid hq
      clear hq
      obtain ⟨x0, x1, x2⟩ := x
      simp only at c0 c1 c2 HCS HST
      obtain ⟨wx, hwx⟩ : ∃ wx, wr.alloc (.cells #[.int .i64 x0, .int .i64 x1, .int .i64 x2] 33) = wx := ⟨_, rfl⟩
      have hbx : Below wr.heap.size wr wx := by rw [← hwx]; exact below_more (Below.refl _ _) _
      have HXB : Hid (Blk wx wr.heap.size 33 #[.int .i64 x0, .int .i64 x1, .int .i64 x2]) := Lib.hid (by rw [← hwx]; exact Blk.new _ _ _)
      have d0 : wx.cell? ⟨wr.heap.size, 0, none⟩ = some (.int .i64 x0) := HXB.out.cell 0 _ rfl
      have d1 : wx.cell? ⟨wr.heap.size, 1, none⟩ = some (.int .i64 x1) := HXB.out.cell 1 _ rfl
      have d2 : wx.cell? ⟨wr.heap.size, 2, none⟩ = some (.int .i64 x2) := HXB.out.cell 2 _ rfl
      have HB3 := Lib.hid (below_then HB.out hbx)
      have HO3 := Lib.hid (own_below HO.out hbx)
      have HWX := Lib.hid hwx
      have hlen := acs_len xs k
      obtain ⟨m, hm⟩ : ∃ m, (acs xs k).length = m := ⟨_, rfl⟩
      rw [hm] at hlen HO3
      have HM := Lib.hid hm
      clear hwx hbx HO HB hm
      go_upto_region 7 with fail
      rw [HWX.out]
      clear HWX c0 c1 c2
      go_wp2_with fail
      refine (isActive_c x0 x1 x2 HST.out q HQ.out _).mono ?_
      rintro e w3 ⟨rfl, hb3⟩
      have e1 : w3.cell? ⟨wr.heap.size, 1, none⟩ = some (.int .i64 x1) := (Blk.kept hb3 HXB.out).cell 1 _ rfl
      have HB4 := Lib.hid (below_then HB3.out hb3)
      have HO4 := Lib.hid (own_below HO3.out hb3)
      clear hb3 HB3 HO3 d0 d1 d2 HXB
      cases q with
      | true =>
        have HN : Hid (acs xs (k + 1) = acs xs k ++ [x1]) := Lib.hid (by rw [HCS.out]; rfl)
        have hown := HO4.out
        have hbel := HB4.out
        have hsz := hbel.size
        clear HCS
        go_wp2_with (at_builtin; refine wpList_append_own _ rfl _ _ 39 rfl w.heap.size 3 i0 (.int .i64 0) 1 8 Try.underlying39 hi hz0 hz1 hz2 rfl (by decide) _ _ _ rfl (hown.alloc _) ⟨w3.heap.size, 0, none⟩ 1 1 [.int .i64 x1] rfl rfl (cell_one_new _ _ _) (fun x hx => by simp at hx; subst hx; rfl) (by unfold maxLen; omega) (by omega) (by simp; omega) ?_; intro v' w4 hown1 hgrow1 _)
        have HB5 := Lib.hid ((hbel.alloc hsz (.cells #[.int .i64 x1] 3)).grown hgrow1 (by simp; omega) (fun q hq => (hown.lt q hq).1))
        have HO5 : Hid (w4.ownsRow w.heap.size 3 1 v' (acs xs (k + 1)).length (I (acs xs (k + 1)))) := Lib.hid (by rw [HN.out, List.length_append, HM.out, ← snocI]; exact hown1)
        clear hown hbel hsz hown1 hgrow1 e1
        go_roundw
        case rel => exact ⟨k + 1, by go_num, by omega, HO5, HB5⟩
        case measure => simp [intOf]; omega
      | false =>
        have HO5 : Hid (w3.ownsRow w.heap.size 3 1 u4 (acs xs (k + 1)).length (I (acs xs (k + 1)))) := Lib.hid (by rw [HCS.out]; simpa [HM.out] using HO4.out)
        clear HCS
        go_wp2_with fail
        go_roundw
        case rel => exact ⟨k + 1, by go_num, by omega, HO5, HB4⟩
        case measure => simp [intOf]; omega
    · have hkn : k = 4 := by omega
      subst hkn
      have hown := HO.out
      have hml := acs_len xs 4
      obtain ⟨m, hm⟩ : ∃ m, (acs xs 4).length = m := ⟨_, rfl⟩
      rw [hm] at hown hml
      obtain ⟨A', c', rfl, _, _⟩ := own_form hown
      have HO' := Lib.hid hown
      have HAL : Hid ((act xs 4).length = m) := Lib.hid (by rw [act_len, hm])
      have HM := Lib.hid hm
      clear HO hown hm
      by_cases h0 : m = 0
      · subst h0
        have HNIL : Hid (act xs 4 = []) := Lib.hid (List.length_eq_zero_iff.1 HAL.out)
        go_wp2_with (go_at_call 62; (with_reducible refine (sortI_none A' c' _).mono ?_); rintro e w5 ⟨rfl, rfl⟩)
        go_ret2
        rw [HNIL.out]
        exact acPost_of rfl (by have h := HO'.out; rw [show acs xs 4 = [] from List.length_eq_zero_iff.1 HM.out] at h; exact h) HB.out
      · obtain ⟨g, rfl⟩ := own_head HO'.out (by omega)
        go_wp2_with (go_at_call 62; (with_reducible refine (sortI_some g m c' w.heap.size (acs xs 4) _ HO'.out (by omega)).mono ?_); rintro e w5 ⟨rfl, hown5, hgrow5⟩)
        have HO5 := Lib.hid hown5
        have HB5 := Lib.hid (HB.out.grown hgrow5 HB.out.size (fun q hq => by injection hq with hq; subst hq; exact (HO'.out.lt g rfl).1))
        clear hown5 hgrow5
        go_wp2_with fail
        go_ret2
        exact acPost_of HAL.out HO5.out HB5.out
end Go.Proofs.Ytadpjkghfgnbbaa.L8

namespace Go.Proofs.Ytadpjkghfgnbbaa.L8
open Go Go.RowKit Go.Proofs.Ytadpjkghfgnbbaa.Mem Go.Proofs.Ytadpjkghfgnbbaa.Own Go.Proofs.Ytadpjkghfgnbbaa.L6 Go.Proofs.Ytadpjkghfgnbbaa.L1 Go.Proofs.Ytadpjkghfgnbbaa.L3
theorem act_zero (xs : List Slt) : act xs 0 = [] := by simp [act, acs]
set_option maxRecDepth 100000 in
set_option maxHeartbeats 1600000 in
theorem l8Active_any (A : Option Addr) (c : Nat) (xs : List Slt) (w : World) (hr : Reads w w.heap.size 3 A 4 (FL xs)) (ho : okB xs = true) :
    Calls Try.prog 46 #[.slice A 4 c] w fun e w' => ∃ A' c', e = .returned (.slice A' (act xs 4).length c') ∧ w'.ownsRow w.heap.size 3 1 (.slice A' (act xs 4).length c') (act xs 4).length (I (act xs 4)) ∧ Below w.heap.size w w' := by
  have HR := Lib.hid hr
  have HG := Lib.hid ho
  clear hr ho
  obtain ⟨wb, hwb⟩ : ∃ wb, w.alloc (.cells #[] 3) = wb := ⟨_, rfl⟩
  have HB0 : Hid (Below w.heap.size w wb) := Lib.hid (by rw [← hwb]; exact below_more (Below.refl _ _) _)
  have HO0 : Hid (wb.ownsRow w.heap.size 3 1 (.slice (some ⟨w.heap.size, 0, none⟩) 0 0) 0 (I (act xs 0))) := Lib.hid (by rw [← hwb, act_zero]; exact World.ownsRow_made w #[] 0 (Nat.le_refl _) (Nat.zero_le _) rfl)
  have HWB := Lib.hid hwb
  clear hwb
  go_enter Try.func46, Try.ntmps46
  go_upto_region 2 with fail
  rw [HWB.out]
  clear HWB
  go_wp2_with fail
  go_loopw [3, 4] (fun u3 u4 wr => ∃ (k go m c' : Nat), u4 = .int .i64 k ∧ k ≤ 4 ∧ u3 = .slice (some ⟨go, 0, none⟩) m c' ∧ Hid ((act xs k).length = m) ∧ Hid (wr.ownsRow w.heap.size 3 1 (.slice (some ⟨go, 0, none⟩) m c') m (I (act xs k))) ∧ Hid (Below w.heap.size w wr)) (fun _ u4 _ => 4 - (intOf u4).toNat)
  case atStart => exact ⟨0, w.heap.size, 0, 0, rfl, Nat.zero_le _, rfl, Lib.hid (by rw [act_zero]; rfl), HO0, HB0⟩
  case round =>
    obtain ⟨k, go, m, c', rfl, hk, rfl, HM, HO, HB⟩ := hrel
    have hm4 : m ≤ 4 := by have h1 := acs_len xs k; rw [← act_len, HM.out] at h1; omega
    by_cases hlt : k < 4
    · obtain ⟨b1, o1, x, rfl, hbB, hu, c0, c1, c2⟩ := slt_at ((HR.out.below HB.out).more HB.out.size) hlt
      have HCS := Lib.hid (acs_succ hu)
      have HU := Lib.hid hu
      have hst := st_of (okB_ok HG.out hu)
      clear hu c2
      obtain ⟨x0, x1, x2⟩ := x
      simp only at c0 c1 HCS hst
      rcases hst with rfl | rfl | rfl | rfl
      · have HN : Hid (acs xs (k + 1) = acs xs k) := Lib.hid (by rw [HCS.out]; exact List.append_nil _)
        have HA : Hid (act xs (k + 1) = act xs k) := Lib.hid (by unfold act; rw [HN.out])
        clear HCS c1
        go_wp2_with fail
        go_roundw
        case rel => exact ⟨k + 1, go, m, c', by go_num, by omega, rfl, Lib.hid (by rw [HA.out]; exact HM.out), Lib.hid (by rw [HA.out]; exact HO.out), HB⟩
        case measure => simp [intOf]; omega
      · have HN : Hid (acs xs (k + 1) = acs xs k) := Lib.hid (by rw [HCS.out]; exact List.append_nil _)
        have HA : Hid (act xs (k + 1) = act xs k) := Lib.hid (by unfold act; rw [HN.out])
        clear HCS c1
        go_wp2_with fail
        go_roundw
        case rel => exact ⟨k + 1, go, m, c', by go_num, by omega, rfl, Lib.hid (by rw [HA.out]; exact HM.out), Lib.hid (by rw [HA.out]; exact HO.out), HB⟩
        case measure => simp [intOf]; omega
      · have hu := HU.out
        obtain ⟨j, hj, hj1, hj2⟩ := act_spot xs k x1 (acs_no HG.out hu rfl)
        have HPUT := Lib.hid (act_put hu rfl hj hj1 hj2)
        rw [HM.out] at hj
        have HL2 : Hid ((act xs (k + 1)).length = m + 1) := Lib.hid (by rw [act_len, HCS.out, List.length_append, ← act_len, HM.out]; rfl)
        have HPC := Lib.hid (l1Put_at go m c' w.heap.size j (act xs k) x1 wr HO.out (by omega) hj hj1 hj2)
        clear HCS hj hj1 hj2 hu
        go_wp2_with fail
        refine HPC.out.mono ?_
        rintro e w3 ⟨g, c2, rfl, hown, hb⟩
        rw [HPUT.out] at hown
        have HO3 := Lib.hid (own_mono hown HB.out.size)
        have HB3 := Lib.hid (below_then HB.out hb)
        clear hown hb HPUT c0 c1 HPC
        go_wp2_with fail
        go_roundw
        case rel => exact ⟨k + 1, g, m + 1, c2, by go_num, by omega, rfl, HL2, HO3, HB3⟩
        case measure => simp [intOf]; omega
      · have hu := HU.out
        obtain ⟨j, hj, hj1, hj2⟩ := act_spot xs k x1 (acs_no HG.out hu rfl)
        have HPUT := Lib.hid (act_put hu rfl hj hj1 hj2)
        rw [HM.out] at hj
        have HL2 : Hid ((act xs (k + 1)).length = m + 1) := Lib.hid (by rw [act_len, HCS.out, List.length_append, ← act_len, HM.out]; rfl)
        have HPC := Lib.hid (l1Put_at go m c' w.heap.size j (act xs k) x1 wr HO.out (by omega) hj hj1 hj2)
        clear HCS hj hj1 hj2 hu
        go_wp2_with fail
        refine HPC.out.mono ?_
        rintro e w3 ⟨g, c2, rfl, hown, hb⟩
        rw [HPUT.out] at hown
        have HO3 := Lib.hid (own_mono hown HB.out.size)
        have HB3 := Lib.hid (below_then HB.out hb)
        clear hown hb HPUT c0 c1 HPC
        go_wp2_with fail
        go_roundw
        case rel => exact ⟨k + 1, g, m + 1, c2, by go_num, by omega, rfl, HL2, HO3, HB3⟩
        case measure => simp [intOf]; omega
    · have hkn : k = 4 := by omega
      subst hkn
      have HE := Lib.hid HM.out.symm
      go_wp2_with fail
      go_ret
      have hm := HM.out
      subst hm
      exact ⟨some ⟨go, 0, none⟩, c', rfl, HO.out, HB.out⟩
set_option maxRecDepth 100000 in
set_option maxHeartbeats 1600000 in
theorem specActive_any (A : Option Addr) (n c : Nat) (xs : List Slt) (w : World) (hr : Reads w w.heap.size 3 A n (FL xs)) (hn : n ≤ 1048576) :
    Calls Try.prog 27 #[.slice A n c] w (AcPost w (acAns xs)) := by
  have HR := Lib.hid hr
  obtain ⟨b, hb⟩ : ∃ b, okB xs = b := ⟨_, rfl⟩
  have HG := Lib.hid hb
  have HI := Lib.hid (fun w hr => l8Good_any A n c _ xs w hr (Nat.le_refl _) hn b HG.out)
  clear hr hb
  cases b
  · have HZ : Hid (acAns xs = ([], false)) := Lib.hid (by unfold acAns; rw [if_neg (by rw [HG.out]; simp)])
    rw [HZ.out]
    clear HZ
    go_enter Try.func27, Try.ntmps27
    go_wp2_with fail
    refine (HI.out _ HR.out).mono ?_
    rintro e w1 ⟨rfl, hb1⟩
    have HB1 := Lib.hid hb1
    clear hb1
    go_wp2_with fail
    go_ret2
    exact acPost_of (l := []) rfl (World.ownsRow_made w1 #[] 0 HB1.out.size (Nat.zero_le _) rfl) (below_more HB1.out _)
  have HZ : Hid (acAns xs = (act xs 4, true)) := Lib.hid (by unfold acAns; rw [if_pos HG.out])
  rw [HZ.out]
  clear HZ
  have h4 : n = 4 := by have h1 : xs.length = n := reads_len HR.out; have h2 := okB_len HG.out; omega
  subst h4
  go_enter Try.func27, Try.ntmps27
  go_wp2_with fail
  refine (HI.out _ HR.out).mono ?_
  rintro e w1 ⟨rfl, hb1⟩
  have HB1 := Lib.hid hb1
  clear hb1
  go_wp2_with fail
  refine (l8Active_any A c xs _ ((HR.out.below HB1.out).more HB1.out.size) HG.out).mono ?_
  rintro e w2 ⟨A', c', rfl, hown, hb⟩
  have HO := Lib.hid (own_mono hown HB1.out.size)
  have HB := Lib.hid (below_then HB1.out hb)
  clear hown hb
  obtain ⟨l, hl⟩ : ∃ l, act xs 4 = l := ⟨_, rfl⟩
  rw [hl] at HO
  rw [hl]
  have HLL := Lib.hid hl
  clear hl
  obtain ⟨m, hm⟩ : ∃ m, l.length = m := ⟨_, rfl⟩
  rw [hm] at HO
  rw [hm]
  have HMM := Lib.hid hm
  clear hm
  go_wp2_with fail
  go_ret2
  rw [HLL.out]
  exact acPost_of HMM.out HO.out HB.out
end Go.Proofs.Ytadpjkghfgnbbaa.L8

namespace Go.Proofs.Ytadpjkghfgnbbaa.L8
open Go Go.RowKit Go.Proofs.Ytadpjkghfgnbbaa.Mem Go.Proofs.Ytadpjkghfgnbbaa.Own Go.Proofs.Ytadpjkghfgnbbaa.L6 Go.Proofs.Ytadpjkghfgnbbaa.L1
set_option maxRecDepth 100000 in
set_option maxHeartbeats 1600000 in
theorem specAre_any (A : Option Addr) (n c B : Nat) (xs : List Slt) (w : World) (hr : Reads w B 3 A n (FL xs)) (hB : B ≤ w.heap.size) (hn : n ≤ 1048576) (b : Bool) (h : okB xs = b) :
    Calls Try.prog 32 #[.slice A n c] w fun e w' => e = .returned (.bool b) ∧ Below w.heap.size w w' := by
  have HR := Lib.hid hr
  clear hr
  go_enter Try.func32, Try.ntmps32
  go_wp2_with fail
  refine (l8Good_any A n c B xs _ HR.out hB hn b h).mono ?_
  rintro e w1 ⟨rfl, hb⟩
  go_wp2_with fail
  go_ret
  exact ⟨rfl, hb⟩
set_option maxRecDepth 100000 in
set_option maxHeartbeats 1600000 in
theorem specFind_any (A : Option Addr) (n c : Nat) (xs : List Slt) (q : Int) (w : World) (hr : Reads w w.heap.size 3 A n (FL xs)) (hn : n ≤ 1048576) (z : Int) (d : Bool) (h : fdAns xs q = (z, d)) :
    Calls Try.prog 30 #[.slice A n c, .int .i64 q] w fun e w' => e = .returned (.tuple #[.int .i64 z, .bool d]) ∧ Below w.heap.size w w' := by
  have HR := Lib.hid hr
  obtain ⟨b, hb⟩ : ∃ b, okB xs = b := ⟨_, rfl⟩
  have HG := Lib.hid hb
  have HI := Lib.hid (fun w hr => l8Good_any A n c _ xs w hr (Nat.le_refl _) hn b HG.out)
  clear hr hb
  have HZ := Lib.hid h
  clear h
  cases b
  · have h := HZ.out
    unfold fdAns at h
    rw [if_neg (by rw [HG.out]; simp)] at h
    obtain ⟨e1, e2⟩ := Prod.mk.inj h; subst e1 e2
    clear HZ
    go_enter Try.func30, Try.ntmps30
    go_wp2_with fail
    refine (HI.out _ HR.out).mono ?_
    rintro e w1 ⟨rfl, hb1⟩
    have HB1 := Lib.hid hb1
    clear hb1
    go_wp2_with fail
    go_ret2
    exact ⟨rfl, HB1.out⟩
  obtain ⟨b1, hb1⟩ : ∃ b, decide (0 ≤ q ∧ q < 8) = b := ⟨_, rfl⟩
  have H1 := Lib.hid hb1
  clear hb1
  have h := HZ.out
  unfold fdAns at h
  obtain ⟨f, hf⟩ : ∃ f, fnd xs q = f := ⟨_, rfl⟩
  have hlo : -1 ≤ f := by rw [← hf]; exact ixOf_lo _ _
  rw [hf] at h
  have HF := Lib.hid hf
  clear HZ hf
  cases b1
  · have hf1 : f = -1 := by rw [← HF.out]; exact fnd_out HG.out (of_decide_eq_false H1.out)
    subst hf1
    rw [if_neg (fun hh => absurd hh.2 (by decide))] at h
    obtain ⟨e1, e2⟩ := Prod.mk.inj h; subst e1 e2
    clear h hlo
    go_enter Try.func30, Try.ntmps30
    go_wp2_with fail
    refine (HI.out _ HR.out).mono ?_
    rintro e w1 ⟨rfl, hb1⟩
    have HB1 := Lib.hid hb1
    clear hb1
    go_wp2_with fail
    refine (l6Irq_any _ _ H1.out _).mono ?_
    rintro e w2 ⟨rfl, rfl⟩
    go_wp2_with fail
    go_ret2
    exact ⟨rfl, HB1.out⟩
  · by_cases h0 : 0 ≤ f
    · rw [if_pos ⟨HG.out, h0⟩] at h
      obtain ⟨e1, e2⟩ := Prod.mk.inj h; subst e1 e2
      have t0 : decide (f < 0) = false := decide_eq_false (by omega)
      clear h hlo
      go_enter Try.func30, Try.ntmps30
      go_wp2_with fail
      refine (HI.out _ HR.out).mono ?_
      rintro e w1 ⟨rfl, hb1⟩
      have HB1 := Lib.hid hb1
      clear hb1
      go_wp2_with fail
      refine (l6Irq_any _ _ H1.out _).mono ?_
      rintro e w2 ⟨rfl, rfl⟩
      go_wp2_with fail
      refine (l8Find_any A n c _ q xs _ (HR.out.below HB1.out) hn).mono ?_
      rintro e w2 ⟨rfl, rfl⟩
      rw [HF.out]
      go_wp2_with fail
      refine (l8Find_any A n c _ q xs _ (HR.out.below HB1.out) hn).mono ?_
      rintro e w2 ⟨rfl, rfl⟩
      rw [HF.out]
      go_wp2_with fail
      go_ret2
      exact ⟨rfl, HB1.out⟩
    · rw [if_neg (fun hh => h0 hh.2)] at h
      obtain ⟨e1, e2⟩ := Prod.mk.inj h; subst e1 e2
      have hf1 : f = -1 := by omega
      subst hf1
      clear h h0 hlo
      go_enter Try.func30, Try.ntmps30
      go_wp2_with fail
      refine (HI.out _ HR.out).mono ?_
      rintro e w1 ⟨rfl, hb1⟩
      have HB1 := Lib.hid hb1
      clear hb1
      go_wp2_with fail
      refine (l6Irq_any _ _ H1.out _).mono ?_
      rintro e w2 ⟨rfl, rfl⟩
      go_wp2_with fail
      refine (l8Find_any A n c _ q xs _ (HR.out.below HB1.out) hn).mono ?_
      rintro e w2 ⟨rfl, rfl⟩
      rw [HF.out]
      go_wp2_with fail
      go_ret2
      exact ⟨rfl, HB1.out⟩
set_option maxRecDepth 100000 in
set_option maxHeartbeats 1600000 in
theorem specEmpty_any (A : Option Addr) (n c : Nat) (xs : List Slt) (w : World) (hr : Reads w w.heap.size 3 A n (FL xs)) (hn : n ≤ 1048576) (z : Int) (d : Bool) (h : emAns xs = (z, d)) :
    Calls Try.prog 24 #[.slice A n c] w fun e w' => e = .returned (.tuple #[.int .i64 z, .bool d]) ∧ Below w.heap.size w w' := by
  have HR := Lib.hid hr
  obtain ⟨b, hb⟩ : ∃ b, okB xs = b := ⟨_, rfl⟩
  have HG := Lib.hid hb
  have HI := Lib.hid (fun w hr => l8Good_any A n c _ xs w hr (Nat.le_refl _) hn b HG.out)
  clear hr hb
  have HZ := Lib.hid h
  clear h
  cases b
  · have h := HZ.out
    unfold emAns at h
    rw [if_neg (by rw [HG.out]; simp)] at h
    obtain ⟨e1, e2⟩ := Prod.mk.inj h; subst e1 e2
    clear HZ
    go_enter Try.func24, Try.ntmps24
    go_wp2_with fail
    refine (HI.out _ HR.out).mono ?_
    rintro e w1 ⟨rfl, hb1⟩
    have HB1 := Lib.hid hb1
    clear hb1
    go_wp2_with fail
    go_ret2
    exact ⟨rfl, HB1.out⟩
  have hl : xs.length = 4 := okB_len HG.out
  have h4 : n = 4 := by have h1 : xs.length = n := reads_len HR.out; omega
  subst h4
  have HL : Hid (xs.length = 4) := Lib.hid hl
  have h := HZ.out
  unfold emAns at h
  rw [if_pos HG.out] at h
  have HE : Hid ((emp xs : Int) = z) := Lib.hid (congrArg Prod.fst h)
  have hd : d = true := (congrArg Prod.snd h).symm
  subst hd
  clear h HZ hl
  go_enter Try.func24, Try.ntmps24
  go_wp2_with fail
  refine (HI.out _ HR.out).mono ?_
  rintro e w1 ⟨rfl, hb1⟩
  have HB1 := Lib.hid hb1
  clear hb1
  have HRR := Lib.hid (HR.out.below HB1.out)
  go_wp2_with fail
  go_loop [4, 5] (fun u4 u5 => ∃ (k m : Nat), u5 = .int .i64 k ∧ k ≤ 4 ∧ u4 = .int .i64 m ∧ m ≤ k ∧ Hid (emp (xs.take k) = m)) (fun _ u5 => 4 - (intOf u5).toNat)
  case atStart => exact ⟨0, 0, rfl, Nat.zero_le _, rfl, Nat.le_refl _, Lib.hid (by simp [emp])⟩
  case round =>
    obtain ⟨k, m, rfl, hk, rfl, hm, HM⟩ := hrel
    by_cases hlt : k < 4
    · obtain ⟨b1, o1, x, rfl, _, hx, c0, c1, c2⟩ := slt_at HRR.out hlt
      have HT := Lib.hid (emp_take hx)
      clear hx c1 c2
      obtain ⟨x0, x1, x2⟩ := x
      simp only at c0 HT
      by_cases h0 : x0 = 0
      · have HM2 : Hid (emp (xs.take (k + 1)) = m + 1) := Lib.hid (by rw [HT.out, HM.out, if_pos h0])
        subst h0
        clear HT HM
        go_wp2_with fail
        go_round
        case rel => exact ⟨k + 1, m + 1, by go_num, by omega, by go_num, by omega, HM2⟩
        case measure => simp [intOf]; omega
      · have HM2 : Hid (emp (xs.take (k + 1)) = m) := Lib.hid (by rw [HT.out, HM.out, if_neg h0, Nat.add_zero])
        have t0 : (x0 == 0) = false := by simpa using h0
        clear HT HM h0
        go_wp2_with fail
        go_round
        case rel => exact ⟨k + 1, m, by go_num, by omega, rfl, by omega, HM2⟩
        case measure => simp [intOf]; omega
    · have hkn : k = 4 := by omega
      subst hkn
      have HM2 : Hid ((m : Int) = z) := Lib.hid (by
        have h := HM.out
        rw [List.take_of_length_le (by rw [HL.out]; exact Nat.le_refl _)] at h
        rw [← HE.out, h])
      clear HM HE
      go_wp2_with fail
      go_ret2
      exact ⟨by rw [← HM2.out]; rfl, HB1.out⟩
end Go.Proofs.Ytadpjkghfgnbbaa.L8

namespace Go.Proofs.Ytadpjkghfgnbbaa.fnSlotEnds
open Go.ChangeShapes Go.WideShapes Go.ChangeAt Go.RowKit
open Go.ChangeMaps (open_string shut_string)
open Go Go.Proofs.Ytadpjkghfgnbbaa.L8 Go.Proofs.Ytadpjkghfgnbbaa.Mem Go.Proofs.Ytadpjkghfgnbbaa.Own Go.Proofs.Ytadpjkghfgnbbaa.Draw Go.BigFrame
set_option linter.unusedVariables false
theorem own : ownKnob Try.prog.godebug = none := by kernel_rfl
theorem laidOut : laidOutB Try.prog = true := by kernel_rfl
theorem pass {w w1 w2 : World} (h : Below w.heap.size w w1) (k : Below w1.heap.size w1 w2) : Below w.heap.size w w2 := h.trans (k.mono h.size)
theorem own_lec {w : World} {b s n c : Nat} {e : TypeId} {A : Option Addr} {xs : List Value} (h : w.ownsRow b e s (.slice A n c) n xs) : n ≤ c := by
  obtain ⟨_, _, e1, h3, _⟩ := own_form h
  simp only [Value.slice.injEq] at e1
  omega
/-- what it says that an active interrupt could be ended -/
theorem end_known {xs : List Slt} {q : Int} {l : List Slt} (h : endAns xs q = (l, true)) : okB xs = true ∧ l.length = 4 ∧ ∃ (k : Nat) (y z : Slt), k < 4 ∧ fdAns xs q = ((k : Int), true) ∧ xs[k]? = some y ∧ l[k]? = some z ∧ ((y.st = 2 ∧ z.st = 0) ∨ (y.st = 3 ∧ z.st = 1)) := by
  unfold endAns at h
  split at h
  · rename_i hh
    have hl := okB_len hh.1
    refine ⟨hh.1, ?_⟩
    rcases ixOf_cases (has q) xs with ⟨hf, _⟩ | ⟨k, x, hf, hk, hx, hp, _⟩
    · rw [endOf_no hf] at h
      cases (Prod.mk.inj h).2
    · have hfd : fdAns xs q = ((k : Int), true) := by
        unfold fdAns
        rw [show fnd xs q = k from hf, if_pos ⟨hh.1, by omega⟩]
      have h0 := (has_st hp).1
      have hst := st_of (okB_ok hh.1 hx)
      by_cases h1 : x.st = 1
      · rw [endOf_1 hf hx h1] at h
        cases (Prod.mk.inj h).2
      · by_cases h2 : x.st = 2
        · rw [endOf_2 hf hx h2] at h
          rw [← (Prod.mk.inj h).1]
          exact ⟨by rw [List.length_set]; exact hl, k, x, nul, by omega, hfd, hx, List.getElem?_set_self hk, .inl ⟨h2, rfl⟩⟩
        · rw [endOf_3 hf hx h1 h2] at h
          rw [← (Prod.mk.inj h).1]
          exact ⟨by rw [List.length_set]; exact hl, k, x, _, by omega, hfd, hx, List.getElem?_set_self hk, .inr ⟨by omega, rfl⟩⟩
  · cases (Prod.mk.inj h).2
theorem ev_known {xs : List Slt} {l : List Slt} {y : Slt} (h : evAns xs = (l, y, true)) : okB xs = true ∧ ∃ k : Nat, xs[k]? = some y ∧ y.st = 1 ∧ l = xs.set k nul ∧ ∀ (j : Nat) (z : Slt), xs[j]? = some z → z.st = 1 → ¬ (y.pr < z.pr ∨ (y.pr = z.pr ∧ y.iq < z.iq)) := by
  unfold evAns at h
  split at h
  · rename_i hh
    have hl := okB_len hh.1
    refine ⟨hh.1, ?_⟩
    rcases bst_is false xs 4 with ⟨hb, _⟩ | ⟨k, hb, hj⟩
    · exact absurd hh.2 (by rw [hb]; decide)
    · have hx := at_getD (xs := xs) (j := k) (by rw [hl]; exact hj.lt)
      rw [hb, Int.toNat_natCast] at h
      obtain ⟨e1, e2⟩ := Prod.mk.inj h
      obtain ⟨e3, _⟩ := Prod.mk.inj e2
      refine ⟨k, by rw [← e3]; exact hx, by rw [← e3]; exact hj.one, e1.symm, fun j z hz h1 => ?_⟩
      have hjl := (List.getElem?_eq_some_iff.1 hz).1
      have h3 := hj.all j (by omega) (by rw [getD_atS hz]; exact h1)
      rw [getD_atS hz, e3] at h3
      simpa [mr, more] using h3
  · cases (Prod.mk.inj (Prod.mk.inj h).2).2
set_option maxRecDepth 100000 in
set_option maxHeartbeats 4000000 in
theorem walk0 (W : World) (A : Option Addr) (n c : Nat) (zs : List Int) (hz : ∀ z ∈ zs, 0 ≤ z ∧ z ≤ 255) (hr : Reads W W.heap.size 1 A n (zs.map (Value.int .u8))) :
    Calls Try.prog 3 #[.slice A n c] W fun e W' => e = .returned (.bool true) ∧ Below W.heap.size W W' := by
  by_cases h1 : (65536 : Int) < n
  · have hv := vBig_any A n c W
    rw [decide_eq_true h1] at hv
    have HV := Lib.hid hv
    clear hv hr
    go_enter Try.func3, Try.ntmps3
    go_wp2_with fail
    refine HV.out.mono ?_
    rintro e w1 ⟨rfl, rfl⟩
    go_wp2_with fail
    go_ret
    exact ⟨rfl, Below.refl _ _⟩
  have hv := vBig_any A n c W
  rw [decide_eq_false h1] at hv
  have HV := Lib.hid hv
  have hn : n ≤ 1000000 := by omega
  have HR := Lib.hid fun (w : World) (hb : Below W.heap.size W w) => (show Reads w w.heap.size 1 A n (zs.map (Value.int .u8)) from (hr.below hb).more hb.size)
  have HZ := Lib.hid hz
  have HW := Lib.hid (Below.refl W.heap.size W)
  clear hv hr hz h1
  go_enter Try.func3, Try.ntmps3
  go_wp2_with fail
  refine HV.out.mono ?_
  rintro e w0 ⟨rfl, rfl⟩
  clear HV
  go_wp2_with fail
  refine (drawEndSlot_any _ A n c zs HZ.out (HR.out _ HW.out) hn).mono ?_
  rintro e w1 ⟨gl, m, cl, xs, x, rfl, hm, hown, hb⟩
  replace HW := Lib.hid (pass HW.out hb)
  have RL := Lib.hid (own_reads hown)
  have RLc := Lib.hid (own_lec hown)
  clear hown hb
  obtain ⟨ya, hy⟩ : ∃ ya, endAns xs x = ya := ⟨_, rfl⟩
  have hll : ya.1.length ≤ 5 := by rw [← hy]; exact Nat.le_trans (endAns_len _ _) (by omega)
  have HI := fun (w : World) (hx : Reads w w.heap.size 3 (some ⟨gl, 0, none⟩) m (FL xs)) => implEnd_any (some ⟨gl, 0, none⟩) m cl xs x w hx RLc.out
  have HS := fun (w : World) (hx : Reads w w.heap.size 3 (some ⟨gl, 0, none⟩) m (FL xs)) => specEnd_any (some ⟨gl, 0, none⟩) m cl xs x w hx (by omega)
  rw [hy] at HI HS
  have HY := Lib.hid hy
  clear hy
  obtain ⟨l1, b1⟩ := ya
  unfold SlPost at HI HS
  simp only at HI HS hll
  obtain ⟨r1, hrl⟩ : ∃ r, l1.length = r := ⟨_, rfl⟩
  rw [hrl] at hll
  simp only [hrl] at HI HS
  have r1_len := Lib.hid hrl
  replace HI := Lib.hid HI
  replace HS := Lib.hid HS
  clear hrl
  go_wp2_with fail
  refine (HI.out _ RL.out).mono ?_
  rintro e w2 ⟨A_RA, c_RA, T_RA, rfl, hown, hb⟩
  replace HW := Lib.hid (pass HW.out hb)
  replace RL := Lib.hid ((RL.out.below hb).more hb.size)
  have RA := Lib.hid (own_reads hown)
  have RAc := Lib.hid (own_lec hown)
  clear hown hb
  go_wp2_with fail
  refine (HS.out _ RL.out).mono ?_
  rintro e w3 ⟨A_RB, c_RB, T_RB, rfl, hown, hb⟩
  replace HW := Lib.hid (pass HW.out hb)
  replace RL := Lib.hid ((RL.out.below hb).more hb.size)
  replace RA := Lib.hid ((RA.out.below hb).more hb.size)
  have RB := Lib.hid (own_reads hown)
  have RBc := Lib.hid (own_lec hown)
  clear hown hb
  clear HI HS
  have hnb : (b1 != b1) = false := by simp
  go_wp2_with fail
  refine (vSlots_same A_RA A_RB r1 c_RA c_RB l1 _ (by omega) RA.out RB.out).mono ?_
  rintro e w4 ⟨rfl, hb⟩
  replace HW := Lib.hid (pass HW.out hb)
  replace RL := Lib.hid ((RL.out.below hb).more hb.size)
  replace RA := Lib.hid ((RA.out.below hb).more hb.size)
  replace RB := Lib.hid ((RB.out.below hb).more hb.size)
  clear hb
  clear RB
  clear RBc
  go_upto_if 69 with fail
  go_cut [] from 3 (fun wx => Hid (Below W.heap.size W wx))
  case first => as_aux_lemma =>
    cases b1 with
    | false =>
      clear HY
      go_wp2_with fail
      go_meet
      exact HW
    | true =>
      obtain ⟨ho, hl4, kk, y, z, hk4, hfd, hy, hz, hst⟩ := end_known HY.out
      have hm4 : m = 4 := by have h1 : xs.length = m := reads_len RL.out; have h2 := okB_len ho; omega
      have hr4 : r1 = 4 := by have h1 := r1_len.out; omega
      subst hm4 hr4
      have HFD := Lib.hid (fun (w : World) (hx : Reads w w.heap.size 3 (some ⟨gl, 0, none⟩) 4 (FL xs)) => implFind_any (some ⟨gl, 0, none⟩) 4 cl xs x w hx RLc.out _ _ hfd)
      have HYK := Lib.hid hy
      have HZK := Lib.hid hz
      clear HY hfd hy hz hll hl4 ho hnb
      go_wp2_with fail
      refine (HFD.out _ RL.out).mono ?_
      rintro e w5 ⟨rfl, hb⟩
      replace HW := Lib.hid (pass HW.out hb)
      replace RL := Lib.hid ((RL.out.below hb).more hb.size)
      replace RA := Lib.hid ((RA.out.below hb).more hb.size)
      clear hb
      clear HFD
      obtain ⟨b1, o1, y', e1, _, hy, c0, c1, c2⟩ := slt_at RL.out hk4
      obtain ⟨b2, o2, z', e2, _, hz, d0, d1, d2⟩ := slt_at RA.out hk4
      obtain rfl : y' = y := by rw [HYK.out] at hy; exact (Option.some.inj hy).symm
      obtain rfl : z' = z := by rw [HZK.out] at hz; exact (Option.some.inj hz).symm
      simp only [Option.some.injEq, Addr.mk.injEq, and_true] at e1
      obtain ⟨rfl, rfl⟩ := e1
      subst e2
      clear hy hz HYK HZK c1 c2 d1 d2
      obtain ⟨y0, y1, y2⟩ := y'
      obtain ⟨z0, z1, z2⟩ := z'
      simp only [Nat.zero_add] at c0 d0 hst
      have hkz : (kk : Int) < 4 := by omega
      have tk : decide ((kk : Int) < 0) = false := decide_eq_false (by omega)
      have tk4 : decide ((kk : Int) ≥ 4) = false := decide_eq_false (by omega)
      rcases hst with ⟨rfl, rfl⟩ | ⟨rfl, rfl⟩
      · go_wp2_with fail
        go_meet
        exact HW
      · go_wp2_with fail
        go_meet
        exact HW
  case rest => as_aux_lemma =>
    replace HW := hcut
    clear hcut RL RLc RA RAc HY r1_len hll hnb hm
    go_wp2_with fail
    refine (drawEvictSlot_any _ A n c zs HZ.out (HR.out _ HW.out) hn).mono ?_
    rintro e w6 ⟨gl, m, cl, xs, rfl, hm, hown, hb⟩
    replace HW := Lib.hid (pass HW.out hb)
    have RL := Lib.hid (own_reads hown)
    have RLc := Lib.hid (own_lec hown)
    clear hown hb
    obtain ⟨ya, hy⟩ : ∃ ya, evAns xs = ya := ⟨_, rfl⟩
    have hll : ya.1.length ≤ 5 := by rw [← hy]; exact Nat.le_trans (evAns_len _) (by omega)
    have HI := fun (w : World) (hx : Reads w w.heap.size 3 (some ⟨gl, 0, none⟩) m (FL xs)) => implEvict_any (some ⟨gl, 0, none⟩) m cl xs w hx RLc.out
    have HS := fun (w : World) (hx : Reads w w.heap.size 3 (some ⟨gl, 0, none⟩) m (FL xs)) => specEvict_any (some ⟨gl, 0, none⟩) m cl xs w hx (by omega)
    rw [hy] at HI HS
    have HY := Lib.hid hy
    clear hy
    obtain ⟨l2, ⟨y0, y1, y2⟩, b2⟩ := ya
    unfold EvPost at HI HS
    simp only at HI HS hll
    obtain ⟨r2, hrl⟩ : ∃ r, l2.length = r := ⟨_, rfl⟩
    rw [hrl] at hll
    simp only [hrl] at HI HS
    have r2_len := Lib.hid hrl
    replace HI := Lib.hid HI
    replace HS := Lib.hid HS
    clear hrl
    go_wp2_with fail
    refine (HI.out _ RL.out).mono ?_
    rintro e w7 ⟨A_RA, c_RA, T_RA, rfl, hown, hb⟩
    replace HW := Lib.hid (pass HW.out hb)
    replace RL := Lib.hid ((RL.out.below hb).more hb.size)
    have RA := Lib.hid (own_reads hown)
    have RAc := Lib.hid (own_lec hown)
    clear hown hb
    obtain ⟨wxKA, hwx⟩ : ∃ wx, w7.alloc (.cells #[.int .i64 y0, .int .i64 y1, .int .i64 y2] 33) = wx := ⟨_, rfl⟩
    have hb : Below w7.heap.size w7 wxKA := by rw [← hwx]; exact below_more (Below.refl _ _) _
    replace HW := Lib.hid (pass HW.out hb)
    replace RL := Lib.hid ((RL.out.below hb).more hb.size)
    replace RA := Lib.hid ((RA.out.below hb).more hb.size)
    have KA : Hid (Blk wxKA w7.heap.size 33 #[.int .i64 y0, .int .i64 y1, .int .i64 y2]) := Lib.hid (by rw [← hwx]; exact Blk.new _ _ _)
    obtain ⟨gKA, hgKA⟩ : ∃ g, w7.heap.size = g := ⟨_, rfl⟩
    rw [hgKA] at KA
    have HWX := Lib.hid hwx
    have HGX := Lib.hid hgKA
    clear hb hwx hgKA
    go_upto_region 14 with fail
    rw [HWX.out, HGX.out]
    clear HWX HGX
    go_wp2_with fail
    refine (HS.out _ RL.out).mono ?_
    rintro e w8 ⟨A_RB, c_RB, T_RB, rfl, hown, hb⟩
    replace HW := Lib.hid (pass HW.out hb)
    replace RL := Lib.hid ((RL.out.below hb).more hb.size)
    replace RA := Lib.hid ((RA.out.below hb).more hb.size)
    replace KA := Lib.hid (Blk.kept hb KA.out)
    have RB := Lib.hid (own_reads hown)
    have RBc := Lib.hid (own_lec hown)
    clear hown hb
    obtain ⟨wxKB, hwx⟩ : ∃ wx, w8.alloc (.cells #[.int .i64 y0, .int .i64 y1, .int .i64 y2] 33) = wx := ⟨_, rfl⟩
    have hb : Below w8.heap.size w8 wxKB := by rw [← hwx]; exact below_more (Below.refl _ _) _
    replace HW := Lib.hid (pass HW.out hb)
    replace RL := Lib.hid ((RL.out.below hb).more hb.size)
    replace RA := Lib.hid ((RA.out.below hb).more hb.size)
    replace KA := Lib.hid (Blk.kept hb KA.out)
    replace RB := Lib.hid ((RB.out.below hb).more hb.size)
    have KB : Hid (Blk wxKB w8.heap.size 33 #[.int .i64 y0, .int .i64 y1, .int .i64 y2]) := Lib.hid (by rw [← hwx]; exact Blk.new _ _ _)
    obtain ⟨gKB, hgKB⟩ : ∃ g, w8.heap.size = g := ⟨_, rfl⟩
    rw [hgKB] at KB
    have HWX := Lib.hid hwx
    have HGX := Lib.hid hgKB
    clear hb hwx hgKB
    go_upto_region 15 with fail
    rw [HWX.out, HGX.out]
    clear HWX HGX
    clear HI HS
    have hnb : (b2 != b2) = false := by simp
    have hq0 : (y0 != y0) = false := by simp
    have hq1 : (y1 != y1) = false := by simp
    have hq2 : (y2 != y2) = false := by simp
    have pKA0 : wxKB.cell? ⟨gKA, 0, none⟩ = some (.int .i64 y0) := KA.out.cell 0 _ rfl
    have pKA1 : wxKB.cell? ⟨gKA, 1, none⟩ = some (.int .i64 y1) := KA.out.cell 1 _ rfl
    have pKA2 : wxKB.cell? ⟨gKA, 2, none⟩ = some (.int .i64 y2) := KA.out.cell 2 _ rfl
    have pKB0 : wxKB.cell? ⟨gKB, 0, none⟩ = some (.int .i64 y0) := KB.out.cell 0 _ rfl
    have pKB1 : wxKB.cell? ⟨gKB, 1, none⟩ = some (.int .i64 y1) := KB.out.cell 1 _ rfl
    have pKB2 : wxKB.cell? ⟨gKB, 2, none⟩ = some (.int .i64 y2) := KB.out.cell 2 _ rfl
    go_wp2_with fail
    refine (vSlots_same A_RA A_RB r2 c_RA c_RB l2 _ (by omega) RA.out RB.out).mono ?_
    rintro e w9 ⟨rfl, hb⟩
    replace HW := Lib.hid (pass HW.out hb)
    replace RL := Lib.hid ((RL.out.below hb).more hb.size)
    replace RA := Lib.hid ((RA.out.below hb).more hb.size)
    replace KA := Lib.hid (Blk.kept hb KA.out)
    replace RB := Lib.hid ((RB.out.below hb).more hb.size)
    replace KB := Lib.hid (Blk.kept hb KB.out)
    clear hb
    clear pKA0 pKA1 pKA2 pKB0 pKB1 pKB2 hq0 hq1 hq2
    clear RB
    clear KB
    clear RBc
    go_upto_if 154 with fail
    go_cut [] from 3 (fun wx => Hid (Below W.heap.size W wx))
    case first => as_aux_lemma =>
      cases b2 with
      | false =>
        clear HY
        go_wp2_with fail
        go_meet
        exact HW
      | true =>
        obtain ⟨ho, kk, hyk, hy1, hl2, hall⟩ := ev_known HY.out
        obtain ⟨l3, hput, ho3, hemp⟩ := ev_put ho hyk hy1
        rw [← hl2] at hput
        have hxl := okB_len ho
        have hm4 : m = 4 := by have h1 : xs.length = m := reads_len RL.out; omega
        have hr4 : r2 = 4 := by have h1 := r2_len.out; rw [hl2, List.length_set] at h1; omega
        subst hm4 hr4
        have HPUT := fun (w : World) (hx : Reads w w.heap.size 3 A_RA 4 (FL l2)) => implPut_any A_RA 4 c_RA l2 y1 y2 w hx RAc.out
        simp only at hput
        rw [hput] at HPUT
        unfold SlPost at HPUT
        simp only [okB_len ho3] at HPUT
        replace HPUT := Lib.hid HPUT
        obtain ⟨em, hem⟩ : ∃ em : Int, (emp xs : Int) = em := ⟨_, rfl⟩
        have HE1 : Hid (emAns xs = (em, true)) := Lib.hid (by unfold emAns; rw [if_pos ho, hem])
        have HE3 : Hid (emAns l3 = (em, true)) := Lib.hid (by unfold emAns; rw [if_pos ho3, hemp, hem])
        have HALL := Lib.hid hall
        simp only at hy1
        clear HY hyk hl2 hput hall hem hemp hll hxl ho ho3 hnb hy1
        go_wp2_with fail
        go_loopw [18] (fun u18 wr => ∃ (j d : Nat), u18 = .int .i64 j ∧ j ≤ 4 ∧ wr = w9.drewN d) (fun u18 _ => 4 - (intOf u18).toNat)
        case atStart => exact ⟨0, 0, rfl, Nat.zero_le _, rfl⟩
        case round =>
          obtain ⟨j, d, rfl, hj, rfl⟩ := hrel
          have HBD : Hid (∀ d, Below w9.heap.size w9 (w9.drewN d)) := Lib.hid (fun d => ⟨rfl, rfl, rfl, Nat.le_refl _, fun _ _ => rfl⟩)
          have k1 : w9.cell? ⟨gKA, 1, none⟩ = some (.int .i64 y1) := KA.out.cell 1 _ rfl
          have k2 : w9.cell? ⟨gKA, 2, none⟩ = some (.int .i64 y2) := KA.out.cell 2 _ rfl
          by_cases hlt : j < 4
          · obtain ⟨b1, o1, z, e1, _, hz, c0, c1, c2⟩ := slt_at RL.out hlt
            simp only [Option.some.injEq, Addr.mk.injEq, and_true] at e1
            obtain ⟨rfl, rfl⟩ := e1
            have hle := HALL.out j z hz
            clear hz
            obtain ⟨z0, z1, z2⟩ := z
            simp only [Nat.zero_add] at c0 c1 c2 hle
            have hjz : (j : Int) < 4 := by omega
            by_cases h1 : z0 = 1
            · have hle2 := hle h1
              subst h1
              have tg : decide (z2 > y2) = false := decide_eq_false (by omega)
              by_cases h2 : z2 = y2
              · have t2 : (z2 == y2) = true := by simpa using h2
                have tq : decide (z1 > y1) = false := decide_eq_false (by omega)
                clear hle hle2 h2
                go_wp2_with fail
                go_big_quiet (fail)
                clear c0 c1 c2 tg t2 tq
                go_wp2_with fail
                go_roundw
                case rel => exact ⟨j + 1, _, by go_num, by omega, rfl⟩
                case measure => simp [intOf]; omega
              · have t2 : (z2 == y2) = false := by simpa using h2
                clear hle hle2 h2
                go_wp2_with fail
                go_big_quiet (fail)
                clear c0 c1 c2 tg t2
                go_wp2_with fail
                go_roundw
                case rel => exact ⟨j + 1, _, by go_num, by omega, rfl⟩
                case measure => simp [intOf]; omega
            · have t1 : (z0 == 1) = false := by simpa using h1
              clear hle h1
              go_wp2_with fail
              go_big_quiet (fail)
              clear c0 c1 c2 t1
              go_wp2_with fail
              go_roundw
              case rel => exact ⟨j + 1, _, by go_num, by omega, rfl⟩
              case measure => simp [intOf]; omega
          · have hj4 : j = 4 := by omega
            subst hj4
            have hb := HBD.out d
            replace HW := Lib.hid (pass HW.out hb)
            replace RL := Lib.hid ((RL.out.below hb).more hb.size)
            replace RA := Lib.hid ((RA.out.below hb).more hb.size)
            replace KA := Lib.hid (Blk.kept hb KA.out)
            clear hb HBD
            go_wp2_with fail
            refine (HPUT.out _ RA.out).mono ?_
            rintro e w10 ⟨A_RC, c_RC, T_RC, rfl, hown, hb⟩
            replace HW := Lib.hid (pass HW.out hb)
            replace RL := Lib.hid ((RL.out.below hb).more hb.size)
            replace RA := Lib.hid ((RA.out.below hb).more hb.size)
            replace KA := Lib.hid (Blk.kept hb KA.out)
            have RC := Lib.hid (own_reads hown)
            have RCc := Lib.hid (own_lec hown)
            clear hown hb
            clear HPUT k1 k2
            go_wp2_with fail
            refine (implEmpty_any A_RC 4 c_RC l3 _ RC.out RCc.out em true HE3.out).mono ?_
            rintro e w11 ⟨rfl, hb⟩
            replace HW := Lib.hid (pass HW.out hb)
            replace RL := Lib.hid ((RL.out.below hb).more hb.size)
            replace RA := Lib.hid ((RA.out.below hb).more hb.size)
            replace KA := Lib.hid (Blk.kept hb KA.out)
            replace RC := Lib.hid ((RC.out.below hb).more hb.size)
            clear hb
            go_wp2_with fail
            refine (implEmpty_any (some ⟨gl, 0, none⟩) 4 cl xs _ RL.out RLc.out em true HE1.out).mono ?_
            rintro e w12 ⟨rfl, hb⟩
            replace HW := Lib.hid (pass HW.out hb)
            replace RL := Lib.hid ((RL.out.below hb).more hb.size)
            replace RA := Lib.hid ((RA.out.below hb).more hb.size)
            replace KA := Lib.hid (Blk.kept hb KA.out)
            replace RC := Lib.hid ((RC.out.below hb).more hb.size)
            clear hb
            have hee : (em != em) = false := by simp
            go_wp2_with fail
            go_meet
            exact HW
    case rest => as_aux_lemma =>
      replace HW := hcut
      clear hcut RL RLc RA RAc KA HY r2_len hll hnb hm
      go_wp2_with fail
      refine (drawEmptySlots_any _ A n c zs HZ.out (HR.out _ HW.out) hn).mono ?_
      rintro e w13 ⟨gl, m, cl, xs, rfl, hm, hown, hb⟩
      replace HW := Lib.hid (pass HW.out hb)
      have RL := Lib.hid (own_reads hown)
      have RLc := Lib.hid (own_lec hown)
      clear hown hb
      obtain ⟨ya, hy⟩ : ∃ ya, emAns xs = ya := ⟨_, rfl⟩
      obtain ⟨z, b⟩ := ya
      have HI := Lib.hid (fun (w : World) (hx : Reads w w.heap.size 3 (some ⟨gl, 0, none⟩) m (FL xs)) => implEmpty_any (some ⟨gl, 0, none⟩) m cl xs w hx RLc.out z b hy)
      have HS := Lib.hid (fun (w : World) (hx : Reads w w.heap.size 3 (some ⟨gl, 0, none⟩) m (FL xs)) => specEmpty_any (some ⟨gl, 0, none⟩) m cl xs w hx (by omega) z b hy)
      clear hy
      go_wp2_with fail
      refine (HI.out _ RL.out).mono ?_
      rintro e w14 ⟨rfl, hb⟩
      replace HW := Lib.hid (pass HW.out hb)
      replace RL := Lib.hid ((RL.out.below hb).more hb.size)
      clear hb
      go_wp2_with fail
      refine (HS.out _ RL.out).mono ?_
      rintro e w15 ⟨rfl, hb⟩
      replace HW := Lib.hid (pass HW.out hb)
      replace RL := Lib.hid ((RL.out.below hb).more hb.size)
      clear hb
      clear HI HS
      have hnz : (z != z) = false := by simp
      have hnb : (b != b) = false := by simp
      clear RL
      clear RLc hm
      go_wp2_with fail
      refine (drawActiveIrqs_any _ A n c zs HZ.out (HR.out _ HW.out) hn).mono ?_
      rintro e w16 ⟨gl, m, cl, xs, rfl, hm, hown, hb⟩
      replace HW := Lib.hid (pass HW.out hb)
      have RL := Lib.hid (own_reads hown)
      have RLc := Lib.hid (own_lec hown)
      clear hown hb
      obtain ⟨ya, hy⟩ : ∃ ya, acAns xs = ya := ⟨_, rfl⟩
      have hll : ya.1.length ≤ 5 := by rw [← hy]; exact Nat.le_trans (acAns_len _) (by omega)
      have HI := fun (w : World) (hx : Reads w w.heap.size 3 (some ⟨gl, 0, none⟩) m (FL xs)) => implActive_any (some ⟨gl, 0, none⟩) m cl xs w hx RLc.out
      have HS := fun (w : World) (hx : Reads w w.heap.size 3 (some ⟨gl, 0, none⟩) m (FL xs)) => specActive_any (some ⟨gl, 0, none⟩) m cl xs w hx (by omega)
      rw [hy] at HI HS
      have HY := Lib.hid hy
      clear hy
      obtain ⟨l4, b4⟩ := ya
      unfold AcPost at HI HS
      simp only at HI HS hll
      obtain ⟨r4, hrl⟩ : ∃ r, l4.length = r := ⟨_, rfl⟩
      rw [hrl] at hll
      simp only [hrl] at HI HS
      have r4_len := Lib.hid hrl
      replace HI := Lib.hid HI
      replace HS := Lib.hid HS
      clear hrl
      clear hnz hnb
      go_wp2_with fail
      refine (HI.out _ RL.out).mono ?_
      rintro e w17 ⟨A_RA, c_RA, rfl, hown, hb⟩
      replace HW := Lib.hid (pass HW.out hb)
      replace RL := Lib.hid ((RL.out.below hb).more hb.size)
      have RA := Lib.hid (own_reads hown)
      have RAc := Lib.hid (own_lec hown)
      clear hown hb
      go_wp2_with fail
      refine (HS.out _ RL.out).mono ?_
      rintro e w18 ⟨A_RB, c_RB, rfl, hown, hb⟩
      replace HW := Lib.hid (pass HW.out hb)
      replace RL := Lib.hid ((RL.out.below hb).more hb.size)
      replace RA := Lib.hid ((RA.out.below hb).more hb.size)
      have RB := Lib.hid (own_reads hown)
      have RBc := Lib.hid (own_lec hown)
      clear hown hb
      clear HI HS
      have hnb : (b4 != b4) = false := by simp
      go_wp2_with fail
      refine (vInts_same A_RA A_RB r4 c_RA c_RB l4 _ (by omega) RA.out RB.out).mono ?_
      rintro e w19 ⟨rfl, hb⟩
      replace HW := Lib.hid (pass HW.out hb)
      replace RL := Lib.hid ((RL.out.below hb).more hb.size)
      replace RA := Lib.hid ((RA.out.below hb).more hb.size)
      replace RB := Lib.hid ((RB.out.below hb).more hb.size)
      clear hb
      clear RA RB RL
      clear RAc RBc RLc hm HY r4_len hll
      go_wp2_with fail
      refine (drawFindSlot_any _ A n c zs HZ.out (HR.out _ HW.out) hn).mono ?_
      rintro e w20 ⟨gl, m, cl, xs, x, rfl, hm, hown, hb⟩
      replace HW := Lib.hid (pass HW.out hb)
      have RL := Lib.hid (own_reads hown)
      have RLc := Lib.hid (own_lec hown)
      clear hown hb
      obtain ⟨ya, hy⟩ : ∃ ya, fdAns xs x = ya := ⟨_, rfl⟩
      obtain ⟨z, b⟩ := ya
      have HI := Lib.hid (fun (w : World) (hx : Reads w w.heap.size 3 (some ⟨gl, 0, none⟩) m (FL xs)) => implFind_any (some ⟨gl, 0, none⟩) m cl xs x w hx RLc.out z b hy)
      have HS := Lib.hid (fun (w : World) (hx : Reads w w.heap.size 3 (some ⟨gl, 0, none⟩) m (FL xs)) => specFind_any (some ⟨gl, 0, none⟩) m cl xs x w hx (by omega) z b hy)
      clear hy hnb
      go_wp2_with fail
      refine (HI.out _ RL.out).mono ?_
      rintro e w21 ⟨rfl, hb⟩
      replace HW := Lib.hid (pass HW.out hb)
      replace RL := Lib.hid ((RL.out.below hb).more hb.size)
      clear hb
      go_wp2_with fail
      refine (HS.out _ RL.out).mono ?_
      rintro e w22 ⟨rfl, hb⟩
      replace HW := Lib.hid (pass HW.out hb)
      replace RL := Lib.hid ((RL.out.below hb).more hb.size)
      clear hb
      go_wp2_with fail
      go_ret
      exact ⟨by simp, HW.out⟩

set_option maxHeartbeats 4000000 in
set_option maxRecDepth 100000 in
/-- the law's Go text returns true, and nothing that was there has turned -/
theorem walk {H : Type} {enc : TypeId × Value → H} (W : World) (base : Nat) (v0 : Value) (d0 : DataW H) (p0 : List MemPlace) (q0 : Value.okWide Try.prog W .any base 22 v0) (h0 : DataW.Trod enc Try.prog W 0 (fun _ => true) true 22 v0 d0 p0) (l0 : ∀ x ∈ p0, x.block < W.heap.size) (hL : laidMetH Try.prog Rows.fnSlotEndsRow.laid W) (hsh : W.ShapedOpen Try.prog) :
    Calls Try.prog 3 #[v0] W fun e W' => e = .returned (.bool true) ∧ Below W.heap.size W W' := by
  clear hsh
  obtain ⟨A, n, c, zs, rfl, hc, hcm, hl, hwf, hr⟩ := open_nums Try.underlying22 Try.underlying5 (by kernel_rfl) q0 h0
  exact walk0 W A n c zs (fun z hz => bounds_u8 (hwf z hz)) hr
theorem laid_met (os : Os) : laidMetH Try.prog Rows.fnSlotEndsRow.laid ((World.holding Try.prog os ⟨#[], #[], []⟩).forCall (fun _ _ => 0) ⟨#[], #[(.slice none 0 0 : Value)], []⟩).memory := ⟨[], rfl, List.nodup_nil, fun _ _ h => by cases h⟩
theorem reads (os : Os) {H : Type} (enc : TypeId × Value → H) : (DataW.whole enc Try.prog ((World.holding Try.prog os ⟨#[], #[], []⟩).forCall (fun _ _ => 0) ⟨#[], #[(.slice none 0 0 : Value)], []⟩).memory Try.f3.params.toList Rows.fnSlotEndsSpec.vars false #[(.slice none 0 0 : Value)].toList 8).isSome = true := by kernel_rfl
set_option maxRecDepth 100000 in
theorem lifted (os : Os) (started : os.Started) (H : Type) (enc : TypeId × Value → H) (F : Stop.Interp) :
    ReturnsInHanded {} Try.checked os 3 .any ((OpenSpec.ofChange Rows.fnSlotEndsSpec).preRow enc Try.prog Try.f3 Rows.fnSlotEndsRow.domain false Rows.fnSlotEndsRow.laid) (((OpenSpec.ofChange Rows.fnSlotEndsSpec).at F).post enc Try.prog Try.f3 false true false false) := by
  obtain ⟨x, hx⟩ := Option.isSome_iff_exists.1 (reads os enc)
  refine returnsInHanded_of_row (C := Try.checked) (s := OpenSpec.ofChange Rows.fnSlotEndsSpec) own started (by kernel_rfl) Try.func3
    (witness_row_at (enc := enc) (C := Try.checked) false (World.holding Try.prog os ⟨#[], #[], []⟩) #[(.slice none 0 0 : Value)] rfl (by kernel_rfl) (by kernel_rfl) (by kernel_rfl)
      (OpenSpec.preRow_of_cond 8 hx (by rfl) (fun k hk => by cases hk) (by kernel_rfl) (laid_met os))) ?_
  intro W base args ds gs before hval0 hW _ hcond hsz hL hsh _
  have hval : ∀ (j : Nat) t v, Try.f3.params[j]? = some t → args[j]? = some v → Value.okWide Try.prog W .any base t v := hval0
  have hW' := hW
  obtain ⟨p, q, hA0, hV, rfl, hfz, hnd⟩ := hW
  have hA : DataW.TrodAll enc Try.prog W 0 (fun _ => true) true Try.f3.params.toList args.toList ds p := hA0
  rw [Try.params3] at hA hval
  obtain ⟨v0, vs0, d0, ds0, p0, q0, hargs, rfl, rfl, h0, r0⟩ := trodAll_cons hA
  obtain ⟨rfl, rfl, rfl⟩ := trodAll_nil r0
  obtain rfl : args = #[v0] := by cases args; simp_all
  obtain ⟨rfl, rfl⟩ := trodVars_none hV
  clear hA0 hval0
  simp only [List.append_nil] at hW'
  refine (walk (enc := enc) W base v0 d0 p0 (hval 0 22 v0 rfl rfl) h0 (fun x hx => hW'.lt x (by simp [hx])) hL hsh).mono fun e W' ⟨he, hb⟩ => ⟨_, he, Fr.post_true laidOut (by kernel_rfl) (by kernel_rfl) Try.underlying4 rfl hW' (fun xs hx => by match xs, hx with | [x0], _ => rfl) hb⟩
theorem said : Rows.FnSlotEndsSaid :=
  OpenClaim.holds_of_cond 3 Try.f3 rfl rfl rfl rfl rfl rfl rfl ⟨rfl, rfl, rfl, rfl, rfl⟩ rfl rfl rfl rfl rfl (by kernel_rfl) Try.func3 (by kernel_rfl)
    (of_decide_eq_true (by kernel_rfl)) (by unfold Func.isWrapper; first | (rw [if_pos (by decide +kernel)]; kernel_rfl) | (rw [if_neg (by decide +kernel)]; exact ⟨rfl, rfl⟩))
    (fun os started H enc _ F => by rw [OpenClaim.pre_eq_preRow]; exact lifted os started H enc F)
#print axioms said
end Go.Proofs.Ytadpjkghfgnbbaa.fnSlotEnds
