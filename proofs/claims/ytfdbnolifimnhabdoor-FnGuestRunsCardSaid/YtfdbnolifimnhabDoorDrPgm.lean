/- What the draw of a program answers. -/
import Derived.Test.YtfdbnolifimnhabDoorDrIns
import Derived.Test.YtfdbnolifimnhabDoorNew
import Derived.Test.YtfdbnolifimnhabDoorInf
namespace Go.Proofs.YtfdbnolifimnhabDoor.Draw
open Go Go.RowKit Go.Proofs.YtfdbnolifimnhabDoor.Mem Go.Proofs.YtfdbnolifimnhabDoor.Own Go.Proofs.YtfdbnolifimnhabDoor.L3
set_option linter.unusedVariables false
theorem insInfo3 : (Tryd.prog.info? 25).map (fun i => (i.zero, i.size, i.bytes)) = some (some (.agg #[.int .i64 0, .int .i64 0, .int .i64 0, .int .i64 0]), 4, 32) := by kernel_rfl
theorem cells_new3 (w : World) (l : List Value) (t : TypeId) : ∀ j u, l[j]? = some u → (w.alloc (.cells l.toArray t)).cell? ((⟨w.heap.size, 0, none⟩ : Addr).add j) = some u := by
  intro j u hu
  rw [Go.WideShapes.add_plain, Nat.zero_add, cell_of_row _ _ _ _ _ _ (heap_alloc_new w _)]
  simpa using hu
theorem one_ins (x : Ins) : ∀ u ∈ ([.int .i64 x.op, .int .i64 x.a, .int .i64 x.b, .int .i64 x.n] : List Value), u.oneCell' = true := by
  intro u hu
  simp at hu
  rcases hu with rfl | rfl | rfl | rfl <;> rfl
theorem snoc_ins (L : List Ins) (x : Ins) : FL L ++ [.int .i64 x.op, .int .i64 x.a, .int .i64 x.b, .int .i64 x.n] = FL (L ++ [x]) := by
  rw [FL_append, FL_one]
  rfl
theorem own_zero {w : World} {b size n c : Nat} {e : TypeId} {A : Option Addr} {xs : List Value} (h : w.ownsRow b e size (.slice A n c) n xs) : w.ownsRow b e size (.slice A 0 c) 0 [] := by
  refine ⟨by simp, ?_⟩
  rcases h.2 with ⟨h', h0⟩ | ⟨g', cap', cur, h', hb, hg, hnc, hcm, hcs, htake⟩
  · simp only [Value.slice.injEq] at h'
    obtain ⟨rfl, _, rfl⟩ := h'
    exact .inl ⟨rfl, rfl⟩
  · simp only [Value.slice.injEq] at h'
    obtain ⟨rfl, _, rfl⟩ := h'
    exact .inr ⟨g', c, cur, rfl, hb, hg, Nat.zero_le _, hcm, hcs, by simp⟩
/-- a cursor and a list of instructions beside it -/
structure PgSt (w wr : World) (g B : Nat) (A : Option Addr) (n cp : Nat) (zs : List Int) (t : Nat) (v : Value) (m : Nat) (xs : List Ins) : Prop where
  cur : Cur wr g B A n cp zs t
  gr : w.grownBy wr (some g)
  own : wr.ownsRow w.heap.size 25 4 v m (FL xs)
  hg : g < w.heap.size
/-- and an instruction's variable -/
structure PxSt (w wr : World) (g B : Nat) (A : Option Addr) (n cp : Nat) (zs : List Int) (t : Nat) (v : Value) (m : Nat) (xs : List Ins) (T : Nat) (cs : Array Value) : Prop where
  st : PgSt w wr g B A n cp zs t v m xs
  loc : Blk wr T 25 cs
  hT : w.heap.size ≤ T
  hne : v.ownBlock ≠ some T
section
variable {w wr w' : World} {g B n cp t t' m m' T : Nat} {A : Option Addr} {zs : List Int} {v v' : Value} {xs xs' : List Ins} {cs : Array Value}
theorem PgSt.draw (h : PgSt w wr g B A n cp zs t v m xs) (hg : wr.grownBy w' (some g)) (hc : Cur w' g B A n cp zs t') : PgSt w w' g B A n cp zs t' v m xs :=
  ⟨hc, grown_trans' h.gr hg, own_cur h.own hg h.hg, h.hg⟩
theorem PgSt.below (h : PgSt w wr g B A n cp zs t v m xs) (hb : Below wr.heap.size wr w') : PgSt w w' g B A n cp zs t v m xs :=
  ⟨h.cur.below hb, grown_trans' h.gr ⟨hb.os, hb.tape, hb.output, hb.size, fun k hk _ => hb.block k hk⟩, own_below h.own hb, h.hg⟩
theorem PgSt.grow (h : PgSt w wr g B A n cp zs t v m xs) (hg : wr.grownBy w' v.ownBlock) (ho : w'.ownsRow w.heap.size 25 4 v' m' (FL xs')) : PgSt w w' g B A n cp zs t v' m' xs' :=
  ⟨h.cur.grown hg (fun r e => Nat.lt_of_lt_of_le h.hg (h.own.lt r e).1), grown_over h.gr hg (fun r e => (h.own.lt r e).1), ho, h.hg⟩
theorem PgSt.alloc (h : PgSt w wr g B A n cp zs t v m xs) (o : Obj) : PgSt w (wr.alloc o) g B A n cp zs t v m xs := h.below (below_more (Below.refl _ _) o)
theorem PgSt.set (h : PgSt w wr g B A n cp zs t v m xs) (hT : w.heap.size ≤ T) (hne : v.ownBlock ≠ some T) (j : Nat) (u : Value) : PgSt w (wr.setCell ⟨T, j, none⟩ u) g B A n cp zs t v m xs :=
  ⟨h.cur.grown (row := some T) (grown_set wr T j u) (fun r e => by cases e; have := h.hg; omega),
   grown_over h.gr (grown_set wr T j u) (fun r e => by cases e; exact hT), own_set h.own u hne, h.hg⟩
theorem PgSt.px (h : PgSt w wr g B A n cp zs t v m xs) (cs : Array Value) : PxSt w (wr.alloc (.cells cs 25)) g B A n cp zs t v m xs wr.heap.size cs :=
  ⟨h.alloc _, Blk.new _ _ _, h.gr.size, fun e => by have := (h.own.lt _ e).2; omega⟩
theorem PxSt.draw (h : PxSt w wr g B A n cp zs t v m xs T cs) (hg : wr.grownBy w' (some g)) (hc : Cur w' g B A n cp zs t') : PxSt w w' g B A n cp zs t' v m xs T cs :=
  ⟨h.st.draw hg hc, blk_draw h.loc hg (by have := h.hT; have := h.st.hg; omega), h.hT, h.hne⟩
theorem PxSt.set (h : PxSt w wr g B A n cp zs t v m xs T cs) (j : Nat) (u : Value) : PxSt w (wr.setCell ⟨T, j, none⟩ u) g B A n cp zs t v m xs T (cs.setIfInBounds j u) :=
  ⟨h.st.set h.hT h.hne j u, h.loc.set j u, h.hT, h.hne⟩
theorem PgSt.zero {A1 : Option Addr} {c1 : Nat} (h : PgSt w wr g B A n cp zs t (.slice A1 m c1) m xs) : PgSt w wr g B A n cp zs t (.slice A1 0 c1) 0 [] :=
  ⟨h.cur, h.gr, own_zero h.own, h.hg⟩
end
/-- a program of at most eighteen instructions has been drawn -/
def PgmDrawn (w : World) (g B : Nat) (A : Option Addr) (n cp : Nat) (zs : List Int) (t : Nat) (e : Ending) (w' : World) : Prop :=
  ∃ (m gl c t' : Nat) (xs : List Ins), e = .returned (.slice (some ⟨gl, 0, none⟩) m c) ∧ m ≤ 18 ∧ t' ≤ t + 1000 ∧ PgSt w w' g B A n cp zs t' (.slice (some ⟨gl, 0, none⟩) m c) m xs
def lenP : Value → Nat
  | .slice _ n _ => n
  | _ => 0
set_option maxRecDepth 100000 in
set_option maxHeartbeats 1000000 in
theorem program_any (w : World) (g B : Nat) (A : Option Addr) (n cp : Nat) (zs : List Int) (t : Nat) (hz : ∀ z ∈ zs, 0 ≤ z ∧ z ≤ 255) (hc : Cur w g B A n cp zs t) (ht : t ≤ 800000) (hn : n ≤ 1000000) :
    Calls Tryd.prog 51 #[.pointer (some ⟨g, 0, none⟩)] w (PgmDrawn w g B A n cp zs t) := by
  obtain ⟨i0, hi, hz0, hz1, hz2⟩ := info_parts insInfo3
  have HZ := Lib.hid hz
  have HL0 : Hid (PgSt w (w.alloc (.cells #[] 25)) g B A n cp zs t (.slice (some ⟨w.heap.size, 0, none⟩) 0 0) 0 []) := Lib.hid ⟨hc.alloc _, World.grownBy_alloc w _ (some g), World.ownsRow_made w #[] 0 (Nat.le_refl _) (Nat.zero_le _) rfl, hc.lt⟩
  clear hz hc
  go_enter Tryd.func51, Tryd.ntmps51
  go_wp2_with fail
  refine (pick_any _ g B A n cp zs _ HZ.out HL0.out.cur (by omega) hn 8 (by omega) (by omega)).mono ?_
  rintro e w1 ⟨y, rfl, hy0, hy1, ⟨a1, ha1, hc⟩, hg⟩
  replace HL0 := Lib.hid (HL0.out.draw hg hc)
  obtain ⟨y, rfl⟩ : ∃ k : Nat, y = k := ⟨y.toNat, by omega⟩
  clear hc hg
  have hwy : IntKind.i64.wrap (1 + (y : Int)) = ((y + 1 : Nat) : Int) := by rw [IntWalk.i64_in _ (by omega)]; omega
  go_wp2_with fail
  go_loopw [3, 4] (fun u3 u4 wr => ∃ (r k gl c t' : Nat) (xs : List Ins), u4 = .int .i64 r ∧ r + k ≤ 8 ∧ u3 = .slice (some ⟨gl, 0, none⟩) k c ∧ t' ≤ t + 2 + 30 * k ∧ Hid (PgSt w wr g B A n cp zs t' (.slice (some ⟨gl, 0, none⟩) k c) k xs)) (fun _ u4 _ => (intOf u4).toNat)
  case atStart => exact ⟨y + 1, 0, _, 0, a1, [], rfl, by omega, rfl, by omega, HL0⟩
  case round =>
    clear HL0 hwy
    obtain ⟨r, k, gl, c, t', xs, rfl, hrk, rfl, htk, H⟩ := hrel
    by_cases hlt : 0 < r
    · have hr0 : decide ((0 : Nat) < r) = true := decide_eq_true hlt
      go_wp2_with fail
      refine (instruction_any _ g B A n cp zs _ HZ.out H.out.cur (by omega) hn).mono ?_
      rintro e v1 ⟨x0, x1, x2, x3, rfl, ⟨u1, hu1, hc⟩, hg⟩
      replace H := Lib.hid ((H.out.draw hg hc).px #[.int .i64 x0, .int .i64 x1, .int .i64 x2, .int .i64 x3])
      clear hc hg
      obtain ⟨T, hT⟩ : ∃ T, v1.heap.size = T := ⟨_, rfl⟩
      obtain ⟨wa, hwa⟩ : ∃ wa, v1.alloc (.cells #[.int .i64 x0, .int .i64 x1, .int .i64 x2, .int .i64 x3] 25) = wa := ⟨_, rfl⟩
      rw [hwa, hT] at H
      have HW := Lib.hid hwa
      have HT := Lib.hid hT
      clear hwa hT
      go_upto_region 6 with fail
      rw [HW.out, HT.out]
      clear HW HT
      by_cases h0 : x0 = 0
      · subst h0
        have p0 := H.out.loc.cell 0 _ rfl
        go_wp2_with fail
        refine (one_any _ g B A n cp zs _ HZ.out H.out.st.cur (by omega) hn 4 (by omega) (by omega)).mono ?_
        rintro e v2 ⟨b, rfl, ⟨u2, hu2, hc⟩, hg⟩
        replace H := Lib.hid (H.out.draw hg hc)
        clear hc hg p0
        cases b with
        | true =>
          have p0 := H.out.loc.cell 0 _ rfl
          have p1 := H.out.loc.cell 1 _ rfl
          have p2 := H.out.loc.cell 2 _ rfl
          have p3 := H.out.loc.cell 3 _ rfl
          have hown := H.out.st.own
          have hsz := H.out.st.gr.size
          go_wp2_with (at_builtin; refine wpList_append_own _ rfl _ _ 37 rfl w.heap.size 25 i0 (.agg #[.int .i64 0, .int .i64 0, .int .i64 0, .int .i64 0]) 4 32 Tryd.underlying37 hi hz0 hz1 hz2 rfl (by decide) _ _ _ rfl (hown.alloc _) ⟨_, 0, none⟩ 1 1 [.int .i64 0, .int .i64 x1, .int .i64 x2, .int .i64 x3] rfl rfl (cells_new3 _ _ _) (one_ins ⟨0, x1, x2, x3⟩) (by unfold maxLen; omega) (by omega) (by simp; omega) ?_; intro v' w4 hown1 hgrow1 _)
          obtain ⟨A6, c6, rfl, _, _⟩ := own_form hown1
          obtain ⟨g6, rfl⟩ := own_head hown1 (by omega)
          have hown2 : w4.ownsRow w.heap.size 25 4 (.slice (some ⟨g6, 0, none⟩) (k + 1) c6) (k + 1) (FL (xs ++ [⟨0, x1, x2, x3⟩])) := by rw [← snoc_ins]; exact hown1
          have HN := Lib.hid ((H.out.st.alloc _).grow hgrow1 hown2)
          clear hown hsz hown1 hgrow1 hown2 H
          go_roundw
          case rel => exact ⟨r - 1, k + 1, g6, c6, u2, _, by first | (go_num; done) | (congr 1; omega), by omega, rfl, by omega, HN⟩
          case measure => simp [intOf]; omega
        | false =>
          have q0 := H.out.loc.cell 0 _ rfl
          have q1 := H.out.loc.cell 1 _ rfl
          have q2 := H.out.loc.cell 2 _ rfl
          have q3 := H.out.loc.cell 3 _ rfl
          have f0 := H.out.loc.free 0
          have f1 := H.out.loc.free 1
          have f2 := H.out.loc.free 2
          have f3 := H.out.loc.free 3
          go_upto_region 8 with fail
          replace H := Lib.hid ((((H.out.set 0 (.int .i64 3)).set 1 (.int .i64 0)).set 2 (.int .i64 1)).set 3 (.int .i64 0))
          clear q0 f0 q1 f1 q2 f2 q3 f3
          revert H
          generalize (World.setCell (World.setCell (World.setCell (World.setCell _ _ _) _ _) _ _) _ _) = wz
          intro H
          have p0 := H.out.loc.cell 0 _ rfl
          have p1 := H.out.loc.cell 1 _ rfl
          have p2 := H.out.loc.cell 2 _ rfl
          have p3 := H.out.loc.cell 3 _ rfl
          have hown := H.out.st.own
          have hsz := H.out.st.gr.size
          go_wp2_with (at_builtin; refine wpList_append_own _ rfl _ _ 37 rfl w.heap.size 25 i0 (.agg #[.int .i64 0, .int .i64 0, .int .i64 0, .int .i64 0]) 4 32 Tryd.underlying37 hi hz0 hz1 hz2 rfl (by decide) _ _ _ rfl (hown.alloc _) ⟨_, 0, none⟩ 1 1 [.int .i64 3, .int .i64 0, .int .i64 1, .int .i64 0] rfl rfl (cells_new3 _ _ _) (one_ins ⟨3, 0, 1, 0⟩) (by unfold maxLen; omega) (by omega) (by simp; omega) ?_; intro v' w4 hown1 hgrow1 _)
          obtain ⟨A6, c6, rfl, _, _⟩ := own_form hown1
          obtain ⟨g6, rfl⟩ := own_head hown1 (by omega)
          have hown2 : w4.ownsRow w.heap.size 25 4 (.slice (some ⟨g6, 0, none⟩) (k + 1) c6) (k + 1) (FL (xs ++ [⟨3, 0, 1, 0⟩])) := by rw [← snoc_ins]; exact hown1
          have HN := Lib.hid ((H.out.st.alloc _).grow hgrow1 hown2)
          clear hown hsz hown1 hgrow1 hown2 H
          go_roundw
          case rel => exact ⟨r - 1, k + 1, g6, c6, u2, _, by first | (go_num; done) | (congr 1; omega), by omega, rfl, by omega, HN⟩
          case measure => simp [intOf]; omega
      · have h1 : (x0 == 0) = false := by simpa using h0
        have hu2 : u1 ≤ t' + 22 := by omega
        skip
        have p0 := H.out.loc.cell 0 _ rfl
        go_upto_region 8 with fail
        clear p0
        have p0 := H.out.loc.cell 0 _ rfl
        have p1 := H.out.loc.cell 1 _ rfl
        have p2 := H.out.loc.cell 2 _ rfl
        have p3 := H.out.loc.cell 3 _ rfl
        have hown := H.out.st.own
        have hsz := H.out.st.gr.size
        go_wp2_with (at_builtin; refine wpList_append_own _ rfl _ _ 37 rfl w.heap.size 25 i0 (.agg #[.int .i64 0, .int .i64 0, .int .i64 0, .int .i64 0]) 4 32 Tryd.underlying37 hi hz0 hz1 hz2 rfl (by decide) _ _ _ rfl (hown.alloc _) ⟨_, 0, none⟩ 1 1 [.int .i64 x0, .int .i64 x1, .int .i64 x2, .int .i64 x3] rfl rfl (cells_new3 _ _ _) (one_ins ⟨x0, x1, x2, x3⟩) (by unfold maxLen; omega) (by omega) (by simp; omega) ?_; intro v' w4 hown1 hgrow1 _)
        obtain ⟨A6, c6, rfl, _, _⟩ := own_form hown1
        obtain ⟨g6, rfl⟩ := own_head hown1 (by omega)
        have hown2 : w4.ownsRow w.heap.size 25 4 (.slice (some ⟨g6, 0, none⟩) (k + 1) c6) (k + 1) (FL (xs ++ [⟨x0, x1, x2, x3⟩])) := by rw [← snoc_ins]; exact hown1
        have HN := Lib.hid ((H.out.st.alloc _).grow hgrow1 hown2)
        clear hown hsz hown1 hgrow1 hown2 H
        go_roundw
        case rel => exact ⟨r - 1, k + 1, g6, c6, u1, _, by first | (go_num; done) | (congr 1; omega), by omega, rfl, by omega, HN⟩
        case measure => simp [intOf]; omega
    · have hr0 : r = 0 := by omega
      subst hr0
      go_wp2_with fail
      refine (pick_any _ g B A n cp zs _ HZ.out H.out.cur (by omega) hn 40 (by omega) (by omega)).mono ?_
      rintro e v2 ⟨sw, rfl, _, _, ⟨u2, hu2, hc⟩, hg⟩
      replace H := Lib.hid (H.out.draw hg hc)
      clear hc hg
      by_cases h0 : sw = 0
      · subst h0
        go_wp2_with fail
        go_ret
        exact ⟨0, gl, c, u2, [], rfl, by omega, by omega, H.out.zero⟩
      have e0 : (sw == 0) = false := by simpa using h0
      by_cases h1 : sw = 1
      · subst h1
        obtain ⟨k0, hk0⟩ : ∃ k0, k0 = k := ⟨_, rfl⟩
        obtain ⟨g0, hg0⟩ : ∃ g0, g0 = gl := ⟨_, rfl⟩
        obtain ⟨c0, hc0⟩ : ∃ c0, c0 = c := ⟨_, rfl⟩
        rw [← hk0, ← hg0, ← hc0] at H
        have hk05 : k0 ≤ 8 := by omega
        have htk0 : u2 ≤ t + 300 := by omega
        rw [← hk0, ← hg0, ← hc0]
        have H0 := H
        obtain ⟨xs0, hxs0⟩ : ∃ xs0, xs0 = xs := ⟨_, rfl⟩
        rw [← hxs0] at H0
        clear H hk0 hg0 hc0 hrk htk hlt hxs0 hu2 h0 e0
        go_wp2_with fail
        go_loopw [3] (fun u3 wr => ∃ (k gl c t' : Nat) (xs : List Ins), u3 = .slice (some ⟨gl, 0, none⟩) k c ∧ k ≤ 18 ∧ t' ≤ t + 300 + 2 * k ∧ Hid (PgSt w wr g B A n cp zs t' (.slice (some ⟨gl, 0, none⟩) k c) k xs)) (fun u3 _ => 18 - lenP u3)
        case atStart => exact ⟨k0, g0, c0, u2, xs0, rfl, by omega, by omega, H0⟩
        case round =>
          clear H0
          obtain ⟨k, gl, c, t', xs, rfl, hk, htk, H⟩ := hrel
          go_wp2_with fail
          refine (pick_any _ g B A n cp zs _ HZ.out H.out.cur (by omega) hn 2 (by omega) (by omega)).mono ?_
          rintro e v3 ⟨s, rfl, hs0, hs1, ⟨u3, hu3, hc⟩, hg⟩
          replace H := Lib.hid (H.out.draw hg hc)
          clear hc hg
          have hws : IntKind.i64.wrap (16 + s) = 16 + s := IntWalk.i64_in _ (by omega)
          by_cases hlt : (k : Int) < 16 + s
          · skip
            have hown := H.out.own
            have hsz := H.out.gr.size
            go_wp2_with (at_builtin; refine wpList_append_own _ rfl _ _ 37 rfl w.heap.size 25 i0 (.agg #[.int .i64 0, .int .i64 0, .int .i64 0, .int .i64 0]) 4 32 Tryd.underlying37 hi hz0 hz1 hz2 rfl (by decide) _ _ _ rfl (hown.alloc _) ⟨_, 0, none⟩ 1 1 [.int .i64 2, .int .i64 0, .int .i64 0, .int .i64 0] rfl rfl (cells_new3 _ _ _) (one_ins ⟨2, 0, 0, 0⟩) (by unfold maxLen; omega) (by omega) (by simp; omega) ?_; intro v' w4 hown1 hgrow1 _)
            obtain ⟨A6, c6, rfl, _, _⟩ := own_form hown1
            obtain ⟨g6, rfl⟩ := own_head hown1 (by omega)
            have hown2 : w4.ownsRow w.heap.size 25 4 (.slice (some ⟨g6, 0, none⟩) (k + 1) c6) (k + 1) (FL (xs ++ [⟨2, 0, 0, 0⟩])) := by rw [← snoc_ins]; exact hown1
            have HN := Lib.hid ((H.out.alloc _).grow hgrow1 hown2)
            clear hown hsz hown1 hgrow1 hown2 H
            go_roundw
            case rel => exact ⟨k + 1, g6, c6, u3, _, rfl, by omega, by omega, HN⟩
            case measure => simp [lenP]; omega
          · go_wp2_with fail
            go_ret
            exact ⟨k, gl, c, u3, xs, rfl, by omega, by omega, H.out⟩
      have e1 : (sw == 1) = false := by simpa using h1
      go_wp2_with fail
      go_ret
      exact ⟨k, gl, c, u2, xs, rfl, by omega, by omega, H.out⟩
end Go.Proofs.YtfdbnolifimnhabDoor.Draw
