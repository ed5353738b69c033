/- What the draw of registers answers. -/
import Derived.Test.YtfdbnolifimnhabDoorDrPgm
import Derived.Deep.RegionLaw
import Derived.Deep.RegionWith
namespace Go.Proofs.YtfdbnolifimnhabDoor.Draw
open Go Go.RowKit Go.Proofs.YtfdbnolifimnhabDoor.Mem Go.Proofs.YtfdbnolifimnhabDoor.Own Go.Proofs.YtfdbnolifimnhabDoor.L3
set_option linter.unusedVariables false
theorem below_dr3 (w : World) : Below w.heap.size w w.drew := ⟨rfl, rfl, rfl, Nat.le_refl _, fun _ _ => rfl⟩
/-- append onto an own row that may be nil, as a step -/
theorem step_own3 {P : Program} {w : World} {ops : Array Oper} {o : Oper} {a : Act} {K : Act → World → Prop} {Q : Exit → Act → World → Prop} {E : Prop} (hgd : o.guard = none) (s x : Operand) (t : TypeId)
    (ho : o.op = .call { callee := .builtin .append, args := #[s, x], argTypes := #[t, t] })
    (base : Nat) (e : TypeId) (i : TypeInfo) (z : Value) (size bytes : Nat) (ht : P.underlying t = some (.slice e)) (hi : P.info? e = some i) (hz : i.zero = some z)
    (hsize : i.size = size) (hby : i.bytes = bytes) (hzs : z.cells.size = size) (hsz : 0 < size)
    (v : Value) (n : Nat) (xs : List Value) (hs : a.eval s = v) (hown : w.ownsRow base e size v n xs)
    (ad : Addr) (m c : Nat) (news : List Value) (hx : a.eval x = .slice (some ad) m c) (hl : news.length = m * size) (hnews : ∀ j u, news[j]? = some u → w.cell? (ad.add j) = some u) (h1 : ∀ u ∈ news, u.oneCell' = true) (hm : 0 < m)
    (h63 : n + m ≤ maxLen) (hbytes : (n + m) * bytes ≤ 140737488355328) (hbase : base ≤ w.heap.size)
    (h : ∀ g cap w', w'.ownsRow base e size (.slice (some ⟨g, 0, none⟩) (n + m) cap) (n + m) (xs ++ news) → w.grownBy w' v.ownBlock → K (a.put o.dst (.slice (some ⟨g, 0, none⟩) (n + m) cap)) w') :
    if Region.wanted o (yielded ops a.tmps) = true then Oper.wp P o a w K Q else E := by
  have hw : Region.wanted o (yielded ops a.tmps) = true := by simp [Region.wanted, hgd]
  rw [if_pos hw]
  refine wp_append_own w s x t ho base e i z size bytes ht hi hz hsize hby hzs hsz v n xs hs hown ad m c news hx hl hnews h1 h63 hbytes hbase fun v' w' h2 h3 h4 => ?_
  rcases h2.2 with ⟨_, h0⟩ | ⟨g, cap, cur, rfl, _⟩
  · omega
  · exact h g cap w' h2 h3
/-- the draw's state -/
structure RgSt (w wr : World) (g B : Nat) (A : Option Addr) (n cp : Nat) (zs : List Int) (t R T : Nat) (z cs : Array Value) (v : Value) (m : Nat) (L : List Int) : Prop where
  st : DSt w wr g B A n cp zs t 40 R T z cs
  own : wr.ownsRow w.heap.size 3 1 v m (I L)
section
variable {w wr w' : World} {g B n cp t t' m m' R T j : Nat} {A : Option Addr} {zs L L' : List Int} {v v' : Value} {z cs : Array Value}
theorem RgSt.draw (h : RgSt w wr g B A n cp zs t R T z cs v m L) (hg : wr.grownBy w' (some g)) (hc : Cur w' g B A n cp zs t') : RgSt w w' g B A n cp zs t' R T z cs v m L :=
  ⟨h.st.draw hg hc, own_cur h.own hg h.st.hg⟩
theorem RgSt.below (h : RgSt w wr g B A n cp zs t R T z cs v m L) (hb : Below wr.heap.size wr w') : RgSt w w' g B A n cp zs t R T z cs v m L :=
  ⟨h.st.below hb, own_below h.own hb⟩
theorem RgSt.alloc (h : RgSt w wr g B A n cp zs t R T z cs v m L) (o : Obj) : RgSt w (wr.alloc o) g B A n cp zs t R T z cs v m L := h.below (below_more (Below.refl _ _) o)
theorem RgSt.far (h : RgSt w wr g B A n cp zs t R T z cs v m L) {q : Nat} {c0 : Array Value} (hb : Blk wr q 40 c0) : v.ownBlock ≠ some q := fun e => by
  obtain ⟨cur, hh⟩ := block_of_own h.own e
  unfold Blk at hb
  rw [hb] at hh
  simp at hh
theorem RgSt.set (h : RgSt w wr g B A n cp zs t R T z cs v m L) (j : Nat) (u : Value) : RgSt w (wr.setCell ⟨T, j, none⟩ u) g B A n cp zs t R T z (cs.setIfInBounds j u) v m L :=
  ⟨h.st.set j u, own_set h.own u (h.far h.st.loc)⟩
theorem RgSt.put (h : RgSt w wr g B A n cp zs t R T z cs v m L) (j : Nat) (u : Value) : RgSt w (wr.setCell ⟨R, j, none⟩ u) g B A n cp zs t R T (z.setIfInBounds j u) cs v m L :=
  ⟨h.st.put j u, own_set h.own u (h.far h.st.res)⟩
theorem blk_row {w w' : World} {b : Nat} {row : Option Nat} {ty : TypeId} {cs : Array Value} (h : Blk w b ty cs) (hg : w.grownBy w' row) (hne : row ≠ some b) : Blk w' b ty cs :=
  (hg.block b h.lt (fun e => hne e.symm)).trans h
theorem RgSt.grow (h : RgSt w wr g B A n cp zs t R T z cs v m L) (hg : wr.grownBy w' v.ownBlock) (ho : w'.ownsRow w.heap.size 3 1 v' m' (I L')) : RgSt w w' g B A n cp zs t R T z cs v' m' L' :=
  ⟨⟨h.st.cur.grown hg (fun r e => Nat.lt_of_lt_of_le h.st.hg (h.own.lt r e).1), grown_over h.st.gr hg (fun r e => (h.own.lt r e).1), blk_row h.st.res hg (h.far h.st.res), blk_row h.st.loc hg (h.far h.st.loc), h.st.hR, h.st.hT, h.st.hne, h.st.hg⟩, ho⟩
theorem RgSt.cellAt (h : RgSt w wr g B A n cp zs t R T z cs v m L) (u : Value) (ho : wr.ownsRow w.heap.size 3 1 u m' (I L')) (hg : wr.grownBy wr u.ownBlock) : RgSt w wr g B A n cp zs t R T z cs u m' L' := ⟨h.st, ho⟩
end
/-- at most four registers have been drawn -/
def RegDrawn (w : World) (g B : Nat) (A : Option Addr) (n cp : Nat) (zs : List Int) (t : Nat) (e : Ending) (w' : World) : Prop :=
  ∃ (A1 : Option Addr) (k c t' : Nat) (L : List Int) (p : Int) (zo st : Bool), e = .returned (.agg #[.slice A1 k c, .int .i64 p, .bool zo, .bool st]) ∧ k ≤ 4 ∧ t' ≤ t + 100 ∧ Cur w' g B A n cp zs t' ∧ w.grownBy w' (some g) ∧ w'.ownsRow w.heap.size 3 1 (.slice A1 k c) k (I L)
set_option maxRecDepth 100000 in
set_option maxHeartbeats 2000000 in
theorem registers_any (w : World) (g B : Nat) (A : Option Addr) (n cp : Nat) (zs : List Int) (t : Nat) (hz : ∀ z ∈ zs, 0 ≤ z ∧ z ≤ 255) (hc : Cur w g B A n cp zs t) (ht : t ≤ 850000) (hn : n ≤ 1000000) (P : Option Addr) (m c0 : Nat) (hm : m ≤ 18) :
    Calls Tryd.prog 52 #[.pointer (some ⟨g, 0, none⟩), .slice P m c0] w (RegDrawn w g B A n cp zs t) := by
  obtain ⟨i0, hi, hz0, hz1, hz2⟩ := info_parts intInfo
  have HZ := Lib.hid hz
  have hgl := hc.lt
  have HC := Lib.hid (hc.alloc (.cells #[.slice none 0 0, .int .i64 0, .bool false, .bool false] 40))
  have HG := Lib.hid (World.grownBy.refl (w.alloc (.cells #[.slice none 0 0, .int .i64 0, .bool false, .bool false] 40)) (some g))
  have hwm : IntKind.i64.wrap ((m : Int) + 1) = (m : Int) + 1 := IntWalk.i64_in _ (by omega)
  clear hz hc
  go_enter Tryd.func52, Tryd.ntmps52
  go_wp2_with fail
  refine (pick_any _ g B A n cp zs _ HZ.out HC.out (by omega) hn ((m : Int) + 1) (by omega) (by omega)).mono ?_
  rintro e w1 ⟨x, rfl, hx0, hx1, ⟨a1, ha1, hc⟩, hg⟩
  replace HC := Lib.hid hc
  replace HG := Lib.hid (grown_trans' HG.out hg)
  clear hc hg
  go_wp2_with fail
  refine (one_any _ g B A n cp zs _ HZ.out HC.out (by omega) hn 2 (by omega) (by omega)).mono ?_
  rintro e w2 ⟨y, rfl, ⟨a2, ha2, hc⟩, hg⟩
  replace HC := Lib.hid hc
  replace HG := Lib.hid (grown_trans' HG.out hg)
  clear hc hg
  go_wp2_with fail
  refine (one_any _ g B A n cp zs _ HZ.out HC.out (by omega) hn 12 (by omega) (by omega)).mono ?_
  rintro e w3 ⟨s, rfl, ⟨a3, ha3, hc⟩, hg⟩
  replace HC := Lib.hid hc
  replace HG := Lib.hid (grown_trans' HG.out hg)
  clear hc hg
  have H := Lib.hid (RgSt.mk (v := .slice none 0 0) (m := 0) (L := []) (DSt.start HC.out HG.out hgl #[.slice none 0 0, .int .i64 x, .bool y, .bool s]) ⟨rfl, .inl ⟨rfl, rfl⟩⟩)
  obtain ⟨T, hT⟩ : ∃ T, w3.heap.size = T := ⟨_, rfl⟩
  obtain ⟨wa, hwa⟩ : ∃ wa, w3.alloc (.cells #[.slice none 0 0, .int .i64 x, .bool y, .bool s] 40) = wa := ⟨_, rfl⟩
  rw [hwa, hT] at H
  have HW := Lib.hid hwa
  have HT := Lib.hid hT
  clear HC HG hwa hT
  go_upto_region 2 with fail
  rw [HW.out, HT.out]
  clear HW HT
  by_cases hxm : x = m
  · subst hxm
    have k1 := H.out.st.loc.cell 1 _ rfl
    go_wp2_with fail
    refine (one_any _ g B A n cp zs _ HZ.out H.out.st.cur (by omega) hn 8 (by omega) (by omega)).mono ?_
    rintro e v4 ⟨b4, rfl, ⟨u4, hu4, hc⟩, hg⟩
    replace H := Lib.hid (H.out.draw hg hc)
    clear hc hg
    clear k1
    cases b4 with
    | true =>
      go_upto_region 4 with fail
      have H0 := H
      clear H
      go_wp2_with fail
      go_loopw [6] (fun i wr => ∃ (k c t' : Nat) (A1 : Option Addr) (L : List Int), i = .int .i64 k ∧ k ≤ 4 ∧ t' ≤ t + 10 + 2 * k ∧ Hid (RgSt w wr g B A n cp zs t' w.heap.size T #[.slice none 0 0, .int .i64 0, .bool false, .bool false] #[.slice A1 k c, .int .i64 m, .bool y, .bool s] (.slice A1 k c) k L)) (fun i _ => 4 - (intOf i).toNat)
      case atStart => exact ⟨0, 0, u4, none, [], rfl, by omega, by omega, H0⟩
      case round =>
        clear H0
        obtain ⟨k, c, t', A1, L, rfl, hk, ht', H⟩ := hrel
        by_cases hlt : k < 4
        · have H2 := Lib.hid (H.out.below (below_dr3 wr))
          have HAM := Lib.hid (among_list wr.drew g B A n cp zs t' HZ.out H2.out.st.cur (by omega) hn [0, 1, 2, 255, 4096, 32768, 65535] #[.int .i64 0, .int .i64 1, .int .i64 2, .int .i64 255, .int .i64 4096, .int .i64 32768, .int .i64 65535] rfl 3 7 rfl (by omega) (by omega))
          have hsz := H2.out.st.gr.size
          have c0 : wr.cell? _ = some (.slice A1 k c) := H.out.st.loc.cell 0 _ rfl
          have d0 : wr.drew.cell? _ = some (.slice A1 k c) := H.out.st.loc.cell 0 _ rfl
          have e0 : (wr.drew.alloc (.cells #[.int .i64 0, .int .i64 1, .int .i64 2, .int .i64 255, .int .i64 4096, .int .i64 32768, .int .i64 65535] 3)).cell? _ = some (.slice A1 k c) := ((H2.out.alloc (.cells #[.int .i64 0, .int .i64 1, .int .i64 2, .int .i64 255, .int .i64 4096, .int .i64 32768, .int .i64 65535] 3))).st.loc.cell 0 _ rfl
          have b0 : (wr.alloc (.cells #[.int .i64 0, .int .i64 1, .int .i64 2, .int .i64 255, .int .i64 4096, .int .i64 32768, .int .i64 65535] 3)).cell? _ = some (.slice A1 k c) := ((H.out.alloc (.cells #[.int .i64 0, .int .i64 1, .int .i64 2, .int .i64 255, .int .i64 4096, .int .i64 32768, .int .i64 65535] 3))).st.loc.cell 0 _ rfl
          have hkz : (k : Int) < 4 := by omega
          go_upto_region 7 with fail
          go_region_law (first
            | (refine step_own3 rfl (.tmp 33) (.tmp 37) 38 rfl w.heap.size 3 i0 (.int .i64 0) 1 8 Tryd.underlying38 hi hz0 hz1 hz2 rfl (by decide) (.slice A1 k c) k (I L) (by first | (simp [Act.eval]; done) | simp [Act.eval, Act.put]) (HQ.out.own.alloc (.cells #[.int .i64 xd] 3)) ⟨w2.heap.size, 0, none⟩ 1 1 [.int .i64 xd] (by simp [Act.eval]) rfl (cells_new3 _ _ _) (fun x hx => by simp at hx; subst hx; rfl) (by omega) (by unfold maxLen; omega) (by omega) (Nat.le_trans HQ.out.st.gr.size (alloc_le _ _)) ?_; intro g4 c4 w4 hown4 hgrow4; have hown5 : w4.ownsRow w.heap.size 3 1 (.slice (some ⟨g4, 0, none⟩) (k + 1) c4) (k + 1) (I (L ++ [xd])) := (by simpa [I] using hown4); have HW4 := Lib.hid ((HQ.out.alloc (.cells #[.int .i64 xd] 3)).grow hgrow4 hown5); have c9 := HW4.out.st.loc.cell 0 _ rfl; have f9 := HW4.out.st.loc.free 0; clear hown4 hown5 hgrow4)
            | (go_simp; go_at_call 38; (refine HAM.out.mono ?_); rintro e w2 ⟨xd, rfl, _, ⟨t2, ht2, hc2⟩, hg2⟩; have HQ := Lib.hid (H2.out.draw hg2 hc2); have c2 : w2.cell? _ = some (.slice A1 k c) := HQ.out.st.loc.cell 0 _ rfl; have c3 : (w2.alloc (.cells #[.int .i64 xd] 3)).cell? _ = some (.slice A1 k c) := (HQ.out.alloc (.cells #[.int .i64 xd] 3)).st.loc.cell 0 _ rfl; clear hc2 hg2)
            | fail)
          all_goals
            have HN : Hid (RgSt w (w4.setCell ⟨T, 0, none⟩ (.slice (some ⟨g4, 0, none⟩) (k + 1) c4)) g B A n cp zs t2 w.heap.size T #[.slice none 0 0, .int .i64 0, .bool false, .bool false] #[.slice (some ⟨g4, 0, none⟩) (k + 1) c4, .int .i64 m, .bool y, .bool s] (.slice (some ⟨g4, 0, none⟩) (k + 1) c4) (k + 1) (L ++ [xd])) := Lib.hid (HW4.out.set 0 _)
            clear HW4 HQ c0 d0 e0 b0 c2 c3 c9 f9 H H2 HAM
            go_wp2_with fail
            go_roundw
            case rel => exact ⟨k + 1, c4, t2, _, _, by go_num, by omega, by omega, HN⟩
            case measure => simp [intOf]; omega
        · have hk4 : k = 4 := by omega
          subst hk4
          go_wp2_with fail
          refine (pick_any _ g B A n cp zs _ HZ.out H.out.st.cur (by omega) hn 40 (by omega) (by omega)).mono ?_
          rintro e v9 ⟨sw, rfl, hsw0, hsw1, ⟨u9, hu9, hc⟩, hg⟩
          replace H := Lib.hid (H.out.draw hg hc)
          clear hc hg
          obtain ⟨gr, hgr⟩ : ∃ gr, A1 = some ⟨gr, 0, none⟩ := own_head H.out.own (by omega)
          subst hgr
          have hl4 : L.length = 4 := by have := H.out.own.1; simpa [I] using this
          by_cases h0 : sw = 0
          · subst h0
            have H2 := Lib.hid (H.out.below (below_dr3 v9))
            have HAM := Lib.hid (among_list v9.drew g B A n cp zs u9 HZ.out H2.out.st.cur (by omega) hn [-1, 65536] #[.int .i64 (-1), .int .i64 65536] rfl 3 2 rfl (by omega) (by omega))
            have c0 : v9.cell? _ = some (.slice (some ⟨gr, 0, none⟩) 4 c) := H.out.st.loc.cell 0 _ rfl
            have d0 : v9.drew.cell? _ = some (.slice (some ⟨gr, 0, none⟩) 4 c) := H.out.st.loc.cell 0 _ rfl
            have e0 : (v9.drew.alloc (.cells #[.int .i64 (-1), .int .i64 65536] 3)).cell? _ = some (.slice (some ⟨gr, 0, none⟩) 4 c) := ((H2.out.alloc (.cells #[.int .i64 (-1), .int .i64 65536] 3))).st.loc.cell 0 _ rfl
            have b0 : (v9.alloc (.cells #[.int .i64 (-1), .int .i64 65536] 3)).cell? _ = some (.slice (some ⟨gr, 0, none⟩) 4 c) := ((H.out.alloc (.cells #[.int .i64 (-1), .int .i64 65536] 3))).st.loc.cell 0 _ rfl
            obtain ⟨l0, hl0⟩ : ∃ l0, L[0]? = some l0 := ⟨_, List.getElem?_eq_getElem (by omega)⟩
            have HL0 := Lib.hid hl0
            clear hl0
            go_upto_region 10 with fail
            go_region_law (first | (go_simp; go_at_call 38; (refine HAM.out.mono ?_); rintro e w2 ⟨xd, rfl, _, ⟨t2, ht2, hc2⟩, hg2⟩; have HQ := Lib.hid (H2.out.draw hg2 hc2); have c2 : w2.cell? _ = some (.slice (some ⟨gr, 0, none⟩) 4 c) := HQ.out.st.loc.cell 0 _ rfl; have fz := HQ.out.own.frozenAt 0; have cz := (HQ.out.own.cellAt 0 (by omega)).trans (I_at HL0.out); clear hc2 hg2) | fail)
            all_goals
              have hst := HQ.out.own.stored 0 (.int .i64 xd)
              rw [I_set] at hst
              have H3 := Lib.hid (HQ.out.grow hst.2 hst.1)
              clear hst H HQ H2 HAM c0 d0 e0 b0 c2 fz cz
              have H := H3
              clear H3
              have k0 := H.out.st.loc.cell 0 _ rfl
              have q0 := H.out.st.res.cell 0 _ rfl
              have f0 := H.out.st.res.free 0
              have k1 := H.out.st.loc.cell 1 _ rfl
              have q1 := H.out.st.res.cell 1 _ rfl
              have f1 := H.out.st.res.free 1
              have k2 := H.out.st.loc.cell 2 _ rfl
              have q2 := H.out.st.res.cell 2 _ rfl
              have f2 := H.out.st.res.free 2
              have k3 := H.out.st.loc.cell 3 _ rfl
              have q3 := H.out.st.res.cell 3 _ rfl
              have f3 := H.out.st.res.free 3
              go_wp2_with fail
              replace H := Lib.hid ((((H.out.put 0 (.slice (some ⟨gr, 0, none⟩) 4 c)).put 1 (.int .i64 m)).put 2 (.bool y)).put 3 (.bool s))
              clear k0 k1 k2 k3 q0 f0 q1 f1 q2 f2 q3 f3
              revert H
              generalize (World.setCell (World.setCell (World.setCell (World.setCell _ _ _) _ _) _ _) _ _) = wz
              intro H
              have z0 := H.out.st.res.cell 0 _ rfl
              have z1 := H.out.st.res.cell 1 _ rfl
              have z2 := H.out.st.res.cell 2 _ rfl
              have z3 := H.out.st.res.cell 3 _ rfl
              exact bodyPost_ret (v := .agg #[.slice (some ⟨gr, 0, none⟩) 4 c, .int .i64 m, .bool y, .bool s]) (by simp [results, Tryd.results52, go_sem, z0, z1, z2, z3]) rfl ⟨_, 4, _, t2, _, m, y, s, rfl, by omega, by omega, H.out.st.cur, H.out.st.gr, H.out.own⟩
          have e0 : (sw == 0) = false := by simpa using h0
          by_cases h1 : sw = 1
          · subst h1
            clear h0
            have k0 := H.out.st.loc.cell 0 _ rfl
            have f0 := H.out.st.loc.free 0
            have hc4 : 4 ≤ c := by
              obtain ⟨A', c', hv, h1, h2⟩ := own_form H.out.own
              injection hv with e1 e2 e3
              omega
            have hc3 : ¬ (c : Int) < 3 := by omega
            have h3 := own_take H.out.own (k := 3) (by omega)
            rw [show (I L).take 3 = I (L.take 3) by simp [I, List.map_take]] at h3
            go_upto_region 15 with fail
            replace H : Hid (RgSt w (v9.setCell ⟨T, 0, none⟩ (.slice (some ⟨gr, 0, none⟩) 3 c)) g B A n cp zs u9 w.heap.size T #[.slice none 0 0, .int .i64 0, .bool false, .bool false] #[.slice (some ⟨gr, 0, none⟩) 3 c, .int .i64 m, .bool y, .bool s] (.slice (some ⟨gr, 0, none⟩) 3 c) 3 (L.take 3)) := Lib.hid ((RgSt.mk H.out.st h3).set 0 _)
            clear h3 k0 f0 e0
            revert H
            generalize (World.setCell _ _ _) = wx
            intro H
            have k0 := H.out.st.loc.cell 0 _ rfl
            have q0 := H.out.st.res.cell 0 _ rfl
            have f0 := H.out.st.res.free 0
            have k1 := H.out.st.loc.cell 1 _ rfl
            have q1 := H.out.st.res.cell 1 _ rfl
            have f1 := H.out.st.res.free 1
            have k2 := H.out.st.loc.cell 2 _ rfl
            have q2 := H.out.st.res.cell 2 _ rfl
            have f2 := H.out.st.res.free 2
            have k3 := H.out.st.loc.cell 3 _ rfl
            have q3 := H.out.st.res.cell 3 _ rfl
            have f3 := H.out.st.res.free 3
            go_wp2_with fail
            replace H := Lib.hid ((((H.out.put 0 (.slice (some ⟨gr, 0, none⟩) 3 c)).put 1 (.int .i64 m)).put 2 (.bool y)).put 3 (.bool s))
            clear k0 k1 k2 k3 q0 f0 q1 f1 q2 f2 q3 f3
            revert H
            generalize (World.setCell (World.setCell (World.setCell (World.setCell _ _ _) _ _) _ _) _ _) = wz
            intro H
            have z0 := H.out.st.res.cell 0 _ rfl
            have z1 := H.out.st.res.cell 1 _ rfl
            have z2 := H.out.st.res.cell 2 _ rfl
            have z3 := H.out.st.res.cell 3 _ rfl
            exact bodyPost_ret (v := .agg #[.slice (some ⟨gr, 0, none⟩) 3 c, .int .i64 m, .bool y, .bool s]) (by simp [results, Tryd.results52, go_sem, z0, z1, z2, z3]) rfl ⟨_, 3, _, u9, _, m, y, s, rfl, by omega, by omega, H.out.st.cur, H.out.st.gr, H.out.own⟩
          have e1 : (sw == 1) = false := by simpa using h1
          by_cases h2 : sw = 2
          · subst h2
            clear h0 h1
            have k1 := H.out.st.loc.cell 1 _ rfl
            have f1 := H.out.st.loc.free 1
            go_upto_region 15 with fail
            replace H : Hid (RgSt w (v9.setCell ⟨T, 1, none⟩ (.int .i64 (-1))) g B A n cp zs u9 w.heap.size T #[.slice none 0 0, .int .i64 0, .bool false, .bool false] #[.slice (some ⟨gr, 0, none⟩) 4 c, .int .i64 (-1), .bool y, .bool s] (.slice (some ⟨gr, 0, none⟩) 4 c) 4 L) := Lib.hid (H.out.set 1 _)
            clear k1 f1 e0 e1
            revert H
            generalize (World.setCell _ _ _) = wx
            intro H
            have k0 := H.out.st.loc.cell 0 _ rfl
            have q0 := H.out.st.res.cell 0 _ rfl
            have f0 := H.out.st.res.free 0
            have k1 := H.out.st.loc.cell 1 _ rfl
            have q1 := H.out.st.res.cell 1 _ rfl
            have f1 := H.out.st.res.free 1
            have k2 := H.out.st.loc.cell 2 _ rfl
            have q2 := H.out.st.res.cell 2 _ rfl
            have f2 := H.out.st.res.free 2
            have k3 := H.out.st.loc.cell 3 _ rfl
            have q3 := H.out.st.res.cell 3 _ rfl
            have f3 := H.out.st.res.free 3
            go_wp2_with fail
            replace H := Lib.hid ((((H.out.put 0 (.slice (some ⟨gr, 0, none⟩) 4 c)).put 1 (.int .i64 (-1))).put 2 (.bool y)).put 3 (.bool s))
            clear k0 k1 k2 k3 q0 f0 q1 f1 q2 f2 q3 f3
            revert H
            generalize (World.setCell (World.setCell (World.setCell (World.setCell _ _ _) _ _) _ _) _ _) = wz
            intro H
            have z0 := H.out.st.res.cell 0 _ rfl
            have z1 := H.out.st.res.cell 1 _ rfl
            have z2 := H.out.st.res.cell 2 _ rfl
            have z3 := H.out.st.res.cell 3 _ rfl
            exact bodyPost_ret (v := .agg #[.slice (some ⟨gr, 0, none⟩) 4 c, .int .i64 (-1), .bool y, .bool s]) (by simp [results, Tryd.results52, go_sem, z0, z1, z2, z3]) rfl ⟨_, 4, _, u9, _, (-1), y, s, rfl, by omega, by omega, H.out.st.cur, H.out.st.gr, H.out.own⟩
          have e2 : (sw == 2) = false := by simpa using h2
          go_upto_region 15 with fail
          clear e0 e1 e2 h0 h1 h2
          have k0 := H.out.st.loc.cell 0 _ rfl
          have q0 := H.out.st.res.cell 0 _ rfl
          have f0 := H.out.st.res.free 0
          have k1 := H.out.st.loc.cell 1 _ rfl
          have q1 := H.out.st.res.cell 1 _ rfl
          have f1 := H.out.st.res.free 1
          have k2 := H.out.st.loc.cell 2 _ rfl
          have q2 := H.out.st.res.cell 2 _ rfl
          have f2 := H.out.st.res.free 2
          have k3 := H.out.st.loc.cell 3 _ rfl
          have q3 := H.out.st.res.cell 3 _ rfl
          have f3 := H.out.st.res.free 3
          go_wp2_with fail
          replace H := Lib.hid ((((H.out.put 0 (.slice (some ⟨gr, 0, none⟩) 4 c)).put 1 (.int .i64 m)).put 2 (.bool y)).put 3 (.bool s))
          clear k0 k1 k2 k3 q0 f0 q1 f1 q2 f2 q3 f3
          revert H
          generalize (World.setCell (World.setCell (World.setCell (World.setCell _ _ _) _ _) _ _) _ _) = wz
          intro H
          have z0 := H.out.st.res.cell 0 _ rfl
          have z1 := H.out.st.res.cell 1 _ rfl
          have z2 := H.out.st.res.cell 2 _ rfl
          have z3 := H.out.st.res.cell 3 _ rfl
          exact bodyPost_ret (v := .agg #[.slice (some ⟨gr, 0, none⟩) 4 c, .int .i64 m, .bool y, .bool s]) (by simp [results, Tryd.results52, go_sem, z0, z1, z2, z3]) rfl ⟨_, 4, _, u9, _, m, y, s, rfl, by omega, by omega, H.out.st.cur, H.out.st.gr, H.out.own⟩
    | false =>
      have k1 := H.out.st.loc.cell 1 _ rfl
      have f1 := H.out.st.loc.free 1
      go_upto_region 4 with fail
      replace H : Hid (RgSt w (v4.setCell ⟨T, 1, none⟩ (.int .i64 0)) g B A n cp zs u4 w.heap.size T #[.slice none 0 0, .int .i64 0, .bool false, .bool false] #[.slice none 0 0, .int .i64 0, .bool y, .bool s] (.slice none 0 0) 0 []) := Lib.hid (H.out.set 1 _)
      clear k1 f1
      revert H
      generalize (World.setCell _ _ _) = wy
      intro H
      have H0 := H
      clear H
      go_wp2_with fail
      go_loopw [6] (fun i wr => ∃ (k c t' : Nat) (A1 : Option Addr) (L : List Int), i = .int .i64 k ∧ k ≤ 4 ∧ t' ≤ t + 10 + 2 * k ∧ Hid (RgSt w wr g B A n cp zs t' w.heap.size T #[.slice none 0 0, .int .i64 0, .bool false, .bool false] #[.slice A1 k c, .int .i64 0, .bool y, .bool s] (.slice A1 k c) k L)) (fun i _ => 4 - (intOf i).toNat)
      case atStart => exact ⟨0, 0, u4, none, [], rfl, by omega, by omega, H0⟩
      case round =>
        clear H0
        obtain ⟨k, c, t', A1, L, rfl, hk, ht', H⟩ := hrel
        by_cases hlt : k < 4
        · have H2 := Lib.hid (H.out.below (below_dr3 wr))
          have HAM := Lib.hid (among_list wr.drew g B A n cp zs t' HZ.out H2.out.st.cur (by omega) hn [0, 1, 2, 255, 4096, 32768, 65535] #[.int .i64 0, .int .i64 1, .int .i64 2, .int .i64 255, .int .i64 4096, .int .i64 32768, .int .i64 65535] rfl 3 7 rfl (by omega) (by omega))
          have hsz := H2.out.st.gr.size
          have c0 : wr.cell? _ = some (.slice A1 k c) := H.out.st.loc.cell 0 _ rfl
          have d0 : wr.drew.cell? _ = some (.slice A1 k c) := H.out.st.loc.cell 0 _ rfl
          have e0 : (wr.drew.alloc (.cells #[.int .i64 0, .int .i64 1, .int .i64 2, .int .i64 255, .int .i64 4096, .int .i64 32768, .int .i64 65535] 3)).cell? _ = some (.slice A1 k c) := ((H2.out.alloc (.cells #[.int .i64 0, .int .i64 1, .int .i64 2, .int .i64 255, .int .i64 4096, .int .i64 32768, .int .i64 65535] 3))).st.loc.cell 0 _ rfl
          have b0 : (wr.alloc (.cells #[.int .i64 0, .int .i64 1, .int .i64 2, .int .i64 255, .int .i64 4096, .int .i64 32768, .int .i64 65535] 3)).cell? _ = some (.slice A1 k c) := ((H.out.alloc (.cells #[.int .i64 0, .int .i64 1, .int .i64 2, .int .i64 255, .int .i64 4096, .int .i64 32768, .int .i64 65535] 3))).st.loc.cell 0 _ rfl
          have hkz : (k : Int) < 4 := by omega
          go_upto_region 7 with fail
          go_region_law (first
            | (refine step_own3 rfl (.tmp 33) (.tmp 37) 38 rfl w.heap.size 3 i0 (.int .i64 0) 1 8 Tryd.underlying38 hi hz0 hz1 hz2 rfl (by decide) (.slice A1 k c) k (I L) (by first | (simp [Act.eval]; done) | simp [Act.eval, Act.put]) (HQ.out.own.alloc (.cells #[.int .i64 xd] 3)) ⟨w2.heap.size, 0, none⟩ 1 1 [.int .i64 xd] (by simp [Act.eval]) rfl (cells_new3 _ _ _) (fun x hx => by simp at hx; subst hx; rfl) (by omega) (by unfold maxLen; omega) (by omega) (Nat.le_trans HQ.out.st.gr.size (alloc_le _ _)) ?_; intro g4 c4 w4 hown4 hgrow4; have hown5 : w4.ownsRow w.heap.size 3 1 (.slice (some ⟨g4, 0, none⟩) (k + 1) c4) (k + 1) (I (L ++ [xd])) := (by simpa [I] using hown4); have HW4 := Lib.hid ((HQ.out.alloc (.cells #[.int .i64 xd] 3)).grow hgrow4 hown5); have c9 := HW4.out.st.loc.cell 0 _ rfl; have f9 := HW4.out.st.loc.free 0; clear hown4 hown5 hgrow4)
            | (go_simp; go_at_call 38; (refine HAM.out.mono ?_); rintro e w2 ⟨xd, rfl, _, ⟨t2, ht2, hc2⟩, hg2⟩; have HQ := Lib.hid (H2.out.draw hg2 hc2); have c2 : w2.cell? _ = some (.slice A1 k c) := HQ.out.st.loc.cell 0 _ rfl; have c3 : (w2.alloc (.cells #[.int .i64 xd] 3)).cell? _ = some (.slice A1 k c) := (HQ.out.alloc (.cells #[.int .i64 xd] 3)).st.loc.cell 0 _ rfl; clear hc2 hg2)
            | fail)
          all_goals
            have HN : Hid (RgSt w (w4.setCell ⟨T, 0, none⟩ (.slice (some ⟨g4, 0, none⟩) (k + 1) c4)) g B A n cp zs t2 w.heap.size T #[.slice none 0 0, .int .i64 0, .bool false, .bool false] #[.slice (some ⟨g4, 0, none⟩) (k + 1) c4, .int .i64 0, .bool y, .bool s] (.slice (some ⟨g4, 0, none⟩) (k + 1) c4) (k + 1) (L ++ [xd])) := Lib.hid (HW4.out.set 0 _)
            clear HW4 HQ c0 d0 e0 b0 c2 c3 c9 f9 H H2 HAM
            go_wp2_with fail
            go_roundw
            case rel => exact ⟨k + 1, c4, t2, _, _, by go_num, by omega, by omega, HN⟩
            case measure => simp [intOf]; omega
        · have hk4 : k = 4 := by omega
          subst hk4
          go_wp2_with fail
          refine (pick_any _ g B A n cp zs _ HZ.out H.out.st.cur (by omega) hn 40 (by omega) (by omega)).mono ?_
          rintro e v9 ⟨sw, rfl, hsw0, hsw1, ⟨u9, hu9, hc⟩, hg⟩
          replace H := Lib.hid (H.out.draw hg hc)
          clear hc hg
          obtain ⟨gr, hgr⟩ : ∃ gr, A1 = some ⟨gr, 0, none⟩ := own_head H.out.own (by omega)
          subst hgr
          have hl4 : L.length = 4 := by have := H.out.own.1; simpa [I] using this
          by_cases h0 : sw = 0
          · subst h0
            have H2 := Lib.hid (H.out.below (below_dr3 v9))
            have HAM := Lib.hid (among_list v9.drew g B A n cp zs u9 HZ.out H2.out.st.cur (by omega) hn [-1, 65536] #[.int .i64 (-1), .int .i64 65536] rfl 3 2 rfl (by omega) (by omega))
            have c0 : v9.cell? _ = some (.slice (some ⟨gr, 0, none⟩) 4 c) := H.out.st.loc.cell 0 _ rfl
            have d0 : v9.drew.cell? _ = some (.slice (some ⟨gr, 0, none⟩) 4 c) := H.out.st.loc.cell 0 _ rfl
            have e0 : (v9.drew.alloc (.cells #[.int .i64 (-1), .int .i64 65536] 3)).cell? _ = some (.slice (some ⟨gr, 0, none⟩) 4 c) := ((H2.out.alloc (.cells #[.int .i64 (-1), .int .i64 65536] 3))).st.loc.cell 0 _ rfl
            have b0 : (v9.alloc (.cells #[.int .i64 (-1), .int .i64 65536] 3)).cell? _ = some (.slice (some ⟨gr, 0, none⟩) 4 c) := ((H.out.alloc (.cells #[.int .i64 (-1), .int .i64 65536] 3))).st.loc.cell 0 _ rfl
            obtain ⟨l0, hl0⟩ : ∃ l0, L[0]? = some l0 := ⟨_, List.getElem?_eq_getElem (by omega)⟩
            have HL0 := Lib.hid hl0
            clear hl0
            go_upto_region 10 with fail
            go_region_law (first | (go_simp; go_at_call 38; (refine HAM.out.mono ?_); rintro e w2 ⟨xd, rfl, _, ⟨t2, ht2, hc2⟩, hg2⟩; have HQ := Lib.hid (H2.out.draw hg2 hc2); have c2 : w2.cell? _ = some (.slice (some ⟨gr, 0, none⟩) 4 c) := HQ.out.st.loc.cell 0 _ rfl; have fz := HQ.out.own.frozenAt 0; have cz := (HQ.out.own.cellAt 0 (by omega)).trans (I_at HL0.out); clear hc2 hg2) | fail)
            all_goals
              have hst := HQ.out.own.stored 0 (.int .i64 xd)
              rw [I_set] at hst
              have H3 := Lib.hid (HQ.out.grow hst.2 hst.1)
              clear hst H HQ H2 HAM c0 d0 e0 b0 c2 fz cz
              have H := H3
              clear H3
              have k0 := H.out.st.loc.cell 0 _ rfl
              have q0 := H.out.st.res.cell 0 _ rfl
              have f0 := H.out.st.res.free 0
              have k1 := H.out.st.loc.cell 1 _ rfl
              have q1 := H.out.st.res.cell 1 _ rfl
              have f1 := H.out.st.res.free 1
              have k2 := H.out.st.loc.cell 2 _ rfl
              have q2 := H.out.st.res.cell 2 _ rfl
              have f2 := H.out.st.res.free 2
              have k3 := H.out.st.loc.cell 3 _ rfl
              have q3 := H.out.st.res.cell 3 _ rfl
              have f3 := H.out.st.res.free 3
              go_wp2_with fail
              replace H := Lib.hid ((((H.out.put 0 (.slice (some ⟨gr, 0, none⟩) 4 c)).put 1 (.int .i64 0)).put 2 (.bool y)).put 3 (.bool s))
              clear k0 k1 k2 k3 q0 f0 q1 f1 q2 f2 q3 f3
              revert H
              generalize (World.setCell (World.setCell (World.setCell (World.setCell _ _ _) _ _) _ _) _ _) = wz
              intro H
              have z0 := H.out.st.res.cell 0 _ rfl
              have z1 := H.out.st.res.cell 1 _ rfl
              have z2 := H.out.st.res.cell 2 _ rfl
              have z3 := H.out.st.res.cell 3 _ rfl
              exact bodyPost_ret (v := .agg #[.slice (some ⟨gr, 0, none⟩) 4 c, .int .i64 0, .bool y, .bool s]) (by simp [results, Tryd.results52, go_sem, z0, z1, z2, z3]) rfl ⟨_, 4, _, t2, _, 0, y, s, rfl, by omega, by omega, H.out.st.cur, H.out.st.gr, H.out.own⟩
          have e0 : (sw == 0) = false := by simpa using h0
          by_cases h1 : sw = 1
          · subst h1
            clear h0
            have k0 := H.out.st.loc.cell 0 _ rfl
            have f0 := H.out.st.loc.free 0
            have hc4 : 4 ≤ c := by
              obtain ⟨A', c', hv, h1, h2⟩ := own_form H.out.own
              injection hv with e1 e2 e3
              omega
            have hc3 : ¬ (c : Int) < 3 := by omega
            have h3 := own_take H.out.own (k := 3) (by omega)
            rw [show (I L).take 3 = I (L.take 3) by simp [I, List.map_take]] at h3
            go_upto_region 15 with fail
            replace H : Hid (RgSt w (v9.setCell ⟨T, 0, none⟩ (.slice (some ⟨gr, 0, none⟩) 3 c)) g B A n cp zs u9 w.heap.size T #[.slice none 0 0, .int .i64 0, .bool false, .bool false] #[.slice (some ⟨gr, 0, none⟩) 3 c, .int .i64 0, .bool y, .bool s] (.slice (some ⟨gr, 0, none⟩) 3 c) 3 (L.take 3)) := Lib.hid ((RgSt.mk H.out.st h3).set 0 _)
            clear h3 k0 f0 e0
            revert H
            generalize (World.setCell _ _ _) = wx
            intro H
            have k0 := H.out.st.loc.cell 0 _ rfl
            have q0 := H.out.st.res.cell 0 _ rfl
            have f0 := H.out.st.res.free 0
            have k1 := H.out.st.loc.cell 1 _ rfl
            have q1 := H.out.st.res.cell 1 _ rfl
            have f1 := H.out.st.res.free 1
            have k2 := H.out.st.loc.cell 2 _ rfl
            have q2 := H.out.st.res.cell 2 _ rfl
            have f2 := H.out.st.res.free 2
            have k3 := H.out.st.loc.cell 3 _ rfl
            have q3 := H.out.st.res.cell 3 _ rfl
            have f3 := H.out.st.res.free 3
            go_wp2_with fail
            replace H := Lib.hid ((((H.out.put 0 (.slice (some ⟨gr, 0, none⟩) 3 c)).put 1 (.int .i64 0)).put 2 (.bool y)).put 3 (.bool s))
            clear k0 k1 k2 k3 q0 f0 q1 f1 q2 f2 q3 f3
            revert H
            generalize (World.setCell (World.setCell (World.setCell (World.setCell _ _ _) _ _) _ _) _ _) = wz
            intro H
            have z0 := H.out.st.res.cell 0 _ rfl
            have z1 := H.out.st.res.cell 1 _ rfl
            have z2 := H.out.st.res.cell 2 _ rfl
            have z3 := H.out.st.res.cell 3 _ rfl
            exact bodyPost_ret (v := .agg #[.slice (some ⟨gr, 0, none⟩) 3 c, .int .i64 0, .bool y, .bool s]) (by simp [results, Tryd.results52, go_sem, z0, z1, z2, z3]) rfl ⟨_, 3, _, u9, _, 0, y, s, rfl, by omega, by omega, H.out.st.cur, H.out.st.gr, H.out.own⟩
          have e1 : (sw == 1) = false := by simpa using h1
          by_cases h2 : sw = 2
          · subst h2
            clear h0 h1
            have k1 := H.out.st.loc.cell 1 _ rfl
            have f1 := H.out.st.loc.free 1
            go_upto_region 15 with fail
            replace H : Hid (RgSt w (v9.setCell ⟨T, 1, none⟩ (.int .i64 (-1))) g B A n cp zs u9 w.heap.size T #[.slice none 0 0, .int .i64 0, .bool false, .bool false] #[.slice (some ⟨gr, 0, none⟩) 4 c, .int .i64 (-1), .bool y, .bool s] (.slice (some ⟨gr, 0, none⟩) 4 c) 4 L) := Lib.hid (H.out.set 1 _)
            clear k1 f1 e0 e1
            revert H
            generalize (World.setCell _ _ _) = wx
            intro H
            have k0 := H.out.st.loc.cell 0 _ rfl
            have q0 := H.out.st.res.cell 0 _ rfl
            have f0 := H.out.st.res.free 0
            have k1 := H.out.st.loc.cell 1 _ rfl
            have q1 := H.out.st.res.cell 1 _ rfl
            have f1 := H.out.st.res.free 1
            have k2 := H.out.st.loc.cell 2 _ rfl
            have q2 := H.out.st.res.cell 2 _ rfl
            have f2 := H.out.st.res.free 2
            have k3 := H.out.st.loc.cell 3 _ rfl
            have q3 := H.out.st.res.cell 3 _ rfl
            have f3 := H.out.st.res.free 3
            go_wp2_with fail
            replace H := Lib.hid ((((H.out.put 0 (.slice (some ⟨gr, 0, none⟩) 4 c)).put 1 (.int .i64 (-1))).put 2 (.bool y)).put 3 (.bool s))
            clear k0 k1 k2 k3 q0 f0 q1 f1 q2 f2 q3 f3
            revert H
            generalize (World.setCell (World.setCell (World.setCell (World.setCell _ _ _) _ _) _ _) _ _) = wz
            intro H
            have z0 := H.out.st.res.cell 0 _ rfl
            have z1 := H.out.st.res.cell 1 _ rfl
            have z2 := H.out.st.res.cell 2 _ rfl
            have z3 := H.out.st.res.cell 3 _ rfl
            exact bodyPost_ret (v := .agg #[.slice (some ⟨gr, 0, none⟩) 4 c, .int .i64 (-1), .bool y, .bool s]) (by simp [results, Tryd.results52, go_sem, z0, z1, z2, z3]) rfl ⟨_, 4, _, u9, _, (-1), y, s, rfl, by omega, by omega, H.out.st.cur, H.out.st.gr, H.out.own⟩
          have e2 : (sw == 2) = false := by simpa using h2
          go_upto_region 15 with fail
          clear e0 e1 e2 h0 h1 h2
          have k0 := H.out.st.loc.cell 0 _ rfl
          have q0 := H.out.st.res.cell 0 _ rfl
          have f0 := H.out.st.res.free 0
          have k1 := H.out.st.loc.cell 1 _ rfl
          have q1 := H.out.st.res.cell 1 _ rfl
          have f1 := H.out.st.res.free 1
          have k2 := H.out.st.loc.cell 2 _ rfl
          have q2 := H.out.st.res.cell 2 _ rfl
          have f2 := H.out.st.res.free 2
          have k3 := H.out.st.loc.cell 3 _ rfl
          have q3 := H.out.st.res.cell 3 _ rfl
          have f3 := H.out.st.res.free 3
          go_wp2_with fail
          replace H := Lib.hid ((((H.out.put 0 (.slice (some ⟨gr, 0, none⟩) 4 c)).put 1 (.int .i64 0)).put 2 (.bool y)).put 3 (.bool s))
          clear k0 k1 k2 k3 q0 f0 q1 f1 q2 f2 q3 f3
          revert H
          generalize (World.setCell (World.setCell (World.setCell (World.setCell _ _ _) _ _) _ _) _ _) = wz
          intro H
          have z0 := H.out.st.res.cell 0 _ rfl
          have z1 := H.out.st.res.cell 1 _ rfl
          have z2 := H.out.st.res.cell 2 _ rfl
          have z3 := H.out.st.res.cell 3 _ rfl
          exact bodyPost_ret (v := .agg #[.slice (some ⟨gr, 0, none⟩) 4 c, .int .i64 0, .bool y, .bool s]) (by simp [results, Tryd.results52, go_sem, z0, z1, z2, z3]) rfl ⟨_, 4, _, u9, _, 0, y, s, rfl, by omega, by omega, H.out.st.cur, H.out.st.gr, H.out.own⟩
  · skip
    have hxf : (x == (m : Int)) = false := by simpa using hxm
    have k1 := H.out.st.loc.cell 1 _ rfl
    go_upto_region 4 with fail
    clear k1
    have H0 := H
    clear H
    go_wp2_with fail
    go_loopw [6] (fun i wr => ∃ (k c t' : Nat) (A1 : Option Addr) (L : List Int), i = .int .i64 k ∧ k ≤ 4 ∧ t' ≤ t + 10 + 2 * k ∧ Hid (RgSt w wr g B A n cp zs t' w.heap.size T #[.slice none 0 0, .int .i64 0, .bool false, .bool false] #[.slice A1 k c, .int .i64 x, .bool y, .bool s] (.slice A1 k c) k L)) (fun i _ => 4 - (intOf i).toNat)
    case atStart => exact ⟨0, 0, a3, none, [], rfl, by omega, by omega, H0⟩
    case round =>
      clear H0
      obtain ⟨k, c, t', A1, L, rfl, hk, ht', H⟩ := hrel
      by_cases hlt : k < 4
      · have H2 := Lib.hid (H.out.below (below_dr3 wr))
        have HAM := Lib.hid (among_list wr.drew g B A n cp zs t' HZ.out H2.out.st.cur (by omega) hn [0, 1, 2, 255, 4096, 32768, 65535] #[.int .i64 0, .int .i64 1, .int .i64 2, .int .i64 255, .int .i64 4096, .int .i64 32768, .int .i64 65535] rfl 3 7 rfl (by omega) (by omega))
        have hsz := H2.out.st.gr.size
        have c0 : wr.cell? _ = some (.slice A1 k c) := H.out.st.loc.cell 0 _ rfl
        have d0 : wr.drew.cell? _ = some (.slice A1 k c) := H.out.st.loc.cell 0 _ rfl
        have e0 : (wr.drew.alloc (.cells #[.int .i64 0, .int .i64 1, .int .i64 2, .int .i64 255, .int .i64 4096, .int .i64 32768, .int .i64 65535] 3)).cell? _ = some (.slice A1 k c) := ((H2.out.alloc (.cells #[.int .i64 0, .int .i64 1, .int .i64 2, .int .i64 255, .int .i64 4096, .int .i64 32768, .int .i64 65535] 3))).st.loc.cell 0 _ rfl
        have b0 : (wr.alloc (.cells #[.int .i64 0, .int .i64 1, .int .i64 2, .int .i64 255, .int .i64 4096, .int .i64 32768, .int .i64 65535] 3)).cell? _ = some (.slice A1 k c) := ((H.out.alloc (.cells #[.int .i64 0, .int .i64 1, .int .i64 2, .int .i64 255, .int .i64 4096, .int .i64 32768, .int .i64 65535] 3))).st.loc.cell 0 _ rfl
        have hkz : (k : Int) < 4 := by omega
        go_upto_region 7 with fail
        go_region_law (first
          | (refine step_own3 rfl (.tmp 33) (.tmp 37) 38 rfl w.heap.size 3 i0 (.int .i64 0) 1 8 Tryd.underlying38 hi hz0 hz1 hz2 rfl (by decide) (.slice A1 k c) k (I L) (by first | (simp [Act.eval]; done) | simp [Act.eval, Act.put]) (HQ.out.own.alloc (.cells #[.int .i64 xd] 3)) ⟨w2.heap.size, 0, none⟩ 1 1 [.int .i64 xd] (by simp [Act.eval]) rfl (cells_new3 _ _ _) (fun x hx => by simp at hx; subst hx; rfl) (by omega) (by unfold maxLen; omega) (by omega) (Nat.le_trans HQ.out.st.gr.size (alloc_le _ _)) ?_; intro g4 c4 w4 hown4 hgrow4; have hown5 : w4.ownsRow w.heap.size 3 1 (.slice (some ⟨g4, 0, none⟩) (k + 1) c4) (k + 1) (I (L ++ [xd])) := (by simpa [I] using hown4); have HW4 := Lib.hid ((HQ.out.alloc (.cells #[.int .i64 xd] 3)).grow hgrow4 hown5); have c9 := HW4.out.st.loc.cell 0 _ rfl; have f9 := HW4.out.st.loc.free 0; clear hown4 hown5 hgrow4)
          | (go_simp; go_at_call 38; (refine HAM.out.mono ?_); rintro e w2 ⟨xd, rfl, _, ⟨t2, ht2, hc2⟩, hg2⟩; have HQ := Lib.hid (H2.out.draw hg2 hc2); have c2 : w2.cell? _ = some (.slice A1 k c) := HQ.out.st.loc.cell 0 _ rfl; have c3 : (w2.alloc (.cells #[.int .i64 xd] 3)).cell? _ = some (.slice A1 k c) := (HQ.out.alloc (.cells #[.int .i64 xd] 3)).st.loc.cell 0 _ rfl; clear hc2 hg2)
          | fail)
        all_goals
          have HN : Hid (RgSt w (w4.setCell ⟨T, 0, none⟩ (.slice (some ⟨g4, 0, none⟩) (k + 1) c4)) g B A n cp zs t2 w.heap.size T #[.slice none 0 0, .int .i64 0, .bool false, .bool false] #[.slice (some ⟨g4, 0, none⟩) (k + 1) c4, .int .i64 x, .bool y, .bool s] (.slice (some ⟨g4, 0, none⟩) (k + 1) c4) (k + 1) (L ++ [xd])) := Lib.hid (HW4.out.set 0 _)
          clear HW4 HQ c0 d0 e0 b0 c2 c3 c9 f9 H H2 HAM
          go_wp2_with fail
          go_roundw
          case rel => exact ⟨k + 1, c4, t2, _, _, by go_num, by omega, by omega, HN⟩
          case measure => simp [intOf]; omega
      · have hk4 : k = 4 := by omega
        subst hk4
        go_wp2_with fail
        refine (pick_any _ g B A n cp zs _ HZ.out H.out.st.cur (by omega) hn 40 (by omega) (by omega)).mono ?_
        rintro e v9 ⟨sw, rfl, hsw0, hsw1, ⟨u9, hu9, hc⟩, hg⟩
        replace H := Lib.hid (H.out.draw hg hc)
        clear hc hg
        obtain ⟨gr, hgr⟩ : ∃ gr, A1 = some ⟨gr, 0, none⟩ := own_head H.out.own (by omega)
        subst hgr
        have hl4 : L.length = 4 := by have := H.out.own.1; simpa [I] using this
        by_cases h0 : sw = 0
        · subst h0
          have H2 := Lib.hid (H.out.below (below_dr3 v9))
          have HAM := Lib.hid (among_list v9.drew g B A n cp zs u9 HZ.out H2.out.st.cur (by omega) hn [-1, 65536] #[.int .i64 (-1), .int .i64 65536] rfl 3 2 rfl (by omega) (by omega))
          have c0 : v9.cell? _ = some (.slice (some ⟨gr, 0, none⟩) 4 c) := H.out.st.loc.cell 0 _ rfl
          have d0 : v9.drew.cell? _ = some (.slice (some ⟨gr, 0, none⟩) 4 c) := H.out.st.loc.cell 0 _ rfl
          have e0 : (v9.drew.alloc (.cells #[.int .i64 (-1), .int .i64 65536] 3)).cell? _ = some (.slice (some ⟨gr, 0, none⟩) 4 c) := ((H2.out.alloc (.cells #[.int .i64 (-1), .int .i64 65536] 3))).st.loc.cell 0 _ rfl
          have b0 : (v9.alloc (.cells #[.int .i64 (-1), .int .i64 65536] 3)).cell? _ = some (.slice (some ⟨gr, 0, none⟩) 4 c) := ((H.out.alloc (.cells #[.int .i64 (-1), .int .i64 65536] 3))).st.loc.cell 0 _ rfl
          obtain ⟨l0, hl0⟩ : ∃ l0, L[0]? = some l0 := ⟨_, List.getElem?_eq_getElem (by omega)⟩
          have HL0 := Lib.hid hl0
          clear hl0
          go_upto_region 10 with fail
          go_region_law (first | (go_simp; go_at_call 38; (refine HAM.out.mono ?_); rintro e w2 ⟨xd, rfl, _, ⟨t2, ht2, hc2⟩, hg2⟩; have HQ := Lib.hid (H2.out.draw hg2 hc2); have c2 : w2.cell? _ = some (.slice (some ⟨gr, 0, none⟩) 4 c) := HQ.out.st.loc.cell 0 _ rfl; have fz := HQ.out.own.frozenAt 0; have cz := (HQ.out.own.cellAt 0 (by omega)).trans (I_at HL0.out); clear hc2 hg2) | fail)
          all_goals
            have hst := HQ.out.own.stored 0 (.int .i64 xd)
            rw [I_set] at hst
            have H3 := Lib.hid (HQ.out.grow hst.2 hst.1)
            clear hst H HQ H2 HAM c0 d0 e0 b0 c2 fz cz
            have H := H3
            clear H3
            have k0 := H.out.st.loc.cell 0 _ rfl
            have q0 := H.out.st.res.cell 0 _ rfl
            have f0 := H.out.st.res.free 0
            have k1 := H.out.st.loc.cell 1 _ rfl
            have q1 := H.out.st.res.cell 1 _ rfl
            have f1 := H.out.st.res.free 1
            have k2 := H.out.st.loc.cell 2 _ rfl
            have q2 := H.out.st.res.cell 2 _ rfl
            have f2 := H.out.st.res.free 2
            have k3 := H.out.st.loc.cell 3 _ rfl
            have q3 := H.out.st.res.cell 3 _ rfl
            have f3 := H.out.st.res.free 3
            go_wp2_with fail
            replace H := Lib.hid ((((H.out.put 0 (.slice (some ⟨gr, 0, none⟩) 4 c)).put 1 (.int .i64 x)).put 2 (.bool y)).put 3 (.bool s))
            clear k0 k1 k2 k3 q0 f0 q1 f1 q2 f2 q3 f3
            revert H
            generalize (World.setCell (World.setCell (World.setCell (World.setCell _ _ _) _ _) _ _) _ _) = wz
            intro H
            have z0 := H.out.st.res.cell 0 _ rfl
            have z1 := H.out.st.res.cell 1 _ rfl
            have z2 := H.out.st.res.cell 2 _ rfl
            have z3 := H.out.st.res.cell 3 _ rfl
            exact bodyPost_ret (v := .agg #[.slice (some ⟨gr, 0, none⟩) 4 c, .int .i64 x, .bool y, .bool s]) (by simp [results, Tryd.results52, go_sem, z0, z1, z2, z3]) rfl ⟨_, 4, _, t2, _, x, y, s, rfl, by omega, by omega, H.out.st.cur, H.out.st.gr, H.out.own⟩
        have e0 : (sw == 0) = false := by simpa using h0
        by_cases h1 : sw = 1
        · subst h1
          clear h0
          have k0 := H.out.st.loc.cell 0 _ rfl
          have f0 := H.out.st.loc.free 0
          have hc4 : 4 ≤ c := by
            obtain ⟨A', c', hv, h1, h2⟩ := own_form H.out.own
            injection hv with e1 e2 e3
            omega
          have hc3 : ¬ (c : Int) < 3 := by omega
          have h3 := own_take H.out.own (k := 3) (by omega)
          rw [show (I L).take 3 = I (L.take 3) by simp [I, List.map_take]] at h3
          go_upto_region 15 with fail
          replace H : Hid (RgSt w (v9.setCell ⟨T, 0, none⟩ (.slice (some ⟨gr, 0, none⟩) 3 c)) g B A n cp zs u9 w.heap.size T #[.slice none 0 0, .int .i64 0, .bool false, .bool false] #[.slice (some ⟨gr, 0, none⟩) 3 c, .int .i64 x, .bool y, .bool s] (.slice (some ⟨gr, 0, none⟩) 3 c) 3 (L.take 3)) := Lib.hid ((RgSt.mk H.out.st h3).set 0 _)
          clear h3 k0 f0 e0
          revert H
          generalize (World.setCell _ _ _) = wx
          intro H
          have k0 := H.out.st.loc.cell 0 _ rfl
          have q0 := H.out.st.res.cell 0 _ rfl
          have f0 := H.out.st.res.free 0
          have k1 := H.out.st.loc.cell 1 _ rfl
          have q1 := H.out.st.res.cell 1 _ rfl
          have f1 := H.out.st.res.free 1
          have k2 := H.out.st.loc.cell 2 _ rfl
          have q2 := H.out.st.res.cell 2 _ rfl
          have f2 := H.out.st.res.free 2
          have k3 := H.out.st.loc.cell 3 _ rfl
          have q3 := H.out.st.res.cell 3 _ rfl
          have f3 := H.out.st.res.free 3
          go_wp2_with fail
          replace H := Lib.hid ((((H.out.put 0 (.slice (some ⟨gr, 0, none⟩) 3 c)).put 1 (.int .i64 x)).put 2 (.bool y)).put 3 (.bool s))
          clear k0 k1 k2 k3 q0 f0 q1 f1 q2 f2 q3 f3
          revert H
          generalize (World.setCell (World.setCell (World.setCell (World.setCell _ _ _) _ _) _ _) _ _) = wz
          intro H
          have z0 := H.out.st.res.cell 0 _ rfl
          have z1 := H.out.st.res.cell 1 _ rfl
          have z2 := H.out.st.res.cell 2 _ rfl
          have z3 := H.out.st.res.cell 3 _ rfl
          exact bodyPost_ret (v := .agg #[.slice (some ⟨gr, 0, none⟩) 3 c, .int .i64 x, .bool y, .bool s]) (by simp [results, Tryd.results52, go_sem, z0, z1, z2, z3]) rfl ⟨_, 3, _, u9, _, x, y, s, rfl, by omega, by omega, H.out.st.cur, H.out.st.gr, H.out.own⟩
        have e1 : (sw == 1) = false := by simpa using h1
        by_cases h2 : sw = 2
        · subst h2
          clear h0 h1
          have k1 := H.out.st.loc.cell 1 _ rfl
          have f1 := H.out.st.loc.free 1
          go_upto_region 15 with fail
          replace H : Hid (RgSt w (v9.setCell ⟨T, 1, none⟩ (.int .i64 (-1))) g B A n cp zs u9 w.heap.size T #[.slice none 0 0, .int .i64 0, .bool false, .bool false] #[.slice (some ⟨gr, 0, none⟩) 4 c, .int .i64 (-1), .bool y, .bool s] (.slice (some ⟨gr, 0, none⟩) 4 c) 4 L) := Lib.hid (H.out.set 1 _)
          clear k1 f1 e0 e1
          revert H
          generalize (World.setCell _ _ _) = wx
          intro H
          have k0 := H.out.st.loc.cell 0 _ rfl
          have q0 := H.out.st.res.cell 0 _ rfl
          have f0 := H.out.st.res.free 0
          have k1 := H.out.st.loc.cell 1 _ rfl
          have q1 := H.out.st.res.cell 1 _ rfl
          have f1 := H.out.st.res.free 1
          have k2 := H.out.st.loc.cell 2 _ rfl
          have q2 := H.out.st.res.cell 2 _ rfl
          have f2 := H.out.st.res.free 2
          have k3 := H.out.st.loc.cell 3 _ rfl
          have q3 := H.out.st.res.cell 3 _ rfl
          have f3 := H.out.st.res.free 3
          go_wp2_with fail
          replace H := Lib.hid ((((H.out.put 0 (.slice (some ⟨gr, 0, none⟩) 4 c)).put 1 (.int .i64 (-1))).put 2 (.bool y)).put 3 (.bool s))
          clear k0 k1 k2 k3 q0 f0 q1 f1 q2 f2 q3 f3
          revert H
          generalize (World.setCell (World.setCell (World.setCell (World.setCell _ _ _) _ _) _ _) _ _) = wz
          intro H
          have z0 := H.out.st.res.cell 0 _ rfl
          have z1 := H.out.st.res.cell 1 _ rfl
          have z2 := H.out.st.res.cell 2 _ rfl
          have z3 := H.out.st.res.cell 3 _ rfl
          exact bodyPost_ret (v := .agg #[.slice (some ⟨gr, 0, none⟩) 4 c, .int .i64 (-1), .bool y, .bool s]) (by simp [results, Tryd.results52, go_sem, z0, z1, z2, z3]) rfl ⟨_, 4, _, u9, _, (-1), y, s, rfl, by omega, by omega, H.out.st.cur, H.out.st.gr, H.out.own⟩
        have e2 : (sw == 2) = false := by simpa using h2
        go_upto_region 15 with fail
        clear e0 e1 e2 h0 h1 h2
        have k0 := H.out.st.loc.cell 0 _ rfl
        have q0 := H.out.st.res.cell 0 _ rfl
        have f0 := H.out.st.res.free 0
        have k1 := H.out.st.loc.cell 1 _ rfl
        have q1 := H.out.st.res.cell 1 _ rfl
        have f1 := H.out.st.res.free 1
        have k2 := H.out.st.loc.cell 2 _ rfl
        have q2 := H.out.st.res.cell 2 _ rfl
        have f2 := H.out.st.res.free 2
        have k3 := H.out.st.loc.cell 3 _ rfl
        have q3 := H.out.st.res.cell 3 _ rfl
        have f3 := H.out.st.res.free 3
        go_wp2_with fail
        replace H := Lib.hid ((((H.out.put 0 (.slice (some ⟨gr, 0, none⟩) 4 c)).put 1 (.int .i64 x)).put 2 (.bool y)).put 3 (.bool s))
        clear k0 k1 k2 k3 q0 f0 q1 f1 q2 f2 q3 f3
        revert H
        generalize (World.setCell (World.setCell (World.setCell (World.setCell _ _ _) _ _) _ _) _ _) = wz
        intro H
        have z0 := H.out.st.res.cell 0 _ rfl
        have z1 := H.out.st.res.cell 1 _ rfl
        have z2 := H.out.st.res.cell 2 _ rfl
        have z3 := H.out.st.res.cell 3 _ rfl
        exact bodyPost_ret (v := .agg #[.slice (some ⟨gr, 0, none⟩) 4 c, .int .i64 x, .bool y, .bool s]) (by simp [results, Tryd.results52, go_sem, z0, z1, z2, z3]) rfl ⟨_, 4, _, u9, _, x, y, s, rfl, by omega, by omega, H.out.st.cur, H.out.st.gr, H.out.own⟩
end Go.Proofs.YtfdbnolifimnhabDoor.Draw
