/- What the draw of RunGuest answers. -/
import Derived.Test.YtfdbnolifimnhabDoorDr3B
import Derived.Deep.DeepMust
namespace Go.Proofs.YtfdbnolifimnhabDoor.Draw
open Go Go.RowKit Go.Proofs.YtfdbnolifimnhabDoor.Mem Go.Proofs.YtfdbnolifimnhabDoor.Own Go.Proofs.YtfdbnolifimnhabDoor.L3
set_option linter.unusedVariables false
theorem quo11 (x : Int) (h0 : 0 ≤ x) (h1 : x ≤ 23) : 0 ≤ x.tdiv 11 ∧ x.tdiv 11 ≤ 2 := by
  rw [Int.tdiv_eq_ediv_of_nonneg h0]; omega
/-- a result's variable, registers in a variable, a cursor -/
structure RnSt (w wr : World) (A : Option Addr) (n cp : Nat) (zs : List Int) (t T : Nat) (z cs : Array Value) (gl m c : Nat) (xs : List Ins) (A1 : Option Addr) (k c1 : Nat) (L : List Int) : Prop where
  fl : FlSt w wr 0 z gl m c xs A1 k c1 L
  loc : Blk wr T 40 cs
  cur : Cur wr (w.heap.size + 1) (w.heap.size + 1) A n cp zs t
  hT : w.heap.size + 1 < T
  hp : (Value.slice (some ⟨gl, 0, none⟩) m c).ownBlock ≠ some (w.heap.size + 1)
  hr : (Value.slice A1 k c1).ownBlock ≠ some (w.heap.size + 1)
theorem own_curL {w w' : World} {b g size n : Nat} {e : TypeId} {v : Value} {xs : List Value} (h : w.ownsRow b e size v n xs) (hg : w.grownBy w' (some g)) (hb : v.ownBlock ≠ some g) : w'.ownsRow b e size v n xs :=
  own_apart (u := .slice (some ⟨g, 0, none⟩) 0 0) h hg (fun _ hk hv => hb (hv.trans hk.symm))
section
variable {w wr W w' : World} {n cp t t' T gl m c k c1 : Nat} {A A1 : Option Addr} {zs L : List Int} {z cs : Array Value} {xs : List Ins}
theorem FlSt.below (h : FlSt w wr 0 z gl m c xs A1 k c1 L) (hb : Below wr.heap.size wr w') : FlSt w w' 0 z gl m c xs A1 k c1 L :=
  ⟨Blk.kept hb h.res, below_then h.bel hb, own_below h.pg hb, own_below h.rg hb⟩
theorem RnSt.below (h : RnSt w wr A n cp zs t T z cs gl m c xs A1 k c1 L) (hb : Below wr.heap.size wr w') : RnSt w w' A n cp zs t T z cs gl m c xs A1 k c1 L :=
  ⟨h.fl.below hb, Blk.kept hb h.loc, h.cur.below hb, h.hT, h.hp, h.hr⟩
theorem RnSt.alloc (h : RnSt w wr A n cp zs t T z cs gl m c xs A1 k c1 L) (o : Obj) : RnSt w (wr.alloc o) A n cp zs t T z cs gl m c xs A1 k c1 L := h.below (below_more (Below.refl _ _) o)
theorem RnSt.draw (h : RnSt w wr A n cp zs t T z cs gl m c xs A1 k c1 L) (hg : wr.grownBy w' (some (w.heap.size + 1))) (hc : Cur w' (w.heap.size + 1) (w.heap.size + 1) A n cp zs t') : RnSt w w' A n cp zs t' T z cs gl m c xs A1 k c1 L :=
  ⟨⟨blk_draw h.fl.res hg (by omega), below_cur h.fl.bel hg (by omega), own_curL h.fl.pg hg h.hp, own_curL h.fl.rg hg h.hr⟩, blk_draw h.loc hg (by have := h.hT; omega), hc, h.hT, h.hp, h.hr⟩
theorem blk_same {b g : Nat} {ty : TypeId} {cs : Array Value} (h : Blk wr b ty cs) (_ : W.grownBy w' (some g)) (e : W.heap = wr.heap) : Blk W b ty cs := by unfold Blk at *; rw [e]; exact h
theorem RnSt.drawB (h : RnSt w wr A n cp zs t T z cs gl m c xs A1 k c1 L) (hg : W.grownBy w' (some (w.heap.size + 1))) (hc : Cur w' (w.heap.size + 1) (w.heap.size + 1) A n cp zs t') (hb : Below wr.heap.size wr W) : RnSt w w' A n cp zs t' T z cs gl m c xs A1 k c1 L := (h.below hb).draw hg hc
end
set_option maxRecDepth 100000 in
set_option maxHeartbeats 1500000 in
theorem drawRunGuest_any (w : World) (A : Option Addr) (n cp : Nat) (zs : List Int) (hz : ∀ z ∈ zs, 0 ≤ z ∧ z ≤ 255) (hr : Reads w w.heap.size 1 A n (zs.map (Value.int .u8))) (hn : n ≤ 1000000) :
    Calls Tryd.prog 19 #[.slice A n cp] w (DrPRn w) := by
  have hr2 := (hr.alloc (Nat.le_refl _) (.cells #[.slice none 0 0, .int .i64 0, .bool false, .bool false] 40)).more (alloc_le w (.cells #[.slice none 0 0, .int .i64 0, .bool false, .bool false] 40))
  have hcn := cur_new _ A n cp zs hr2
  rw [size1] at hcn
  have HC := Lib.hid hcn
  have HZ := Lib.hid hz
  clear hr hr2 hz hcn
  go_enter Tryd.func19, Tryd.ntmps19
  go_wp2_with fail
  refine (program_any _ (w.heap.size + 1) (w.heap.size + 1) A n cp zs 0 HZ.out HC.out (by omega) hn).mono ?_
  rintro e w1 ⟨m, gl, c, t1, xs, rfl, hm, ht1, hl⟩
  have HP := Lib.hid hl
  have HQ := Lib.hid (blk_draw ((Blk.new w #[.slice none 0 0, .int .i64 0, .bool false, .bool false] 40).alloc (.cells #[.slice A n cp, .int .i64 0, .int .u64 0] 67)) hl.gr (by omega))
  have HW := Lib.hid (below_cur (below_more (below_more (Below.refl w.heap.size w) (.cells #[.slice none 0 0, .int .i64 0, .bool false, .bool false] 40)) (.cells #[.slice A n cp, .int .i64 0, .int .u64 0] 67)) hl.gr (by omega))
  clear hl HC
  go_wp2_with fail
  refine (registers_any _ (w.heap.size + 1) (w.heap.size + 1) A n cp zs t1 HZ.out HP.out.cur (by omega) hn (some ⟨gl, 0, none⟩) m c hm).mono ?_
  rintro e w2 ⟨A1, k, c1, t2, L, p, zo, st, rfl, hk, ht2, hc, hg, ho⟩
  have hs1 : w.heap.size + 1 ≤ w1.heap.size := by have h1 := HP.out.gr.size; rw [size1, size1] at h1; omega
  have H : Hid (FlSt w w2 0 #[.slice none 0 0, .int .i64 0, .bool false, .bool false] gl m c xs A1 k c1 L) := Lib.hid ⟨blk_draw HQ.out hg (by omega), below_cur HW.out hg (by omega), own_mono (own_cur HP.out.own hg HP.out.hg) (by rw [size1, size1]; omega), own_mono ho hs1⟩
  have hcx := hc
  have hs2 : w.heap.size + 2 ≤ w1.heap.size := by have h1 := HP.out.gr.size; rw [size1, size1] at h1; omega
  have hs3 := hg.size
  have H1 := Lib.hid (RnSt.mk (T := w2.heap.size) (H.out.below (w' := w2.alloc (.cells #[.slice A1 k c1, .int .i64 p, .bool zo, .bool st] 40)) (below_more (Below.refl _ _) _)) (Blk.new w2 #[.slice A1 k c1, .int .i64 p, .bool zo, .bool st] 40) (hcx.alloc _) (by omega) (fun e => by have := (HP.out.own.lt _ e).1; rw [size1, size1] at this; omega) (fun e => by have := (ho.lt _ e).1; omega))
  clear hc hg ho hs1 hs2 hs3 HP HQ HW H hcx
  obtain ⟨T, hT⟩ : ∃ T, w2.heap.size = T := ⟨_, rfl⟩
  obtain ⟨wa, hwa⟩ : ∃ wa, w2.alloc (.cells #[.slice A1 k c1, .int .i64 p, .bool zo, .bool st] 40) = wa := ⟨_, rfl⟩
  rw [hwa, hT] at H1
  have HWA := Lib.hid hwa
  have HT := Lib.hid hT
  clear hwa hT
  go_upto_region 4 with fail
  rw [HWA.out, HT.out]
  clear HWA HT
  have HA := Lib.hid (H1.out.alloc (.cells #[.int .i64 0, .int .i64 1, .int .i64 2, .int .i64 10, .int .i64 100, .int .i64 1000, .int .i64 (-1), .int .i64 1001] 3))
  have HBL := Lib.hid (Blk.new wa #[.int .i64 0, .int .i64 1, .int .i64 2, .int .i64 10, .int .i64 100, .int .i64 1000, .int .i64 (-1), .int .i64 1001] 3)
  have hgs := H1.out.cur.lt
  have HPL := Lib.hid (fun (W : World) (hb : Below wa.heap.size wa W) => pick_any W (w.heap.size + 1) (w.heap.size + 1) A n cp zs t2 HZ.out (H1.out.cur.below hb) (by omega) hn 24 (by omega) (by omega))
  have HPK := Lib.hid (fun (W : World) (hb : Below (wa.alloc (.cells #[.int .i64 0, .int .i64 1, .int .i64 2, .int .i64 10, .int .i64 100, .int .i64 1000, .int .i64 (-1), .int .i64 1001] 3)).heap.size (wa.alloc (.cells #[.int .i64 0, .int .i64 1, .int .i64 2, .int .i64 10, .int .i64 100, .int .i64 1000, .int .i64 (-1), .int .i64 1001] 3)) W) => pick_any W (w.heap.size + 1) (w.heap.size + 1) A n cp zs t2 HZ.out (HA.out.cur.below hb) (by omega) hn 24 (by omega) (by omega))
  have k0 : wa.cell? _ = some (.slice A1 k c1) := H1.out.loc.cell 0 _ rfl
  have k1 : wa.cell? _ = some (.int .i64 p) := H1.out.loc.cell 1 _ rfl
  have k2 : wa.cell? _ = some (.bool zo) := H1.out.loc.cell 2 _ rfl
  have k3 : wa.cell? _ = some (.bool st) := H1.out.loc.cell 3 _ rfl
  have b0 : (wa.alloc (.cells #[.int .i64 0, .int .i64 1, .int .i64 2, .int .i64 10, .int .i64 100, .int .i64 1000, .int .i64 (-1), .int .i64 1001] 3)).cell? _ = some (.slice A1 k c1) := HA.out.loc.cell 0 _ rfl
  have b1 : (wa.alloc (.cells #[.int .i64 0, .int .i64 1, .int .i64 2, .int .i64 10, .int .i64 100, .int .i64 1000, .int .i64 (-1), .int .i64 1001] 3)).cell? _ = some (.int .i64 p) := HA.out.loc.cell 1 _ rfl
  have b2 : (wa.alloc (.cells #[.int .i64 0, .int .i64 1, .int .i64 2, .int .i64 10, .int .i64 100, .int .i64 1000, .int .i64 (-1), .int .i64 1001] 3)).cell? _ = some (.bool zo) := HA.out.loc.cell 2 _ rfl
  have b3 : (wa.alloc (.cells #[.int .i64 0, .int .i64 1, .int .i64 2, .int .i64 10, .int .i64 100, .int .i64 1000, .int .i64 (-1), .int .i64 1001] 3)).cell? _ = some (.bool st) := HA.out.loc.cell 3 _ rfl
  go_region_law (first
    | (go_simp; go_at_call 53; first | ((refine Calls.mono (HPK.out _ ?_) ?_; exact ⟨rfl, rfl, rfl, Nat.le_refl _, fun _ _ => rfl⟩); rintro e v1 ⟨y, rfl, hy0, hy1, ⟨t3, ht3, hc3⟩, hg3⟩; have HB := Lib.hid (HA.out.drawB hg3 hc3 ⟨rfl, rfl, rfl, Nat.le_refl _, fun _ _ => rfl⟩); have HBM := Lib.hid (blk_draw (blk_same HBL.out hg3 rfl) hg3 (by omega)); obtain ⟨hq0, hq1⟩ := quo11 y hy0 (by omega); obtain ⟨mm, hmm⟩ : ∃ k : Nat, y.tdiv 11 = k := ⟨(y.tdiv 11).toNat, by omega⟩; rw [hmm] at hq0 hq1; have hwm : IntKind.i64.wrap (mm : Int) = (mm : Int) := IntWalk.i64_in _ (by omega); obtain ⟨q, hq⟩ : ∃ q : Nat, q = 6 + mm := ⟨_, rfl⟩; have hw6 : IntKind.i64.wrap (6 + (mm : Int)) = 6 + (mm : Int) := IntWalk.i64_in _ (by omega); have hq8 : (6 : Int) + mm ≤ 8 := (by omega); have hq9 : (0 : Int) ≤ 6 + (mm : Int) := (by omega); have hq7 : ((6 : Int) + mm).toNat = q := (by omega); have hqa : 1 ≤ q := (by omega); have hqb : q ≤ 8 := (by omega); clear hq; have HAMM := Lib.hid (fun (W : World) (hb : Below v1.heap.size v1 W) => among_part W (w.heap.size + 1) (w.heap.size + 1) A n cp zs t3 wa.heap.size q 8 HZ.out (HB.out.cur.below hb) (by omega) hn [0, 1, 2, 10, 100, 1000, -1, 1001] 3 (Blk.kept hb HBM.out) (by omega) (by omega) (by simp only [List.length_cons, List.length_nil]; omega) (by decide) (by omega)); have d0 : v1.cell? _ = some (.slice A1 k c1) := HB.out.loc.cell 0 _ rfl; have d1 : v1.cell? _ = some (.int .i64 p) := HB.out.loc.cell 1 _ rfl; have d2 : v1.cell? _ = some (.bool zo) := HB.out.loc.cell 2 _ rfl; have d3 : v1.cell? _ = some (.bool st) := HB.out.loc.cell 3 _ rfl; clear hc3 hg3) | go_must ((refine Calls.mono (HPL.out _ ?_) ?_; exact ⟨rfl, rfl, rfl, Nat.le_refl _, fun _ _ => rfl⟩); rintro e v1 ⟨y, rfl, hy0, hy1, ⟨t3, ht3, hc3⟩, hg3⟩; have HB0 := Lib.hid (H1.out.drawB hg3 hc3 ⟨rfl, rfl, rfl, Nat.le_refl _, fun _ _ => rfl⟩); have HB := Lib.hid (HB0.out.alloc (.cells #[.int .i64 0, .int .i64 1, .int .i64 2, .int .i64 10, .int .i64 100, .int .i64 1000, .int .i64 (-1), .int .i64 1001] 3)); have HBM := Lib.hid (Blk.new v1 #[.int .i64 0, .int .i64 1, .int .i64 2, .int .i64 10, .int .i64 100, .int .i64 1000, .int .i64 (-1), .int .i64 1001] 3); have hgv := HB0.out.cur.lt; obtain ⟨hq0, hq1⟩ := quo11 y hy0 (by omega); obtain ⟨mm, hmm⟩ : ∃ k : Nat, y.tdiv 11 = k := ⟨(y.tdiv 11).toNat, by omega⟩; rw [hmm] at hq0 hq1; have hwm : IntKind.i64.wrap (mm : Int) = (mm : Int) := IntWalk.i64_in _ (by omega); obtain ⟨q, hq⟩ : ∃ q : Nat, q = 6 + mm := ⟨_, rfl⟩; have hw6 : IntKind.i64.wrap (6 + (mm : Int)) = 6 + (mm : Int) := IntWalk.i64_in _ (by omega); have hq8 : (6 : Int) + mm ≤ 8 := (by omega); have hq9 : (0 : Int) ≤ 6 + (mm : Int) := (by omega); have hq7 : ((6 : Int) + mm).toNat = q := (by omega); have hqa : 1 ≤ q := (by omega); have hqb : q ≤ 8 := (by omega); clear hq; have HAMM := Lib.hid (fun (W : World) (hb : Below (v1.alloc (.cells #[.int .i64 0, .int .i64 1, .int .i64 2, .int .i64 10, .int .i64 100, .int .i64 1000, .int .i64 (-1), .int .i64 1001] 3)).heap.size (v1.alloc (.cells #[.int .i64 0, .int .i64 1, .int .i64 2, .int .i64 10, .int .i64 100, .int .i64 1000, .int .i64 (-1), .int .i64 1001] 3)) W) => among_part W (w.heap.size + 1) (w.heap.size + 1) A n cp zs t3 v1.heap.size q 8 HZ.out (HB.out.cur.below hb) (by omega) hn [0, 1, 2, 10, 100, 1000, -1, 1001] 3 (Blk.kept hb HBM.out) (by omega) (by omega) (by simp only [List.length_cons, List.length_nil]; omega) (by decide) (by omega)); have d0 : v1.cell? _ = some (.slice A1 k c1) := HB0.out.loc.cell 0 _ rfl; have d1 : v1.cell? _ = some (.int .i64 p) := HB0.out.loc.cell 1 _ rfl; have d2 : v1.cell? _ = some (.bool zo) := HB0.out.loc.cell 2 _ rfl; have d3 : v1.cell? _ = some (.bool st) := HB0.out.loc.cell 3 _ rfl; have g0 : (v1.alloc (.cells #[.int .i64 0, .int .i64 1, .int .i64 2, .int .i64 10, .int .i64 100, .int .i64 1000, .int .i64 (-1), .int .i64 1001] 3)).cell? _ = some (.slice A1 k c1) := HB.out.loc.cell 0 _ rfl; have g1 : (v1.alloc (.cells #[.int .i64 0, .int .i64 1, .int .i64 2, .int .i64 10, .int .i64 100, .int .i64 1000, .int .i64 (-1), .int .i64 1001] 3)).cell? _ = some (.int .i64 p) := HB.out.loc.cell 1 _ rfl; have g2 : (v1.alloc (.cells #[.int .i64 0, .int .i64 1, .int .i64 2, .int .i64 10, .int .i64 100, .int .i64 1000, .int .i64 (-1), .int .i64 1001] 3)).cell? _ = some (.bool zo) := HB.out.loc.cell 2 _ rfl; have g3 : (v1.alloc (.cells #[.int .i64 0, .int .i64 1, .int .i64 2, .int .i64 10, .int .i64 100, .int .i64 1000, .int .i64 (-1), .int .i64 1001] 3)).cell? _ = some (.bool st) := HB.out.loc.cell 3 _ rfl; clear hc3 hg3))
    | (go_simp; go_at_call 38; go_must ((refine Calls.mono (HAMM.out _ ?_) ?_; exact ⟨rfl, rfl, rfl, Nat.le_refl _, fun _ _ => rfl⟩); rintro e v2 ⟨x, rfl, ⟨t4, ht4, hc4⟩, hg4⟩; have HE := Lib.hid (HB.out.drawB hg4 hc4 ⟨rfl, rfl, rfl, Nat.le_refl _, fun _ _ => rfl⟩); have e0 : v2.cell? _ = some (.slice A1 k c1) := HE.out.loc.cell 0 _ rfl; have e1 : v2.cell? _ = some (.int .i64 p) := HE.out.loc.cell 1 _ rfl; have e2 : v2.cell? _ = some (.bool zo) := HE.out.loc.cell 2 _ rfl; have e3 : v2.cell? _ = some (.bool st) := HE.out.loc.cell 3 _ rfl; have f0 := HE.out.fl.res.free 0; have q0 := HE.out.fl.res.cell 0 _ rfl; have f1 := HE.out.fl.res.free 1; have q1 := HE.out.fl.res.cell 1 _ rfl; have f2 := HE.out.fl.res.free 2; have q2 := HE.out.fl.res.cell 2 _ rfl; have f3 := HE.out.fl.res.free 3; have q3 := HE.out.fl.res.cell 3 _ rfl; clear hc4 hg4))
    | fail)
  all_goals
    clear k0 k1 k2 k3 b0 b1 b2 b3 d0 d1 d2 d3 e0 e1 e2 e3 HPK HPL HAMM HBL HA H1 hq0 hq1 hmm hwm hw6 hq7 hq8 hq9
    have H := Lib.hid ((((HE.out.fl.put 0 (.slice A1 k c1)).put 1 (.int .i64 p)).put 2 (.bool zo)).put 3 (.bool st))
    clear HE f0 f1 f2 f3 q0 q1 q2 q3
    revert H
    generalize (World.setCell (World.setCell (World.setCell (World.setCell _ _ _) _ _) _ _) _ _) = wz
    intro H
    have z0 := H.out.res.cell 0 _ rfl
    have z1 := H.out.res.cell 1 _ rfl
    have z2 := H.out.res.cell 2 _ rfl
    have z3 := H.out.res.cell 3 _ rfl
    go_wp2_with fail
    exact bodyPost_ret (v := .tuple #[.slice (some ⟨gl, 0, none⟩) m c, .agg #[.slice A1 k c1, .int .i64 p, .bool zo, .bool st], .int .i64 x]) (by simp [results, Tryd.results19, go_sem, z0, z1, z2, z3]) rfl ⟨gl, m, c, xs, A1, k, c1, L, p, zo, st, x, rfl, ⟨hm, own_mono H.out.pg (Nat.le_succ _), H.out.bel⟩, hk, own_mono H.out.rg (Nat.le_succ _)⟩
end Go.Proofs.YtfdbnolifimnhabDoor.Draw
