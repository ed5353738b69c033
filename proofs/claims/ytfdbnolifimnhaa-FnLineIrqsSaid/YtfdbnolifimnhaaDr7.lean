/- What chapter 7's draws answer. -/
import Derived.Test.YtfdbnolifimnhaaDrLin
import Derived.Test.YtfdbnolifimnhaaBoo
import Derived.Deep.Cut
import Derived.Deep.CutBlock
namespace Go.Proofs.Ytfdbnolifimnhaa.Draw
open Go Go.RowKit Go.Proofs.Ytfdbnolifimnhaa.Mem Go.Proofs.Ytfdbnolifimnhaa.Own Go.Proofs.Ytfdbnolifimnhaa.L7
set_option linter.unusedVariables false
/-- a line drawn; a line and a bool -/
def Ln1 (w : World) (e : Ending) (w' : World) : Prop := ∃ (x0 x1 : Int) (x2 x3 : Bool), e = .returned (.agg #[.int .i64 x0, .int .i64 x1, .bool x2, .bool x3]) ∧ Below w.heap.size w w'
def Ln1b (w : World) (e : Ending) (w' : World) : Prop := ∃ (x0 x1 : Int) (x2 x3 q : Bool), e = .returned (.tuple #[.agg #[.int .i64 x0, .int .i64 x1, .bool x2, .bool x3], .bool q]) ∧ Below w.heap.size w w'
/-- a list of at most seven lines of the call's own -/
def LnsDrawn (w w' : World) (gl m c : Nat) (xs : List Lin) : Prop := m ≤ 7 ∧ w'.ownsRow w.heap.size 58 4 (.slice (some ⟨gl, 0, none⟩) m c) m (FL xs) ∧ Below w.heap.size w w'
def DrLs (w : World) (e : Ending) (w' : World) : Prop := ∃ (gl m c : Nat) (xs : List Lin), e = .returned (.slice (some ⟨gl, 0, none⟩) m c) ∧ LnsDrawn w w' gl m c xs
def DrLs1 (w : World) (e : Ending) (w' : World) : Prop := ∃ (gl m c : Nat) (xs : List Lin) (x : Int), e = .returned (.tuple #[.slice (some ⟨gl, 0, none⟩) m c, .int .i64 x]) ∧ LnsDrawn w w' gl m c xs
def DrLs2 (w : World) (e : Ending) (w' : World) : Prop := ∃ (gl m c : Nat) (xs : List Lin) (x y : Int), e = .returned (.tuple #[.slice (some ⟨gl, 0, none⟩) m c, .int .i64 x, .int .i64 y]) ∧ LnsDrawn w w' gl m c xs
def DrLsB (w : World) (e : Ending) (w' : World) : Prop := ∃ (gl m c gb mb cb : Nat) (xs : List Lin) (hs : List Bool), e = .returned (.tuple #[.slice (some ⟨gl, 0, none⟩) m c, .slice (some ⟨gb, 0, none⟩) mb cb]) ∧ LnsDrawn w w' gl m c xs ∧ mb ≤ 8 ∧ w'.ownsRow w.heap.size 4 1 (.slice (some ⟨gb, 0, none⟩) mb cb) mb (FL hs)
theorem lnsDrawn_of {w w' : World} {A : Option Addr} {n cp t gl m c : Nat} {zs : List Int} {xs : List Lin} (hm : m ≤ 7) (h : LnSt (w.alloc (.cells #[.slice A n cp, .int .i64 0, .int .u64 0] 104)) w' w.heap.size w.heap.size A n cp zs t (.slice (some ⟨gl, 0, none⟩) m c) m xs) : LnsDrawn w w' gl m c xs :=
  ⟨hm, own_mono h.own (alloc_le _ _), below_cur (below_more (Below.refl _ _) _) h.gr (Nat.le_refl _)⟩
theorem quo11 (x : Int) (h0 : 0 ≤ x) (h1 : x ≤ 23) : 0 ≤ x.tdiv 11 ∧ x.tdiv 11 ≤ 2 := by
  rw [Int.tdiv_eq_ediv_of_nonneg h0]; omega
theorem quo19 (x : Int) (h0 : 0 ≤ x) (h1 : x ≤ 19) : 0 ≤ x.tdiv 19 ∧ x.tdiv 19 ≤ 1 := by
  rw [Int.tdiv_eq_ediv_of_nonneg h0]; omega
set_option maxRecDepth 100000 in
set_option maxHeartbeats 1000000 in
theorem drawIsLine_any (w : World) (A : Option Addr) (n cp : Nat) (zs : List Int) (hz : ∀ z ∈ zs, 0 ≤ z ∧ z ≤ 255) (hr : Reads w w.heap.size 1 A n (zs.map (Value.int .u8))) (hn : n ≤ 1000000) :
    Calls Try.prog 136 #[.slice A n cp] w (Ln1 w) := by
  have hr2 := (hr.alloc (Nat.le_refl _) (.cells #[.int .i64 0, .int .i64 0, .bool false, .bool false] 58)).more (alloc_le w (.cells #[.int .i64 0, .int .i64 0, .bool false, .bool false] 58))
  have hcn := cur_new _ A n cp zs hr2
  rw [size1] at hcn
  have HC := Lib.hid hcn
  have HZ := Lib.hid hz
  clear hr hr2 hz hcn
  go_enter Try.func136, Try.ntmps136
  go_wp2_with fail
  refine (line_any _ (w.heap.size + 1) (w.heap.size + 1) A n cp zs 0 HZ.out HC.out (by omega) hn).mono ?_
  rintro e w1 ⟨x0, x1, x2, x3, rfl, ⟨t1, ht1, hc⟩, hg⟩
  have HQ := Lib.hid (blk_draw ((Blk.new w #[.int .i64 0, .int .i64 0, .bool false, .bool false] 58).alloc (.cells #[.slice A n cp, .int .i64 0, .int .u64 0] 104)) hg (by omega))
  have HW := Lib.hid (below_cur (below_more (below_more (Below.refl w.heap.size w) (.cells #[.int .i64 0, .int .i64 0, .bool false, .bool false] 58)) (.cells #[.slice A n cp, .int .i64 0, .int .u64 0] 104)) hg (by omega))
  replace HC := Lib.hid hc
  clear hg hc
  have q0 := HQ.out.cell 0 _ rfl
  have f0 := HQ.out.free 0
  have q1 := HQ.out.cell 1 _ rfl
  have f1 := HQ.out.free 1
  have q2 := HQ.out.cell 2 _ rfl
  have f2 := HQ.out.free 2
  have q3 := HQ.out.cell 3 _ rfl
  have f3 := HQ.out.free 3
  go_wp2_with fail
  have hZ := Lib.hid ((((HQ.out.set 0 (.int .i64 x0)).set 1 (.int .i64 x1)).set 2 (.bool x2)).set 3 (.bool x3))
  have hX := Lib.hid (below_set (below_set (below_set (below_set HW.out (g := w.heap.size) (j := 0) (Nat.le_refl _) (.int .i64 x0)) (g := w.heap.size) (j := 1) (Nat.le_refl _) (.int .i64 x1)) (g := w.heap.size) (j := 2) (Nat.le_refl _) (.bool x2)) (g := w.heap.size) (j := 3) (Nat.le_refl _) (.bool x3))
  clear q0 f0 q1 f1 q2 f2 q3 f3
  revert hZ hX
  generalize (World.setCell (World.setCell (World.setCell (World.setCell _ _ _) _ _) _ _) _ _) = wz
  intro hZ hX
  have z0 := hZ.out.cell 0 _ rfl
  have z1 := hZ.out.cell 1 _ rfl
  have z2 := hZ.out.cell 2 _ rfl
  have z3 := hZ.out.cell 3 _ rfl
  exact bodyPost_ret (v := .agg #[.int .i64 x0, .int .i64 x1, .bool x2, .bool x3]) (by simp [results, Try.results136, go_sem, z0, z1, z2, z3]) rfl ⟨x0, x1, x2, x3, rfl, hX.out⟩
set_option maxRecDepth 100000 in
set_option maxHeartbeats 1000000 in
theorem drawDriveLine_any (w : World) (A : Option Addr) (n cp : Nat) (zs : List Int) (hz : ∀ z ∈ zs, 0 ≤ z ∧ z ≤ 255) (hr : Reads w w.heap.size 1 A n (zs.map (Value.int .u8))) (hn : n ≤ 1000000) :
    Calls Try.prog 48 #[.slice A n cp] w (Ln1b w) := by
  have hr2 := (hr.alloc (Nat.le_refl _) (.cells #[.int .i64 0, .int .i64 0, .bool false, .bool false] 58)).more (alloc_le w (.cells #[.int .i64 0, .int .i64 0, .bool false, .bool false] 58))
  have hcn := cur_new _ A n cp zs hr2
  rw [size1] at hcn
  have HC := Lib.hid hcn
  have HZ := Lib.hid hz
  clear hr hr2 hz hcn
  go_enter Try.func48, Try.ntmps48
  go_wp2_with fail
  refine (line_any _ (w.heap.size + 1) (w.heap.size + 1) A n cp zs 0 HZ.out HC.out (by omega) hn).mono ?_
  rintro e w1 ⟨x0, x1, x2, x3, rfl, ⟨t1, ht1, hc⟩, hg⟩
  have HQ := Lib.hid (blk_draw ((Blk.new w #[.int .i64 0, .int .i64 0, .bool false, .bool false] 58).alloc (.cells #[.slice A n cp, .int .i64 0, .int .u64 0] 104)) hg (by omega))
  have HW := Lib.hid (below_cur (below_more (below_more (Below.refl w.heap.size w) (.cells #[.int .i64 0, .int .i64 0, .bool false, .bool false] 58)) (.cells #[.slice A n cp, .int .i64 0, .int .u64 0] 104)) hg (by omega))
  replace HC := Lib.hid hc
  clear hg hc
  go_wp2_with fail
  refine (one_any _ (w.heap.size + 1) (w.heap.size + 1) A n cp zs _ HZ.out HC.out (by omega) hn 2 (by omega) (by omega)).mono ?_
  rintro e w2 ⟨q, rfl, _, hg⟩
  replace HQ := Lib.hid (blk_draw HQ.out hg (by omega))
  replace HW := Lib.hid (below_cur HW.out hg (by omega))
  clear hg HC
  have q0 := HQ.out.cell 0 _ rfl
  have f0 := HQ.out.free 0
  have q1 := HQ.out.cell 1 _ rfl
  have f1 := HQ.out.free 1
  have q2 := HQ.out.cell 2 _ rfl
  have f2 := HQ.out.free 2
  have q3 := HQ.out.cell 3 _ rfl
  have f3 := HQ.out.free 3
  go_wp2_with fail
  have hZ := Lib.hid ((((HQ.out.set 0 (.int .i64 x0)).set 1 (.int .i64 x1)).set 2 (.bool x2)).set 3 (.bool x3))
  have hX := Lib.hid (below_set (below_set (below_set (below_set HW.out (g := w.heap.size) (j := 0) (Nat.le_refl _) (.int .i64 x0)) (g := w.heap.size) (j := 1) (Nat.le_refl _) (.int .i64 x1)) (g := w.heap.size) (j := 2) (Nat.le_refl _) (.bool x2)) (g := w.heap.size) (j := 3) (Nat.le_refl _) (.bool x3))
  clear q0 f0 q1 f1 q2 f2 q3 f3
  revert hZ hX
  generalize (World.setCell (World.setCell (World.setCell (World.setCell _ _ _) _ _) _ _) _ _) = wz
  intro hZ hX
  have z0 := hZ.out.cell 0 _ rfl
  have z1 := hZ.out.cell 1 _ rfl
  have z2 := hZ.out.cell 2 _ rfl
  have z3 := hZ.out.cell 3 _ rfl
  exact bodyPost_ret (v := .tuple #[.agg #[.int .i64 x0, .int .i64 x1, .bool x2, .bool x3], .bool q]) (by simp [results, Try.results48, go_sem, z0, z1, z2, z3]) rfl ⟨x0, x1, x2, x3, q, rfl, hX.out⟩
set_option maxRecDepth 100000 in
set_option maxHeartbeats 1000000 in
theorem drawTakeLine_any (w : World) (A : Option Addr) (n cp : Nat) (zs : List Int) (hz : ∀ z ∈ zs, 0 ≤ z ∧ z ≤ 255) (hr : Reads w w.heap.size 1 A n (zs.map (Value.int .u8))) (hn : n ≤ 1000000) :
    Calls Try.prog 52 #[.slice A n cp] w (Ln1 w) := by
  have hr2 := (hr.alloc (Nat.le_refl _) (.cells #[.int .i64 0, .int .i64 0, .bool false, .bool false] 58)).more (alloc_le w (.cells #[.int .i64 0, .int .i64 0, .bool false, .bool false] 58))
  have HD := Lib.hid (drawIsLine_any _ A n cp zs hz hr2 hn)
  clear hr hr2 hz
  go_enter Try.func52, Try.ntmps52
  go_wp2_with fail
  refine HD.out.mono ?_
  rintro e w1 ⟨x0, x1, x2, x3, rfl, hb⟩
  have HQ := Lib.hid (Blk.kept hb (Blk.new w #[.int .i64 0, .int .i64 0, .bool false, .bool false] 58))
  have HW := Lib.hid (below_then (below_more (Below.refl w.heap.size w) _) hb)
  clear hb HD
  have q0 := HQ.out.cell 0 _ rfl
  have f0 := HQ.out.free 0
  have q1 := HQ.out.cell 1 _ rfl
  have f1 := HQ.out.free 1
  have q2 := HQ.out.cell 2 _ rfl
  have f2 := HQ.out.free 2
  have q3 := HQ.out.cell 3 _ rfl
  have f3 := HQ.out.free 3
  go_wp2_with fail
  have hZ := Lib.hid ((((HQ.out.set 0 (.int .i64 x0)).set 1 (.int .i64 x1)).set 2 (.bool x2)).set 3 (.bool x3))
  have hX := Lib.hid (below_set (below_set (below_set (below_set HW.out (g := w.heap.size) (j := 0) (Nat.le_refl _) (.int .i64 x0)) (g := w.heap.size) (j := 1) (Nat.le_refl _) (.int .i64 x1)) (g := w.heap.size) (j := 2) (Nat.le_refl _) (.bool x2)) (g := w.heap.size) (j := 3) (Nat.le_refl _) (.bool x3))
  clear q0 f0 q1 f1 q2 f2 q3 f3
  revert hZ hX
  generalize (World.setCell (World.setCell (World.setCell (World.setCell _ _ _) _ _) _ _) _ _) = wz
  intro hZ hX
  have z0 := hZ.out.cell 0 _ rfl
  have z1 := hZ.out.cell 1 _ rfl
  have z2 := hZ.out.cell 2 _ rfl
  have z3 := hZ.out.cell 3 _ rfl
  exact bodyPost_ret (v := .agg #[.int .i64 x0, .int .i64 x1, .bool x2, .bool x3]) (by simp [results, Try.results52, go_sem, z0, z1, z2, z3]) rfl ⟨x0, x1, x2, x3, rfl, hX.out⟩
set_option maxRecDepth 100000 in
set_option maxHeartbeats 1000000 in
theorem drawAreLines_any (w : World) (A : Option Addr) (n cp : Nat) (zs : List Int) (hz : ∀ z ∈ zs, 0 ≤ z ∧ z ≤ 255) (hr : Reads w w.heap.size 1 A n (zs.map (Value.int .u8))) (hn : n ≤ 1000000) :
    Calls Try.prog 147 #[.slice A n cp] w (DrLs w) := by
  have HC := Lib.hid (cur_new w A n cp zs hr)
  have HZ := Lib.hid hz
  clear hr hz
  go_enter Try.func147, Try.ntmps147
  go_wp2_with fail
  refine (lines7_any _ w.heap.size w.heap.size A n cp zs 0 HZ.out HC.out (by omega) hn).mono ?_
  rintro e w1 ⟨m, gl, c, t1, xs, rfl, hm, ht1, hl⟩
  have H := Lib.hid hl
  clear hl HC
  go_wp2_with fail
  go_ret
  exact ⟨gl, m, c, xs, rfl, lnsDrawn_of hm H.out⟩
set_option maxRecDepth 100000 in
set_option maxHeartbeats 1000000 in
theorem drawMixedIrqs_any (w : World) (A : Option Addr) (n cp : Nat) (zs : List Int) (hz : ∀ z ∈ zs, 0 ≤ z ∧ z ≤ 255) (hr : Reads w w.heap.size 1 A n (zs.map (Value.int .u8))) (hn : n ≤ 1000000) :
    Calls Try.prog 70 #[.slice A n cp] w (DrLs w) := by
  have HD := Lib.hid (drawAreLines_any w A n cp zs hz hr hn)
  clear hr hz
  go_enter Try.func70, Try.ntmps70
  go_wp2_with fail
  refine HD.out.mono ?_
  rintro e w1 ⟨gl, m, c, xs, rfl, h⟩
  have H := Lib.hid h
  clear h HD
  go_wp2_with fail
  go_ret
  exact ⟨gl, m, c, xs, rfl, H.out⟩
set_option maxRecDepth 100000 in
set_option maxHeartbeats 1000000 in
theorem drawTakeLines_any (w : World) (A : Option Addr) (n cp : Nat) (zs : List Int) (hz : ∀ z ∈ zs, 0 ≤ z ∧ z ≤ 255) (hr : Reads w w.heap.size 1 A n (zs.map (Value.int .u8))) (hn : n ≤ 1000000) :
    Calls Try.prog 62 #[.slice A n cp] w (DrLs1 w) := by
  have HC := Lib.hid (cur_new w A n cp zs hr)
  have HZ := Lib.hid hz
  clear hr hz
  go_enter Try.func62, Try.ntmps62
  go_wp2_with fail
  refine (lines7_any _ w.heap.size w.heap.size A n cp zs 0 HZ.out HC.out (by omega) hn).mono ?_
  rintro e w1 ⟨m, gl, c, t1, xs, rfl, hm, ht1, hl⟩
  have H := Lib.hid hl
  clear hl HC
  go_upto_region 3 with fail
  have hb := Blk.new w1 (I [0, 1, 2, 3, 7, -1, 8]).toArray 3
  have HA := Lib.hid (H.out.alloc (.cells (I [0, 1, 2, 3, 7, -1, 8]).toArray 3))
  have hglt : w.heap.size < w1.heap.size := by have h1 := H.out.gr.size; rw [size1] at h1; omega
  go_wp2_with fail
  refine (pick_any _ w.heap.size w.heap.size A n cp zs _ HZ.out HA.out.cur (by omega) hn 24 (by omega) (by omega)).mono ?_
  rintro e w2 ⟨p, rfl, hp0, hp1, ⟨t2, ht2, hc⟩, hg⟩
  replace hb := blk_draw hb hg (by omega)
  replace H := Lib.hid (HA.out.draw hg hc)
  clear hg hc HA
  obtain ⟨hq0, hq1⟩ := quo11 p hp0 (by omega)
  obtain ⟨mm, hmm⟩ : ∃ k : Nat, p.tdiv 11 = k := ⟨(p.tdiv 11).toNat, by omega⟩
  rw [hmm] at hq0 hq1
  go_wp2_with fail
  refine (among_part w2 w.heap.size w.heap.size A n cp zs _ w1.heap.size (5 + mm) 7 HZ.out H.out.cur (by omega) hn [0, 1, 2, 3, 7, -1, 8] 3 hb (by omega) (by omega) (by simp only [List.length_cons, List.length_nil]; omega) (by decide) (by omega)).mono ?_
  rintro e w3 ⟨z, rfl, ⟨t3, ht3, hc⟩, hg⟩
  replace H := Lib.hid (H.out.draw hg hc)
  clear hc hg hb hq0 hq1 hmm hglt
  go_wp2_with fail
  go_ret2
  exact ⟨gl, m, c, xs, z, rfl, lnsDrawn_of hm H.out⟩
set_option maxRecDepth 100000 in
set_option maxHeartbeats 1000000 in
theorem drawPulseLine_any (w : World) (A : Option Addr) (n cp : Nat) (zs : List Int) (hz : ∀ z ∈ zs, 0 ≤ z ∧ z ≤ 255) (hr : Reads w w.heap.size 1 A n (zs.map (Value.int .u8))) (hn : n ≤ 1000000) :
    Calls Try.prog 59 #[.slice A n cp] w (DrLs2 w) := by
  have HC := Lib.hid (cur_new w A n cp zs hr)
  have HZ := Lib.hid hz
  clear hr hz
  go_enter Try.func59, Try.ntmps59
  go_wp2_with fail
  refine (lines7_any _ w.heap.size w.heap.size A n cp zs 0 HZ.out HC.out (by omega) hn).mono ?_
  rintro e w1 ⟨m, gl, c, t1, xs, rfl, hm, ht1, hl⟩
  have H := Lib.hid hl
  clear hl HC
  have hwm : IntKind.i64.wrap ((m : Int) + 1) = (m : Int) + 1 := IntWalk.i64_in _ (by omega)
  go_wp2_with fail
  refine (pick_any _ w.heap.size w.heap.size A n cp zs _ HZ.out H.out.cur (by omega) hn ((m : Int) + 1) (by omega) (by omega)).mono ?_
  rintro e w2 ⟨a, rfl, ha0, ha1, ⟨t2, ht2, hc⟩, hg⟩
  replace H := Lib.hid (H.out.draw hg hc)
  clear hc hg
  go_wp2_with fail
  refine (pick_any _ w.heap.size w.heap.size A n cp zs _ HZ.out H.out.cur (by omega) hn 20 (by omega) (by omega)).mono ?_
  rintro e w3 ⟨b, rfl, hb0, hb1, ⟨t3, ht3, hc⟩, hg⟩
  replace H := Lib.hid (H.out.draw hg hc)
  clear hc hg
  obtain ⟨hd0, hd1⟩ := quo19 b hb0 (by omega)
  obtain ⟨dd, hdd⟩ : ∃ k : Int, b.tdiv 19 = k := ⟨_, rfl⟩
  rw [hdd] at hd0 hd1
  have hwd : IntKind.i64.wrap (a - dd) = a - dd := IntWalk.i64_in _ (by omega)
  have hb := Blk.new w3 (I [0, 1, 2, 100, -1, 101]).toArray 3
  have HA := Lib.hid (H.out.alloc (.cells (I [0, 1, 2, 100, -1, 101]).toArray 3))
  have hglt : w.heap.size < w3.heap.size := by have h1 := H.out.gr.size; rw [size1] at h1; omega
  go_wp2_with fail
  refine (pick_any _ w.heap.size w.heap.size A n cp zs _ HZ.out HA.out.cur (by omega) hn 24 (by omega) (by omega)).mono ?_
  rintro e w4 ⟨p, rfl, hp0, hp1, ⟨t4, ht4, hc⟩, hg⟩
  replace hb := blk_draw hb hg (by omega)
  replace H := Lib.hid (HA.out.draw hg hc)
  clear hg hc HA
  obtain ⟨hq0, hq1⟩ := quo11 p hp0 (by omega)
  obtain ⟨mm, hmm⟩ : ∃ k : Nat, p.tdiv 11 = k := ⟨(p.tdiv 11).toNat, by omega⟩
  rw [hmm] at hq0 hq1
  go_wp2_with fail
  refine (among_part w4 w.heap.size w.heap.size A n cp zs _ w3.heap.size (4 + mm) 6 HZ.out H.out.cur (by omega) hn [0, 1, 2, 100, -1, 101] 3 hb (by omega) (by omega) (by simp only [List.length_cons, List.length_nil]; omega) (by decide) (by omega)).mono ?_
  rintro e w5 ⟨z, rfl, ⟨t5, ht5, hc⟩, hg⟩
  replace H := Lib.hid (H.out.draw hg hc)
  clear hc hg hb hq0 hq1 hmm hglt
  go_wp2_with fail
  go_ret3
  exact ⟨gl, m, c, xs, a - dd, z, rfl, lnsDrawn_of hm H.out⟩
/-- lines drawn and bools beside them -/
structure LBSt (w wr : World) (g B : Nat) (A : Option Addr) (n cp : Nat) (zs : List Int) (t : Nat) (v : Value) (m : Nat) (xs : List Lin) (u : Value) (k : Nat) (hs : List Bool) : Prop where
  st : LnSt w wr g B A n cp zs t v m xs
  bo : wr.ownsRow w.heap.size 4 1 u k (FL hs)
section
variable {w wr w' : World} {g B n cp t t' m k k' : Nat} {A : Option Addr} {zs : List Int} {v u u' : Value} {xs : List Lin} {hs hs' : List Bool}
theorem LBSt.draw (h : LBSt w wr g B A n cp zs t v m xs u k hs) (hg : wr.grownBy w' (some g)) (hc : Cur w' g B A n cp zs t') : LBSt w w' g B A n cp zs t' v m xs u k hs :=
  ⟨h.st.draw hg hc, own_cur h.bo hg h.st.hg⟩
theorem LBSt.alloc (h : LBSt w wr g B A n cp zs t v m xs u k hs) (o : Obj) : LBSt w (wr.alloc o) g B A n cp zs t v m xs u k hs :=
  ⟨h.st.alloc o, h.bo.alloc o⟩
theorem LBSt.grow (h : LBSt w wr g B A n cp zs t v m xs u k hs) (hg : wr.grownBy w' u.ownBlock) (ho : w'.ownsRow w.heap.size 4 1 u' k' (FL hs')) : LBSt w w' g B A n cp zs t v m xs u' k' hs' :=
  ⟨⟨h.st.cur.grown hg (fun r e => Nat.lt_of_lt_of_le h.st.hg (h.bo.lt r e).1), grown_over h.st.gr hg (fun r e => (h.bo.lt r e).1), own_apart h.st.own hg (apart_types h.bo h.st.own (by decide)), h.st.hg⟩, ho⟩
end
theorem snoc_boo (L : List Bool) (x : Bool) : FL L ++ [.bool x] = FL (L ++ [x]) := by rw [FL_append, FL_one]; rfl
set_option maxRecDepth 100000 in
set_option maxHeartbeats 1000000 in
theorem drawDriveLines_any (w : World) (A : Option Addr) (n cp : Nat) (zs : List Int) (hz : ∀ z ∈ zs, 0 ≤ z ∧ z ≤ 255) (hr : Reads w w.heap.size 1 A n (zs.map (Value.int .u8))) (hn : n ≤ 1000000) :
    Calls Try.prog 55 #[.slice A n cp] w (DrLsB w) := by
  obtain ⟨i0, hi, hz0, hz1, hz2⟩ := info_parts boolInfo
  have HZ := Lib.hid hz
  obtain ⟨wc, hwc⟩ : ∃ wc, w.alloc (.cells #[.slice A n cp, .int .i64 0, .int .u64 0] 104) = wc := ⟨_, rfl⟩
  have HC : Hid (Cur wc w.heap.size w.heap.size A n cp zs 0) := Lib.hid (by rw [← hwc]; exact cur_new w A n cp zs hr)
  have HF : Hid (∀ w' gl m c t xs, m ≤ 7 → LnSt wc w' w.heap.size w.heap.size A n cp zs t (.slice (some ⟨gl, 0, none⟩) m c) m xs → LnsDrawn w w' gl m c xs) := Lib.hid (by rw [← hwc]; exact fun w' gl m c t xs hm h => lnsDrawn_of hm h)
  have hle : w.heap.size ≤ wc.heap.size := by rw [← hwc, size1]; omega
  have HWC := Lib.hid hwc
  clear hr hz hwc
  go_enter Try.func55, Try.ntmps55
  go_upto_region 2 with fail
  rw [HWC.out]
  clear HWC
  go_wp2_with fail
  refine (lines7_any _ w.heap.size w.heap.size A n cp zs 0 HZ.out HC.out (by omega) hn).mono ?_
  rintro e w1 ⟨m, gl, c, t1, xs, rfl, hm, ht1, hl⟩
  have hwc1 := hl.gr.size
  have H0 : Hid (LBSt wc (w1.alloc (.cells #[] 4)) w.heap.size w.heap.size A n cp zs t1 (.slice (some ⟨gl, 0, none⟩) m c) m xs (.slice (some ⟨w1.heap.size, 0, none⟩) 0 0) 0 []) := Lib.hid ⟨hl.alloc _, World.ownsRow_made w1 #[] 0 hwc1 (Nat.zero_le _) rfl⟩
  clear hl HC hwc1
  go_wp2_with fail
  go_loopw [6, 7] (fun u6 u7 wr => ∃ (k gb cb t' : Nat) (hs : List Bool), u7 = .int .i64 k ∧ k ≤ m ∧ u6 = .slice (some ⟨gb, 0, none⟩) k cb ∧ t' ≤ 130 + 2 * k ∧ Hid (LBSt wc wr w.heap.size w.heap.size A n cp zs t' (.slice (some ⟨gl, 0, none⟩) m c) m xs (.slice (some ⟨gb, 0, none⟩) k cb) k hs)) (fun _ u7 _ => m - (intOf u7).toNat)
  case atStart => exact ⟨0, _, 0, t1, [], rfl, Nat.zero_le _, rfl, by omega, H0⟩
  case round =>
    clear H0
    obtain ⟨k, gb, cb, t', hs, rfl, hk, rfl, htk, H⟩ := hrel
    by_cases hlt : k < m
    · have hkz : (k : Int) < m := by omega
      go_wp2_with fail
      refine (one_any _ w.heap.size w.heap.size A n cp zs _ HZ.out H.out.st.cur (by omega) hn 2 (by omega) (by omega)).mono ?_
      rintro e v1 ⟨y, rfl, ⟨u1, hu1, hc⟩, hg⟩
      replace H := Lib.hid (H.out.draw hg hc)
      clear hc hg
      have hown := H.out.bo
      have hsz := H.out.st.gr.size
      go_wp2_with (at_builtin; refine wpList_append_own _ rfl _ _ 67 rfl wc.heap.size 4 i0 (.bool false) 1 1 Try.underlying67 hi hz0 hz1 hz2 rfl (by decide) _ _ _ rfl (hown.alloc _) ⟨v1.heap.size, 0, none⟩ 1 1 [.bool y] rfl rfl (cell_one_new _ _ _) (fun x hx => by simp at hx; subst hx; rfl) (by unfold maxLen; omega) (by omega) (by simp; omega) ?_; intro v' w4 hown1 hgrow1 _)
      obtain ⟨A6, c6, rfl, _, _⟩ := own_form hown1
      obtain ⟨g6, rfl⟩ := own_head hown1 (by omega)
      have hown2 : w4.ownsRow wc.heap.size 4 1 (.slice (some ⟨g6, 0, none⟩) (k + 1) c6) (k + 1) (FL (hs ++ [y])) := by rw [← snoc_boo]; exact hown1
      have HN := Lib.hid ((H.out.alloc _).grow hgrow1 hown2)
      clear hown hsz hown1 hgrow1 hown2 H
      go_roundw
      case rel => exact ⟨k + 1, g6, c6, u1, _, by go_num, by omega, rfl, by omega, HN⟩
      case measure => simp [intOf]; omega
    · have hkm : k = m := by omega
      subst hkm
      go_wp2_with fail
      refine (one_any _ w.heap.size w.heap.size A n cp zs _ HZ.out H.out.st.cur (by omega) hn 12 (by omega) (by omega)).mono ?_
      rintro e v1 ⟨y, rfl, ⟨u1, hu1, hc⟩, hg⟩
      replace H := Lib.hid (H.out.draw hg hc)
      clear hc hg
      cases y with
      | false =>
        go_wp2_with fail
        go_ret2
        exact ⟨gl, k, c, gb, k, cb, xs, hs, rfl, HF.out _ _ _ _ _ _ hm H.out.st, by omega, own_mono H.out.bo hle⟩
      | true =>
        have hown := H.out.bo
        have hsz := H.out.st.gr.size
        go_wp2_with (at_builtin; refine wpList_append_own _ rfl _ _ 67 rfl wc.heap.size 4 i0 (.bool false) 1 1 Try.underlying67 hi hz0 hz1 hz2 rfl (by decide) _ _ _ rfl (hown.alloc _) ⟨v1.heap.size, 0, none⟩ 1 1 [.bool true] rfl rfl (cell_one_new _ _ _) (fun x hx => by simp at hx; subst hx; rfl) (by unfold maxLen; omega) (by omega) (by simp; omega) ?_; intro v' w4 hown1 hgrow1 _)
        obtain ⟨A6, c6, rfl, _, _⟩ := own_form hown1
        obtain ⟨g6, rfl⟩ := own_head hown1 (by omega)
        have hown2 : w4.ownsRow wc.heap.size 4 1 (.slice (some ⟨g6, 0, none⟩) (k + 1) c6) (k + 1) (FL (hs ++ [true])) := by rw [← snoc_boo]; exact hown1
        have HN := Lib.hid ((H.out.alloc _).grow hgrow1 hown2)
        clear hown hsz hown1 hgrow1 hown2 H
        go_wp2_with fail
        go_ret2
        exact ⟨gl, k, c, g6, k + 1, c6, xs, _, rfl, HF.out _ _ _ _ _ _ hm HN.out.st, by omega, own_mono HN.out.bo hle⟩
end Go.Proofs.Ytfdbnolifimnhaa.Draw
