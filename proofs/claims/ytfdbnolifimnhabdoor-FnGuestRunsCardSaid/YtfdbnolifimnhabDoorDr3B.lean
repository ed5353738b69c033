/- What the draws of programs and registers answer. -/
import Derived.Test.YtfdbnolifimnhabDoorDrReg
namespace Go.Proofs.YtfdbnolifimnhabDoor.Draw
open Go Go.RowKit Go.Proofs.YtfdbnolifimnhabDoor.Mem Go.Proofs.YtfdbnolifimnhabDoor.Own Go.Proofs.YtfdbnolifimnhabDoor.L3
set_option linter.unusedVariables false
/-- a program of the call's own -/
def PgmIn (w w' : World) (gl m c : Nat) (xs : List Ins) : Prop := m ≤ 18 ∧ w'.ownsRow w.heap.size 25 4 (.slice (some ⟨gl, 0, none⟩) m c) m (FL xs) ∧ Below w.heap.size w w'
def DrPg (w : World) (e : Ending) (w' : World) : Prop := ∃ (gl m c : Nat) (xs : List Ins), e = .returned (.slice (some ⟨gl, 0, none⟩) m c) ∧ PgmIn w w' gl m c xs
/-- and registers -/
def RegIn (w w' : World) (A1 : Option Addr) (k c1 : Nat) (L : List Int) : Prop := k ≤ 4 ∧ w'.ownsRow w.heap.size 3 1 (.slice A1 k c1) k (I L)
def DrPR (w : World) (e : Ending) (w' : World) : Prop := ∃ (gl m c : Nat) (xs : List Ins) (A1 : Option Addr) (k c1 : Nat) (L : List Int) (p : Int) (zo st : Bool),
  e = .returned (.tuple #[.slice (some ⟨gl, 0, none⟩) m c, .agg #[.slice A1 k c1, .int .i64 p, .bool zo, .bool st]]) ∧ PgmIn w w' gl m c xs ∧ RegIn w w' A1 k c1 L
def DrPRn (w : World) (e : Ending) (w' : World) : Prop := ∃ (gl m c : Nat) (xs : List Ins) (A1 : Option Addr) (k c1 : Nat) (L : List Int) (p : Int) (zo st : Bool) (most : Int),
  e = .returned (.tuple #[.slice (some ⟨gl, 0, none⟩) m c, .agg #[.slice A1 k c1, .int .i64 p, .bool zo, .bool st], .int .i64 most]) ∧ PgmIn w w' gl m c xs ∧ RegIn w w' A1 k c1 L
set_option maxRecDepth 100000 in
set_option maxHeartbeats 1500000 in
theorem drawIsProgram_any (w : World) (A : Option Addr) (n cp : Nat) (zs : List Int) (hz : ∀ z ∈ zs, 0 ≤ z ∧ z ≤ 255) (hr : Reads w w.heap.size 1 A n (zs.map (Value.int .u8))) (hn : n ≤ 1000000) :
    Calls Tryd.prog 63 #[.slice A n cp] w (DrPg w) := by
  have HC := Lib.hid (cur_new w A n cp zs hr)
  have HZ := Lib.hid hz
  clear hr hz
  go_enter Tryd.func63, Tryd.ntmps63
  go_wp2_with fail
  refine (program_any _ w.heap.size w.heap.size A n cp zs 0 HZ.out HC.out (by omega) hn).mono ?_
  rintro e w1 ⟨m, gl, c, t1, xs, rfl, hm, ht1, hl⟩
  have H := Lib.hid hl
  clear hl HC
  go_wp2_with fail
  go_ret
  exact ⟨gl, m, c, xs, rfl, hm, own_mono H.out.own (alloc_le _ _), below_cur (below_more (Below.refl _ _) _) H.out.gr (Nat.le_refl _)⟩
set_option maxRecDepth 100000 in
set_option maxHeartbeats 1500000 in
theorem drawReachedBy_any (w : World) (A : Option Addr) (n cp : Nat) (zs : List Int) (hz : ∀ z ∈ zs, 0 ≤ z ∧ z ≤ 255) (hr : Reads w w.heap.size 1 A n (zs.map (Value.int .u8))) (hn : n ≤ 1000000) :
    Calls Tryd.prog 29 #[.slice A n cp] w (DrPg w) := by
  have HD := Lib.hid (drawIsProgram_any w A n cp zs hz hr hn)
  clear hr hz
  go_enter Tryd.func29, Tryd.ntmps29
  go_wp2_with fail
  refine HD.out.mono ?_
  rintro e w1 ⟨gl, m, c, xs, rfl, h⟩
  have H := Lib.hid h
  clear h HD
  go_wp2_with fail
  go_ret
  exact ⟨gl, m, c, xs, rfl, H.out⟩
/-- where a result's variable is filled: the rows lie behind it -/
structure FlSt (w wr : World) (g : Nat) (z : Array Value) (gl m c : Nat) (xs : List Ins) (A1 : Option Addr) (k c1 : Nat) (L : List Int) : Prop where
  res : Blk wr w.heap.size 40 z
  bel : Below w.heap.size w wr
  pg : wr.ownsRow (w.heap.size + 1) 25 4 (.slice (some ⟨gl, 0, none⟩) m c) m (FL xs)
  rg : wr.ownsRow (w.heap.size + 1) 3 1 (.slice A1 k c1) k (I L)
theorem FlSt.put {w wr : World} {g gl m c k c1 : Nat} {z : Array Value} {xs : List Ins} {A1 : Option Addr} {L : List Int} (h : FlSt w wr g z gl m c xs A1 k c1 L) (j : Nat) (u : Value) : FlSt w (wr.setCell ⟨w.heap.size, j, none⟩ u) g (z.setIfInBounds j u) gl m c xs A1 k c1 L :=
  ⟨h.res.set j u, below_set h.bel (Nat.le_refl _) u, own_set h.pg u (fun e => by have := (h.pg.lt _ e).1; omega), own_set h.rg u (fun e => by have := (h.rg.lt _ e).1; omega)⟩
set_option maxRecDepth 100000 in
set_option maxHeartbeats 1500000 in
theorem drawAreRegisters_any (w : World) (A : Option Addr) (n cp : Nat) (zs : List Int) (hz : ∀ z ∈ zs, 0 ≤ z ∧ z ≤ 255) (hr : Reads w w.heap.size 1 A n (zs.map (Value.int .u8))) (hn : n ≤ 1000000) :
    Calls Tryd.prog 62 #[.slice A n cp] w (DrPR w) := by
  have hr2 := (hr.alloc (Nat.le_refl _) (.cells #[.slice none 0 0, .int .i64 0, .bool false, .bool false] 40)).more (alloc_le w (.cells #[.slice none 0 0, .int .i64 0, .bool false, .bool false] 40))
  have hcn := cur_new _ A n cp zs hr2
  rw [size1] at hcn
  have HC := Lib.hid hcn
  have HZ := Lib.hid hz
  clear hr hr2 hz hcn
  go_enter Tryd.func62, Tryd.ntmps62
  go_wp2_with fail
  refine (program_any _ (w.heap.size + 1) (w.heap.size + 1) A n cp zs 0 HZ.out HC.out (by omega) hn).mono ?_
  rintro e w1 ⟨m, gl, c, t1, xs, rfl, hm, ht1, hl⟩
  have HP := Lib.hid hl
  have HQ := Lib.hid (blk_draw ((Blk.new w #[.slice none 0 0, .int .i64 0, .bool false, .bool false] 40).alloc (.cells #[.slice A n cp, .int .i64 0, .int .u64 0] 67)) hl.gr (by omega))
  have HW := Lib.hid (below_cur (below_more (below_more (Below.refl w.heap.size w) (.cells #[.slice none 0 0, .int .i64 0, .bool false, .bool false] 40)) (.cells #[.slice A n cp, .int .i64 0, .int .u64 0] 67)) hl.gr (by omega))
  clear hl HC
  go_wp2_with fail
  refine (registers_any _ (w.heap.size + 1) (w.heap.size + 1) A n cp zs t1 HZ.out HP.out.cur (by omega) hn (some ⟨gl, 0, none⟩) m c hm).mono ?_
  rintro e w2 ⟨A1, k, c1, t2, L, p, zo, st, rfl, hk, ht2, hc, hg, ho⟩
  have hs1 : w.heap.size + 1 ≤ w1.heap.size := by have h1 := HP.out.gr.size; rw [size1, size1] at h1; omega
  have H : Hid (FlSt w w2 0 #[.slice none 0 0, .int .i64 0, .bool false, .bool false] gl m c xs A1 k c1 L) := Lib.hid ⟨blk_draw HQ.out hg (by omega), below_cur HW.out hg (by omega), own_mono (own_cur HP.out.own hg HP.out.hg) (by rw [size1, size1]; omega), own_mono ho hs1⟩
  clear hc hg ho hs1 HP HQ HW
  have q0 := H.out.res.cell 0 _ rfl
  have f0 := H.out.res.free 0
  have q1 := H.out.res.cell 1 _ rfl
  have f1 := H.out.res.free 1
  have q2 := H.out.res.cell 2 _ rfl
  have f2 := H.out.res.free 2
  have q3 := H.out.res.cell 3 _ rfl
  have f3 := H.out.res.free 3
  go_wp2_with fail
  replace H := Lib.hid ((((H.out.put 0 (.slice A1 k c1)).put 1 (.int .i64 p)).put 2 (.bool zo)).put 3 (.bool st))
  clear q0 f0 q1 f1 q2 f2 q3 f3
  revert H
  generalize (World.setCell (World.setCell (World.setCell (World.setCell _ _ _) _ _) _ _) _ _) = wz
  intro H
  have z0 := H.out.res.cell 0 _ rfl
  have z1 := H.out.res.cell 1 _ rfl
  have z2 := H.out.res.cell 2 _ rfl
  have z3 := H.out.res.cell 3 _ rfl
  exact bodyPost_ret (v := .tuple #[.slice (some ⟨gl, 0, none⟩) m c, .agg #[.slice A1 k c1, .int .i64 p, .bool zo, .bool st]]) (by simp [results, Tryd.results62, go_sem, z0, z1, z2, z3]) rfl ⟨gl, m, c, xs, A1, k, c1, L, p, zo, st, rfl, ⟨hm, own_mono H.out.pg (Nat.le_succ _), H.out.bel⟩, hk, own_mono H.out.rg (Nat.le_succ _)⟩
set_option maxRecDepth 100000 in
set_option maxHeartbeats 1500000 in
theorem drawStepGuest_any (w : World) (A : Option Addr) (n cp : Nat) (zs : List Int) (hz : ∀ z ∈ zs, 0 ≤ z ∧ z ≤ 255) (hr : Reads w w.heap.size 1 A n (zs.map (Value.int .u8))) (hn : n ≤ 1000000) :
    Calls Tryd.prog 27 #[.slice A n cp] w (DrPR w) := by
  have HD := Lib.hid (drawAreRegisters_any (w.alloc (.cells #[.slice none 0 0, .int .i64 0, .bool false, .bool false] 40)) A n cp zs hz ((hr.alloc (Nat.le_refl _) (.cells #[.slice none 0 0, .int .i64 0, .bool false, .bool false] 40)).more (alloc_le w (.cells #[.slice none 0 0, .int .i64 0, .bool false, .bool false] 40))) hn)
  clear hr hz
  go_enter Tryd.func27, Tryd.ntmps27
  go_wp2_with fail
  refine HD.out.mono ?_
  rintro e w1 ⟨gl, m, c, xs, A1, k, c1, L, p, zo, st, rfl, ⟨hm, ho, hb⟩, hk, ho2⟩
  rw [size1] at ho ho2
  have H : Hid (FlSt w w1 0 #[.slice none 0 0, .int .i64 0, .bool false, .bool false] gl m c xs A1 k c1 L) := Lib.hid ⟨Blk.kept hb (Blk.new w #[.slice none 0 0, .int .i64 0, .bool false, .bool false] 40), below_then (below_more (Below.refl w.heap.size w) _) hb, ho, ho2⟩
  clear ho ho2 hb HD
  have q0 := H.out.res.cell 0 _ rfl
  have f0 := H.out.res.free 0
  have q1 := H.out.res.cell 1 _ rfl
  have f1 := H.out.res.free 1
  have q2 := H.out.res.cell 2 _ rfl
  have f2 := H.out.res.free 2
  have q3 := H.out.res.cell 3 _ rfl
  have f3 := H.out.res.free 3
  go_wp2_with fail
  replace H := Lib.hid ((((H.out.put 0 (.slice A1 k c1)).put 1 (.int .i64 p)).put 2 (.bool zo)).put 3 (.bool st))
  clear q0 f0 q1 f1 q2 f2 q3 f3
  revert H
  generalize (World.setCell (World.setCell (World.setCell (World.setCell _ _ _) _ _) _ _) _ _) = wz
  intro H
  have z0 := H.out.res.cell 0 _ rfl
  have z1 := H.out.res.cell 1 _ rfl
  have z2 := H.out.res.cell 2 _ rfl
  have z3 := H.out.res.cell 3 _ rfl
  exact bodyPost_ret (v := .tuple #[.slice (some ⟨gl, 0, none⟩) m c, .agg #[.slice A1 k c1, .int .i64 p, .bool zo, .bool st]]) (by simp [results, Tryd.results27, go_sem, z0, z1, z2, z3]) rfl ⟨gl, m, c, xs, A1, k, c1, L, p, zo, st, rfl, ⟨hm, own_mono H.out.pg (Nat.le_succ _), H.out.bel⟩, hk, own_mono H.out.rg (Nat.le_succ _)⟩
end Go.Proofs.YtfdbnolifimnhabDoor.Draw
