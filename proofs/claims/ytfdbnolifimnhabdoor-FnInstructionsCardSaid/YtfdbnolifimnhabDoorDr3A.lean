/- What chapter 3's draws of instructions, their numbers and their texts answer. -/
import Derived.Test.YtfdbnolifimnhabDoorDrIns
import Derived.Test.YtfdbnolifimnhabDoorNew
import Derived.Test.YtfdbnolifimnhabDoorSpoi
import Derived.Test.YtfdbnolifimnhabDoorPack
import Derived.Test.YtfdbnolifimnhabDoorAsmR
import Derived.Test.YtfdbnolifimnhabDoorAsmS
namespace Go.Proofs.YtfdbnolifimnhabDoor.Draw
open Go Go.RowKit Go.Proofs.YtfdbnolifimnhabDoor.Mem Go.Proofs.YtfdbnolifimnhabDoor.Own Go.Proofs.YtfdbnolifimnhabDoor.L3
set_option linter.unusedVariables false
def Ins1 (w : World) (e : Ending) (w' : World) : Prop := ∃ (x0 x1 x2 x3 : Int), e = .returned (.agg #[.int .i64 x0, .int .i64 x1, .int .i64 x2, .int .i64 x3]) ∧ Below w.heap.size w w'
set_option maxRecDepth 100000 in
set_option maxHeartbeats 4000000 in
theorem drawIsIns_any (w : World) (A : Option Addr) (n cp : Nat) (zs : List Int) (hz : ∀ z ∈ zs, 0 ≤ z ∧ z ≤ 255) (hr : Reads w w.heap.size 1 A n (zs.map (Value.int .u8))) (hn : n ≤ 1000000) :
    Calls Tryd.prog 34 #[.slice A n cp] w (Ins1 w) := by
  have hr2 := (hr.alloc (Nat.le_refl _) (.cells #[.int .i64 0, .int .i64 0, .int .i64 0, .int .i64 0] 25)).more (alloc_le w (.cells #[.int .i64 0, .int .i64 0, .int .i64 0, .int .i64 0] 25))
  have hcn := cur_new _ A n cp zs hr2
  rw [size1] at hcn
  have HC := Lib.hid hcn
  have HZ := Lib.hid hz
  clear hr hr2 hz hcn
  go_enter Tryd.func34, Tryd.ntmps34
  go_wp2_with fail
  refine (instruction_any _ (w.heap.size + 1) (w.heap.size + 1) A n cp zs 0 HZ.out HC.out (by omega) hn).mono ?_
  rintro e w1 ⟨x0, x1, x2, x3, rfl, _, hg⟩
  have HQ := Lib.hid (blk_draw ((Blk.new w #[.int .i64 0, .int .i64 0, .int .i64 0, .int .i64 0] 25).alloc (.cells #[.slice A n cp, .int .i64 0, .int .u64 0] 67)) hg (by omega))
  have HW := Lib.hid (below_cur (below_more (below_more (Below.refl w.heap.size w) (.cells #[.int .i64 0, .int .i64 0, .int .i64 0, .int .i64 0] 25)) (.cells #[.slice A n cp, .int .i64 0, .int .u64 0] 67)) hg (by omega))
  clear hg HC
  have q0 := HQ.out.cell 0 _ rfl
  have f0 := HQ.out.free 0
  have q1 := HQ.out.cell 1 _ rfl
  have f1 := HQ.out.free 1
  have q2 := HQ.out.cell 2 _ rfl
  have f2 := HQ.out.free 2
  have q3 := HQ.out.cell 3 _ rfl
  have f3 := HQ.out.free 3
  go_wp2_with fail
  have hZ := Lib.hid ((((HQ.out.set 0 (.int .i64 x0)).set 1 (.int .i64 x1)).set 2 (.int .i64 x2)).set 3 (.int .i64 x3))
  have hX := Lib.hid (below_set (below_set (below_set (below_set HW.out (g := w.heap.size) (j := 0) (Nat.le_refl _) (.int .i64 x0)) (g := w.heap.size) (j := 1) (Nat.le_refl _) (.int .i64 x1)) (g := w.heap.size) (j := 2) (Nat.le_refl _) (.int .i64 x2)) (g := w.heap.size) (j := 3) (Nat.le_refl _) (.int .i64 x3))
  clear q0 f0 q1 f1 q2 f2 q3 f3
  revert hZ hX
  generalize (World.setCell (World.setCell (World.setCell (World.setCell _ _ _) _ _) _ _) _ _) = wz
  intro hZ hX
  have z0 := hZ.out.cell 0 _ rfl
  have z1 := hZ.out.cell 1 _ rfl
  have z2 := hZ.out.cell 2 _ rfl
  have z3 := hZ.out.cell 3 _ rfl
  exact bodyPost_ret (v := .agg #[.int .i64 x0, .int .i64 x1, .int .i64 x2, .int .i64 x3]) (by simp [results, Tryd.results34, go_sem, z0, z1, z2, z3]) rfl ⟨x0, x1, x2, x3, rfl, hX.out⟩
set_option maxRecDepth 100000 in
set_option maxHeartbeats 4000000 in
theorem drawPack_any (w : World) (A : Option Addr) (n cp : Nat) (zs : List Int) (hz : ∀ z ∈ zs, 0 ≤ z ∧ z ≤ 255) (hr : Reads w w.heap.size 1 A n (zs.map (Value.int .u8))) (hn : n ≤ 1000000) :
    Calls Tryd.prog 7 #[.slice A n cp] w (Ins1 w) := by
  have hr2 := (hr.alloc (Nat.le_refl _) (.cells #[.int .i64 0, .int .i64 0, .int .i64 0, .int .i64 0] 25)).more (alloc_le w (.cells #[.int .i64 0, .int .i64 0, .int .i64 0, .int .i64 0] 25))
  have HD := Lib.hid (drawIsIns_any _ A n cp zs hz hr2 hn)
  clear hr hr2 hz
  go_enter Tryd.func7, Tryd.ntmps7
  go_wp2_with fail
  refine HD.out.mono ?_
  rintro e w1 ⟨x0, x1, x2, x3, rfl, hb⟩
  have HQ := Lib.hid (Blk.kept hb (Blk.new w #[.int .i64 0, .int .i64 0, .int .i64 0, .int .i64 0] 25))
  have HW := Lib.hid (below_then (below_more (Below.refl w.heap.size w) _) hb)
  clear hb HD
  have q0 := HQ.out.cell 0 _ rfl
  have f0 := HQ.out.free 0
  have q1 := HQ.out.cell 1 _ rfl
  have f1 := HQ.out.free 1
  have q2 := HQ.out.cell 2 _ rfl
  have f2 := HQ.out.free 2
  have q3 := HQ.out.cell 3 _ rfl
  have f3 := HQ.out.free 3
  go_wp2_with fail
  have hZ := Lib.hid ((((HQ.out.set 0 (.int .i64 x0)).set 1 (.int .i64 x1)).set 2 (.int .i64 x2)).set 3 (.int .i64 x3))
  have hX := Lib.hid (below_set (below_set (below_set (below_set HW.out (g := w.heap.size) (j := 0) (Nat.le_refl _) (.int .i64 x0)) (g := w.heap.size) (j := 1) (Nat.le_refl _) (.int .i64 x1)) (g := w.heap.size) (j := 2) (Nat.le_refl _) (.int .i64 x2)) (g := w.heap.size) (j := 3) (Nat.le_refl _) (.int .i64 x3))
  clear q0 f0 q1 f1 q2 f2 q3 f3
  revert hZ hX
  generalize (World.setCell (World.setCell (World.setCell (World.setCell _ _ _) _ _) _ _) _ _) = wz
  intro hZ hX
  have z0 := hZ.out.cell 0 _ rfl
  have z1 := hZ.out.cell 1 _ rfl
  have z2 := hZ.out.cell 2 _ rfl
  have z3 := hZ.out.cell 3 _ rfl
  exact bodyPost_ret (v := .agg #[.int .i64 x0, .int .i64 x1, .int .i64 x2, .int .i64 x3]) (by simp [results, Tryd.results7, go_sem, z0, z1, z2, z3]) rfl ⟨x0, x1, x2, x3, rfl, hX.out⟩
set_option maxRecDepth 100000 in
set_option maxHeartbeats 4000000 in
theorem drawUnpack_any (w : World) (A : Option Addr) (n cp : Nat) (zs : List Int) (hz : ∀ z ∈ zs, 0 ≤ z ∧ z ≤ 255) (hr : Reads w w.heap.size 1 A n (zs.map (Value.int .u8))) (hn : n ≤ 1000000) :
    Calls Tryd.prog 12 #[.slice A n cp] w fun e w' => (∃ z : Int, e = .returned (.int .i64 z) ∧ (-1 ≤ z ∧ z ≤ 2000000000)) ∧ Below w.heap.size w w' := by
  have HC := Lib.hid (cur_new w A n cp zs hr)
  have HZ := Lib.hid hz
  have HB := Lib.hid (below_more (Below.refl w.heap.size w) (.cells #[.slice A n cp, .int .i64 0, .int .u64 0] 67))
  have hg0 : w.heap.size < (w.alloc (.cells #[.slice A n cp, .int .i64 0, .int .u64 0] 67)).heap.size := by rw [size1]; omega
  clear hr hz
  go_enter Tryd.func12, Tryd.ntmps12
  go_wp2_with fail
  refine (instruction_any _ w.heap.size w.heap.size A n cp zs 0 HZ.out HC.out (by omega) hn).mono ?_
  rintro e w1 ⟨x0, x1, x2, x3, rfl, ⟨t1, ht1, hc⟩, hg⟩
  replace HB := Lib.hid (below_cur HB.out hg (Nat.le_refl _))
  replace HC := Lib.hid hc
  clear hc hg hg0
  obtain ⟨pn, pb, hp, hpn⟩ : ∃ pn pb, packAns ⟨x0, x1, x2, x3⟩ = .tuple #[.int .i64 pn, .bool pb] ∧ (0 ≤ pn ∧ pn ≤ 1000000000) := by
    unfold packAns
    by_cases h : Ok ⟨x0, x1, x2, x3⟩
    · obtain ⟨h1, h2, h3, h4⟩ := ok_bounds h
      rw [if_pos h]
      exact ⟨_, _, rfl, by unfold packOf; simp only at h1 h2 h3 h4 ⊢; omega⟩
    · rw [if_neg h]
      exact ⟨_, _, rfl, by omega⟩
  have hsp : ∀ w, Calls Tryd.prog 9 #[.agg #[.int .i64 x0, .int .i64 x1, .int .i64 x2, .int .i64 x3]] w fun e w' => e = .returned (.tuple #[.int .i64 pn, .bool pb]) ∧ Below w.heap.size w w' := fun w => by rw [← hp]; exact specPack_any ⟨x0, x1, x2, x3⟩ w
  clear hp
  have HSP := Lib.hid hsp
  clear hsp
  go_wp2_with fail
  refine (HSP.out _).mono ?_
  rintro e w2 ⟨rfl, hb⟩
  replace HC := Lib.hid (HC.out.below hb)
  replace HB := Lib.hid (below_then HB.out hb)
  clear hb
  go_wp2_with fail
  refine (among_list _ w.heap.size w.heap.size A n cp zs _ HZ.out HC.out (by omega) hn [0, 0, 0, 1, -1, 65536, 1048576, 16777216] _ rfl 3 8 rfl (by omega) (by omega)).mono ?_
  rintro e w3 ⟨y, rfl, hy, _, hg⟩
  replace HB := Lib.hid (below_cur HB.out hg (Nat.le_refl _))
  clear hg HC
  have hy2 : -1 ≤ y ∧ y ≤ 16777216 := by
    simp only [List.mem_cons, List.not_mem_nil, or_false] at hy
    omega
  have hwp : IntKind.i64.wrap (pn + y) = pn + y := IntWalk.i64_in _ (by omega)
  clear hy
  go_wp2_with fail
  go_ret
  exact ⟨⟨_, rfl, by omega⟩, HB.out⟩
set_option maxRecDepth 100000 in
set_option maxHeartbeats 4000000 in
theorem drawParseAsm_any (w : World) (A : Option Addr) (n cp : Nat) (zs : List Int) (hz : ∀ z ∈ zs, 0 ≤ z ∧ z ≤ 255) (hr : Reads w w.heap.size 1 A n (zs.map (Value.int .u8))) (hn : n ≤ 1000000) :
    Calls Tryd.prog 17 #[.slice A n cp] w fun e w' => (∃ s : ByteArray, e = .returned (.string s) ∧ s.size ≤ 1000) ∧ Below w.heap.size w w' := by
  have HC := Lib.hid (cur_new w A n cp zs hr)
  have HZ := Lib.hid hz
  have HB := Lib.hid (below_more (Below.refl w.heap.size w) (.cells #[.slice A n cp, .int .i64 0, .int .u64 0] 67))
  have hg0 : w.heap.size < (w.alloc (.cells #[.slice A n cp, .int .i64 0, .int .u64 0] 67)).heap.size := by rw [size1]; omega
  clear hr hz
  go_enter Tryd.func17, Tryd.ntmps17
  go_wp2_with fail
  refine (instruction_any _ w.heap.size w.heap.size A n cp zs 0 HZ.out HC.out (by omega) hn).mono ?_
  rintro e w1 ⟨x0, x1, x2, x3, rfl, ⟨t1, ht1, hc⟩, hg⟩
  replace HB := Lib.hid (below_cur HB.out hg (Nat.le_refl _))
  replace HC := Lib.hid hc
  clear hc hg hg0
  obtain ⟨sn, pb, hp, hsn⟩ : ∃ sn pb, asmAns ⟨x0, x1, x2, x3⟩ = .tuple #[.string sn, .bool pb] ∧ sn.size ≤ 20 := by
    unfold asmAns
    by_cases h : Ok ⟨x0, x1, x2, x3⟩
    · rw [if_pos h]
      exact ⟨_, _, rfl, asm_size h⟩
    · rw [if_neg h]
      exact ⟨_, _, rfl, by decide⟩
  have hsp : ∀ w, Calls Tryd.prog 15 #[.agg #[.int .i64 x0, .int .i64 x1, .int .i64 x2, .int .i64 x3]] w fun e w' => e = .returned (.tuple #[.string sn, .bool pb]) ∧ Below w.heap.size w w' := fun w => by rw [← hp]; exact specAsm_any ⟨x0, x1, x2, x3⟩ w
  clear hp
  have HSP := Lib.hid hsp
  clear hsp
  go_wp2_with fail
  refine (HSP.out _).mono ?_
  rintro e w2 ⟨rfl, hb⟩
  replace HC := Lib.hid (HC.out.below hb)
  replace HB := Lib.hid (below_then HB.out hb)
  clear hb
  go_wp2_with fail
  refine (one_any _ w.heap.size w.heap.size A n cp zs _ HZ.out HC.out (by omega) hn 4 (by omega) (by omega)).mono ?_
  rintro e w3 ⟨q, rfl, ⟨t3, ht3, hc⟩, hg⟩
  replace HB := Lib.hid (below_cur HB.out hg (Nat.le_refl _))
  replace HC := Lib.hid hc
  clear hg hc
  cases q with
  | true =>
    go_wp2_with fail
    refine (spoilt_any _ w.heap.size w.heap.size A n cp zs _ HZ.out HC.out (by omega) hn sn ⟨#[48, 32, 114, 52, 97, 116]⟩ (by omega) (by decide) (by decide)).mono ?_
    rintro e w4 ⟨x, rfl, hx, _, hg⟩
    replace HB := Lib.hid (below_cur HB.out hg (Nat.le_refl _))
    clear hg HC
    go_wp2_with fail
    go_ret
    exact ⟨⟨x, rfl, hx⟩, HB.out⟩
  | false =>
    go_wp2_with fail
    go_ret
    exact ⟨⟨sn, rfl, by omega⟩, HB.out⟩
end Go.Proofs.YtfdbnolifimnhabDoor.Draw
