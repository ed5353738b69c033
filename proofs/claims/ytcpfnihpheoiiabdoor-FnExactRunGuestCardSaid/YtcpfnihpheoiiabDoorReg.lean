/- What the laws do with registers: copies, sizes, comparisons, marks. -/
import Derived.Test.YtcpfnihpheoiiabDoorInsL
import Derived.Test.YtcpfnihpheoiiabDoorSzI
namespace Go.Proofs.YtcpfnihpheoiiabDoor.L3
open Go Go.RowKit Go.Proofs.YtcpfnihpheoiiabDoor.Mem Go.Proofs.YtcpfnihpheoiiabDoor.Own
theorem szRegisters_yes (A : Option Addr) (n c : Nat) (p : Int) (z s : Bool) (L : Int) (h : n ≤ L) (w : World) (hL : L ≤ 1048576) :
    Calls Tryd.prog 10 #[.agg #[.slice A n c, .int .i64 p, .bool z, .bool s], .int .i64 L] w fun e w' => e = .returned (.int .i64 (L - n)) ∧ Below w.heap.size w w' := by
  have h0 : 0 ≤ L - n := by omega
  go_enter Tryd.func10, Tryd.ntmps10
  go_wp2_with fail
  refine (szIntS_yes A n c L h _ hL).mono ?_
  rintro e w1 ⟨rfl, hw⟩
  subst hw
  go_wp2_with fail
  go_ret
  exact ⟨rfl, below_more (Below.refl _ _) _⟩
theorem szRegisters_no (A : Option Addr) (n c : Nat) (p : Int) (z s : Bool) (L : Int) (h : L < n) (h0 : 0 ≤ L) (w : World) (hL : L ≤ 1048576) (hn : n ≤ 9223372036854775807) :
    Calls Tryd.prog 10 #[.agg #[.slice A n c, .int .i64 p, .bool z, .bool s], .int .i64 L] w fun e w' => e = .returned (.int .i64 (-1)) ∧ Below w.heap.size w w' := by
  go_enter Tryd.func10, Tryd.ntmps10
  go_wp2_with fail
  refine (szIntS_no A n c L h h0 _ hL hn).mono ?_
  rintro e w1 ⟨rfl, hw⟩
  subst hw
  go_wp2_with fail
  go_ret
  exact ⟨rfl, below_more (Below.refl _ _) _⟩
set_option maxRecDepth 100000 in
set_option maxHeartbeats 2000000 in
theorem toRegisters_any (A : Option Addr) (n c B : Nat) (zs : List Int) (p : Int) (z s : Bool) (w : World) (hr : Reads w B 1 A n (I zs)) (hB : B ≤ w.heap.size) (hn : n ≤ 1048576) :
    Calls Tryd.prog 13 #[.agg #[.slice A n c, .int .i64 p, .bool z, .bool s]] w fun e w' => ∃ g, e = .returned (.agg #[.slice (some ⟨g, 0, none⟩) n n, .int .i64 p, .bool z, .bool s]) ∧ w'.ownsRow w.heap.size 3 1 (.slice (some ⟨g, 0, none⟩) n n) n (I zs) ∧ Below w.heap.size w w' := by
  have hr1 := Lib.hid ((((hr.alloc hB (.cells #[.slice A n c, .int .i64 p, .bool z, .bool s] 25)).alloc (Nat.le_trans hB (by simp)) (.cells #[.slice none 0 0, .int .i64 0, .bool false, .bool false] 28)).alloc (Nat.le_trans hB (by simp; omega)) (.cells #[.slice none 0 0, .int .i64 0, .bool false, .bool false] 28)))
  clear hr
  go_enter Tryd.func13, Tryd.ntmps13
  go_wp2_with fail
  refine (toIntS_any A n c B zs _ hr1.out (Nat.le_trans hB (by simp; omega)) hn).mono ?_
  rintro e w1 ⟨g, rfl, hown, hb⟩
  have h0 := Lib.hid (Blk.kept hb (Blk.alloc (Blk.alloc (Blk.new _ _ _) _) _))
  have h1 := Blk.kept hb (Blk.alloc (Blk.new _ _ _) _)
  have h2 := Blk.kept hb (Blk.new _ _ _)
  rw [size1] at h1
  rw [size1, size1] at h2
  have hg := (hown.lt g rfl).1
  rw [size1, size1, size1] at hg
  have hO := Lib.hid (own_mono hown (b' := w.heap.size) (by rw [size1, size1, size1]; omega))
  have hW := Lib.hid (below_then (below_more (below_more (below_more (Below.refl w.heap.size w) _) _) _) hb)
  have H1 := Lib.hid h1
  have H2 := Lib.hid h2
  clear hb hown hr1 h1 h2
  have k0 := h0.out.cell 0 _ rfl
  have k1 := h0.out.cell 1 _ rfl
  have k2 := h0.out.cell 2 _ rfl
  have k3 := h0.out.cell 3 _ rfl
  have a0 := H1.out.cell 0 _ rfl
  have a1 := H1.out.cell 1 _ rfl
  have a2 := H1.out.cell 2 _ rfl
  have a3 := H1.out.cell 3 _ rfl
  have b0 := H2.out.cell 0 _ rfl
  have b1 := H2.out.cell 1 _ rfl
  have b2 := H2.out.cell 2 _ rfl
  have b3 := H2.out.cell 3 _ rfl
  have fa0 := H1.out.free 0
  have fa1 := H1.out.free 1
  have fa2 := H1.out.free 2
  have fa3 := H1.out.free 3
  have fb0 := H2.out.free 0
  have fb1 := H2.out.free 1
  have fb2 := H2.out.free 2
  have fb3 := H2.out.free 3
  go_wp2_with fail
  have h1' : (Value.slice (some ⟨g, 0, none⟩) n n).ownBlock ≠ some (w.heap.size + 1) := by
    intro e
    injection e with e
    simp only at e
    omega
  have h2' : (Value.slice (some ⟨g, 0, none⟩) n n).ownBlock ≠ some (w.heap.size + 1 + 1) := by
    intro e
    injection e with e
    simp only at e
    omega
  have hZ := Lib.hid (Blk.set (Blk.set (Blk.set (Blk.set (Blk.other (Blk.other (Blk.other (Blk.other H1.out (.slice (some ⟨g, 0, none⟩) n n) (g' := w.heap.size + 1 + 1) (j := 0) (by omega)) (.int .i64 p) (g' := w.heap.size + 1 + 1) (j := 1) (by omega)) (.bool z) (g' := w.heap.size + 1 + 1) (j := 2) (by omega)) (.bool s) (g' := w.heap.size + 1 + 1) (j := 3) (by omega)) 0 (.slice (some ⟨g, 0, none⟩) n n)) 1 (.int .i64 p)) 2 (.bool z)) 3 (.bool s))
  have hX := Lib.hid (below_set (below_set (below_set (below_set (below_set (below_set (below_set (below_set hW.out (g := w.heap.size + 1 + 1) (j := 0) (by omega) (.slice (some ⟨g, 0, none⟩) n n)) (g := w.heap.size + 1 + 1) (j := 1) (by omega) (.int .i64 p)) (g := w.heap.size + 1 + 1) (j := 2) (by omega) (.bool z)) (g := w.heap.size + 1 + 1) (j := 3) (by omega) (.bool s)) (g := w.heap.size + 1) (j := 0) (by omega) (.slice (some ⟨g, 0, none⟩) n n)) (g := w.heap.size + 1) (j := 1) (by omega) (.int .i64 p)) (g := w.heap.size + 1) (j := 2) (by omega) (.bool z)) (g := w.heap.size + 1) (j := 3) (by omega) (.bool s))
  have hY := Lib.hid (own_set (own_set (own_set (own_set (own_set (own_set (own_set (own_set hO.out (.slice (some ⟨g, 0, none⟩) n n) (j := 0) h2') (.int .i64 p) (j := 1) h2') (.bool z) (j := 2) h2') (.bool s) (j := 3) h2') (.slice (some ⟨g, 0, none⟩) n n) (j := 0) h1') (.int .i64 p) (j := 1) h1') (.bool z) (j := 2) h1') (.bool s) (j := 3) h1')
  clear k0 k1 k2 k3 a0 a1 a2 a3 b0 b1 b2 b3 fa0 fa1 fa2 fa3 fb0 fb1 fb2 fb3
  revert hZ hX hY
  generalize ((((((((w1.setCell _ _).setCell _ _).setCell _ _).setCell _ _).setCell _ _).setCell _ _).setCell _ _).setCell _ _) = wz
  intro hZ hX hY
  have z0 := hZ.out.cell 0 _ rfl
  have z1 := hZ.out.cell 1 _ rfl
  have z2 := hZ.out.cell 2 _ rfl
  have z3 := hZ.out.cell 3 _ rfl
  exact bodyPost_ret (by simp [results, Tryd.results13, go_sem, z0, z1, z2, z3]) rfl ⟨g, rfl, hY.out, hX.out⟩
set_option maxRecDepth 100000 in
set_option maxHeartbeats 2000000 in
theorem eqRegisters_step (A A' : Option Addr) (n c c' : Nat) (zs : List Int) (p : Int) (z s : Bool) (w : World) (hn : n ≤ 1048576) (hx : Reads w w.heap.size 1 A n (I zs)) (hy : Reads w w.heap.size 1 A' n (I zs)) :
    Calls Tryd.prog 15 #[.agg #[.slice A n c, .int .i64 p, .bool z, .bool s], .agg #[.slice A' n c', .int .i64 p, .bool z, .bool s]] w fun e w' => e = .returned (.bool true) ∧ Below w.heap.size w w' := by
  obtain ⟨wb, hwb⟩ : ∃ wb, (w.alloc (.cells #[.slice A n c, .int .i64 p, .bool z, .bool s] 28)).alloc (.cells #[.slice A' n c', .int .i64 p, .bool z, .bool s] 28) = wb := ⟨_, rfl⟩
  have hb0 : Below w.heap.size w wb := by rw [← hwb]; exact below_more (below_more (Below.refl _ _) _) _
  have hx1 := Lib.hid ((hx.below hb0).more hb0.size)
  have hy1 := Lib.hid ((hy.below hb0).more hb0.size)
  have hB0 : Hid (Blk wb w.heap.size 28 #[.slice A n c, .int .i64 p, .bool z, .bool s]) := Lib.hid (by rw [← hwb]; exact Blk.alloc (Blk.new _ _ _) _)
  have hB1 : Hid (Blk wb (w.heap.size + 1) 28 #[.slice A' n c', .int .i64 p, .bool z, .bool s]) := Lib.hid (by
    rw [← hwb]
    have h := Blk.new (w.alloc (.cells #[.slice A n c, .int .i64 p, .bool z, .bool s] 28)) #[.slice A' n c', .int .i64 p, .bool z, .bool s] 28
    rwa [size1] at h)
  have HB0 := Lib.hid hb0
  have HWB := Lib.hid hwb
  clear hx hy hb0 hwb
  go_enter Tryd.func15, Tryd.ntmps15
  go_wp2_with fail
  rw [HWB.out]
  clear HWB
  refine (eq_step A A' n c c' zs _ hn hx1.out hy1.out).mono ?_
  rintro e w1 ⟨rfl, hb⟩
  have HB1 := Lib.hid (below_then HB0.out hb)
  have h0 := Blk.kept hb hB0.out
  have h1 := Blk.kept hb hB1.out
  clear hb hB0 hB1 HB0 hx1 hy1
  have k1 := h0.cell 1 _ rfl
  have k2 := h0.cell 2 _ rfl
  have k3 := h0.cell 3 _ rfl
  have l1 := h1.cell 1 _ rfl
  have l2 := h1.cell 2 _ rfl
  have l3 := h1.cell 3 _ rfl
  clear h0 h1
  go_wp2_with fail
  go_ret
  exact ⟨rfl, HB1.out⟩
set_option maxRecDepth 100000 in
set_option maxHeartbeats 2000000 in
theorem markRegisters_step (A : Option Addr) (n c b k0 : Nat) (K : Int) (hK : K = k0) (xs : List Value) (p : Int) (z s : Bool) (w : World) (hn : n ≤ 1048576) (hk1 : k0 ≤ 4294967296) (hown : w.ownsRow b 3 1 (.slice A n c) n xs) :
    Calls Tryd.prog 18 #[.agg #[.slice A n c, .int .i64 p, .bool z, .bool s], .int .i64 K] w fun e w' => e = .returned (.int .i64 (K + n)) ∧ w'.ownsRow b 3 1 (.slice A n c) n (I (upFrom k0 n)) ∧ w.grownBy w' (Value.slice A n c).ownBlock := by
  have h1 := Lib.hid (own_below hown ((Below.refl w.heap.size w).alloc (Nat.le_refl _) (.cells #[.slice A n c, .int .i64 p, .bool z, .bool s] 28)))
  have HK := Lib.hid hK
  clear hown hK
  go_enter Tryd.func18, Tryd.ntmps18
  go_wp2_with fail
  refine (mark_step A n c b k0 K HK.out xs _ hn hk1 h1.out).mono ?_
  rintro e w1 ⟨rfl, hown, hg⟩
  have H1 := Lib.hid hown
  have HG := Lib.hid (grown_trans (World.grownBy_alloc w _ (Value.slice A n c).ownBlock) hg)
  clear h1 hown hg
  go_wp2_with fail
  go_ret
  exact ⟨rfl, H1.out, HG.out⟩
set_option maxRecDepth 100000 in
set_option maxHeartbeats 2000000 in
theorem heldRegisters_step (A : Option Addr) (n c k0 : Nat) (K : Int) (hK : K = k0) (p : Int) (z s : Bool) (w : World) (hn : n ≤ 1048576) (hk1 : k0 ≤ 4294967296) (hr : Reads w w.heap.size 1 A n (I (upFrom k0 n))) :
    Calls Tryd.prog 19 #[.agg #[.slice A n c, .int .i64 p, .bool z, .bool s], .int .i64 K] w fun e w' => e = .returned (.int .i64 (K + n)) ∧ Below w.heap.size w w' := by
  have hb0 := (Below.refl w.heap.size w).alloc (Nat.le_refl _) (.cells #[.slice A n c, .int .i64 p, .bool z, .bool s] 28)
  have h1 := Lib.hid ((hr.below hb0).more hb0.size)
  have h0 : 0 ≤ K + n := by omega
  have HK := Lib.hid hK
  clear hr hb0 hK
  go_enter Tryd.func19, Tryd.ntmps19
  go_wp2_with fail
  refine (held_step A n c k0 K HK.out _ hn hk1 h1.out).mono ?_
  rintro e w1 ⟨rfl, hb⟩
  have HB := Lib.hid (below_then (below_more (Below.refl _ _) _) hb)
  clear h1 hb
  go_wp2_with fail
  go_ret
  exact ⟨rfl, HB.out⟩
end Go.Proofs.YtcpfnihpheoiiabDoor.L3
