/- What PackInstruction and UnpackInstruction answer, of spec and impl. -/
import Derived.Test.YtfdbnolifimnhabDoorInsI
import Derived.Test.YtfdbnolifimnhabDoorInsS
namespace Go.Proofs.YtfdbnolifimnhabDoor.L3
open Go Go.RowKit Go.Proofs.YtfdbnolifimnhabDoor.Mem Go.Proofs.YtfdbnolifimnhabDoor.Own Go.Proofs.YtfdbnolifimnhabDoor.Bit
def packAns (x : Ins) : Value := if Ok x then .tuple #[.int .i64 (packOf x), .bool true] else .tuple #[.int .i64 0, .bool false]
theorem ok_bounds {x : Ins} (h : Ok x) : (0 ≤ x.op ∧ x.op ≤ 9) ∧ (0 ≤ x.a ∧ x.a ≤ 3) ∧ (0 ≤ x.b ∧ x.b ≤ 3) ∧ (0 ≤ x.n ∧ x.n ≤ 65535) := by
  have h1 := h.1
  have h2 := h.2.1
  have h3 := h.2.2.1
  have h4 := h.2.2.2
  have h5 := cntA_le x.op
  have h6 := cntB_le x.op
  have h7 := mostN_le x.op
  omega
theorem pack_or {x : Ins} (h : Ok x) : bits .or .i64 (bits .or .i64 (bits .or .i64 (x.op * 1048576) (x.a * 262144)) (x.b * 65536)) x.n = packOf x := by
  obtain ⟨h1, h2, h3, h4⟩ := ok_bounds h
  rw [i64_join 20 (x.op * 1048576) (x.a * 262144) (by omega) (by omega) (by omega) (by omega) (by omega) (by omega)]
  rw [i64_join 18 (x.op * 1048576 + x.a * 262144) (x.b * 65536) (by omega) (by omega) (by omega) (by omega) (by omega) (by omega)]
  rw [i64_join 16 (x.op * 1048576 + x.a * 262144 + x.b * 65536) x.n (by omega) (by omega) (by omega) (by omega) (by omega) (by omega)]
  rfl
set_option maxHeartbeats 1000000 in
theorem specPack_any (x : Ins) (w : World) :
    Calls Tryd.prog 9 #[x.val] w fun e w' => e = .returned (packAns x) ∧ Below w.heap.size w w' := by
  obtain ⟨b, hb⟩ : ∃ b, decide (Ok x) = b := ⟨_, rfl⟩
  have HB := Lib.hid hb
  obtain ⟨v, hv⟩ : ∃ v, packAns x = v := ⟨_, rfl⟩
  have HV := Lib.hid hv
  cases b
  · have hx : ¬ Ok x := of_decide_eq_false hb
    have hv2 : v = .tuple #[.int .i64 0, .bool false] := by rw [← hv]; unfold packAns; rw [if_neg hx]
    rw [hv]
    subst hv2
    clear hb hv hx HV
    obtain ⟨op, xa, xb, xn⟩ := x
    show Calls Tryd.prog 9 #[.agg #[.int .i64 op, .int .i64 xa, .int .i64 xb, .int .i64 xn]] w fun e w' => e = .returned (.tuple #[.int .i64 0, .bool false]) ∧ Below w.heap.size w w'
    go_enter Tryd.func9, Tryd.ntmps9
    go_wp2_with fail
    refine (l3One_any ⟨op, xa, xb, xn⟩ _ false HB.out).mono ?_
    rintro e w1 ⟨rfl, hb⟩
    go_wp2_with fail
    go_ret2
    exact ⟨rfl, below_then (below_more (Below.refl _ _) _) hb⟩
  · have hx : Ok x := of_decide_eq_true hb
    have hv2 : v = .tuple #[.int .i64 (packOf x), .bool true] := by rw [← hv]; unfold packAns; rw [if_pos hx]
    rw [hv]
    subst hv2
    obtain ⟨h1, h2, h3, h4⟩ := ok_bounds hx
    have hp := pack_or hx
    clear hb hv hx HV
    obtain ⟨op, xa, xb, xn⟩ := x
    simp only at h1 h2 h3 h4 hp
    obtain ⟨pk, hpk⟩ : ∃ pk, packOf ⟨op, xa, xb, xn⟩ = pk := ⟨_, rfl⟩
    rw [hpk] at hp ⊢
    clear hpk
    show Calls Tryd.prog 9 #[.agg #[.int .i64 op, .int .i64 xa, .int .i64 xb, .int .i64 xn]] w fun e w' => e = .returned (.tuple #[.int .i64 pk, .bool true]) ∧ Below w.heap.size w w'
    go_enter Tryd.func9, Tryd.ntmps9
    go_wp2_with fail
    refine (l3One_any ⟨op, xa, xb, xn⟩ _ true HB.out).mono ?_
    rintro e w1 ⟨rfl, hb⟩
    have hB := Blk.kept hb (Blk.new _ _ _)
    have k0 := hB.cell 0 _ rfl
    have k1 := hB.cell 1 _ rfl
    have k2 := hB.cell 2 _ rfl
    have k3 := hB.cell 3 _ rfl
    clear hB
    go_wp2_with fail
    go_ret2
    exact ⟨rfl, below_then (below_more (Below.refl _ _) _) hb⟩
set_option maxHeartbeats 1000000 in
theorem implPack_any (x : Ins) (w : World) (ho : OpsIs w) :
    Calls Tryd.prog 8 #[x.val] w fun e w' => e = .returned (packAns x) ∧ Below w.heap.size w w' := by
  obtain ⟨b, hb⟩ : ∃ b, decide (Ok x) = b := ⟨_, rfl⟩
  have HB := Lib.hid hb
  have HO := Lib.hid ho
  clear ho
  obtain ⟨v, hv⟩ : ∃ v, packAns x = v := ⟨_, rfl⟩
  have HV := Lib.hid hv
  cases b
  · have hx : ¬ Ok x := of_decide_eq_false hb
    have hv2 : v = .tuple #[.int .i64 0, .bool false] := by rw [← hv]; unfold packAns; rw [if_neg hx]
    rw [hv]
    subst hv2
    clear hb hv hx HV
    obtain ⟨op, xa, xb, xn⟩ := x
    show Calls Tryd.prog 8 #[.agg #[.int .i64 op, .int .i64 xa, .int .i64 xb, .int .i64 xn]] w fun e w' => e = .returned (.tuple #[.int .i64 0, .bool false]) ∧ Below w.heap.size w w'
    go_enter Tryd.func8, Tryd.ntmps8
    go_wp2_with fail
    refine (implIs_any ⟨op, xa, xb, xn⟩ _ (ops_below (below_more (Below.refl _ _) _) HO.out) false HB.out).mono ?_
    rintro e w1 ⟨rfl, hb⟩
    go_wp2_with fail
    go_ret2
    exact ⟨rfl, below_then (below_more (Below.refl _ _) _) hb⟩
  · have hx : Ok x := of_decide_eq_true hb
    have hv2 : v = .tuple #[.int .i64 (packOf x), .bool true] := by rw [← hv]; unfold packAns; rw [if_pos hx]
    rw [hv]
    subst hv2
    obtain ⟨h1, h2, h3, h4⟩ := ok_bounds hx
    have hp : x.op * 1048576 + x.a * 262144 + x.b * 65536 + x.n = packOf x := rfl
    clear hb hv hx HV
    obtain ⟨op, xa, xb, xn⟩ := x
    simp only at h1 h2 h3 h4 hp
    obtain ⟨pk, hpk⟩ : ∃ pk, packOf ⟨op, xa, xb, xn⟩ = pk := ⟨_, rfl⟩
    rw [hpk] at hp ⊢
    clear hpk
    show Calls Tryd.prog 8 #[.agg #[.int .i64 op, .int .i64 xa, .int .i64 xb, .int .i64 xn]] w fun e w' => e = .returned (.tuple #[.int .i64 pk, .bool true]) ∧ Below w.heap.size w w'
    go_enter Tryd.func8, Tryd.ntmps8
    go_wp2_with fail
    refine (implIs_any ⟨op, xa, xb, xn⟩ _ (ops_below (below_more (Below.refl _ _) _) HO.out) true HB.out).mono ?_
    rintro e w1 ⟨rfl, hb⟩
    have hB := Blk.kept hb (Blk.new _ _ _)
    have k0 := hB.cell 0 _ rfl
    have k1 := hB.cell 1 _ rfl
    have k2 := hB.cell 2 _ rfl
    have k3 := hB.cell 3 _ rfl
    clear hB
    go_wp2_with fail
    go_ret2
    exact ⟨rfl, below_then (below_more (Below.refl _ _) _) hb⟩
def unpackAns (n : Int) : Value := if Ok (unpackOf n) then .tuple #[(unpackOf n).val, .bool true] else .tuple #[.agg #[.int .i64 0, .int .i64 0, .int .i64 0, .int .i64 0], .bool false]
set_option maxHeartbeats 1000000 in
theorem implUnpack_any (n : Int) (w : World) (ho : OpsIs w) :
    Calls Tryd.prog 11 #[.int .i64 n] w fun e w' => e = .returned (unpackAns n) ∧ Below w.heap.size w w' := by
  obtain ⟨b, hb⟩ : ∃ b, decide (Ok (unpackOf n)) = b := ⟨_, rfl⟩
  have HB := Lib.hid hb
  have HO := Lib.hid ho
  clear ho
  have HU : Hid (unpackOf n = ⟨n / 1048576, n / 262144 % 4, n / 65536 % 4, n % 65536⟩) := Lib.hid rfl
  have m1 := mask2 (n / 262144)
  have m2 := mask2 (n / 65536)
  have m3 := mask16 n
  have HV : Hid (unpackAns n = if b = true then .tuple #[(unpackOf n).val, .bool true] else .tuple #[.agg #[.int .i64 0, .int .i64 0, .int .i64 0, .int .i64 0], .bool false]) := Lib.hid (by rw [← hb]; unfold unpackAns; simp only [decide_eq_true_eq])
  clear hb
  rw [HV.out]
  obtain ⟨y, hy⟩ : ∃ y, unpackOf n = y := ⟨_, rfl⟩
  rw [hy] at HB HU ⊢
  clear hy HV
  obtain ⟨op, xa, xb, xn⟩ := y
  have hU := HU.out
  simp only [Ins.mk.injEq] at hU
  obtain ⟨e1, e2, e3, e4⟩ := hU
  rw [← e2] at m1
  rw [← e3] at m2
  rw [← e4] at m3
  have e1' := e1.symm
  clear e1 e2 e3 e4 HU
  cases b
  · show Calls Tryd.prog 11 #[.int .i64 n] w fun e w' => e = .returned (.tuple #[.agg #[.int .i64 0, .int .i64 0, .int .i64 0, .int .i64 0], .bool false]) ∧ Below w.heap.size w w'
    go_enter Tryd.func11, Tryd.ntmps11
    go_wp2_with fail
    refine (implIs_any ⟨op, xa, xb, xn⟩ _ (ops_below (below_more (below_more (Below.refl _ _) _) _) HO.out) false HB.out).mono ?_
    rintro e w1 ⟨rfl, hb⟩
    have hN := Blk.kept hb (Blk.new _ _ _)
    rw [show (w.alloc (.cells #[.int .i64 0, .int .i64 0, .int .i64 0, .int .i64 0] 25)).heap.size = w.heap.size + 1 from Array.size_push _] at hN
    have hR := Lib.hid (Blk.kept hb (Blk.alloc (Blk.new _ _ _) _))
    have k0 := hR.out.cell 0 _ rfl
    have f0 := hR.out.free 0
    have k1 := hR.out.cell 1 _ rfl
    have f1 := hR.out.free 1
    have k2 := hR.out.cell 2 _ rfl
    have f2 := hR.out.free 2
    have k3 := hR.out.cell 3 _ rfl
    have f3 := hR.out.free 3
    have n0 := hN.cell 0 _ rfl
    have n1 := hN.cell 1 _ rfl
    have n2 := hN.cell 2 _ rfl
    have n3 := hN.cell 3 _ rfl
    have hW := Lib.hid (below_then (below_more (below_more (Below.refl w.heap.size w) _) _) hb)
    clear hb hN
    go_wp2_with fail
    have hZ := Lib.hid ((((hR.out.set 0 (.int .i64 0)).set 1 (.int .i64 0)).set 2 (.int .i64 0)).set 3 (.int .i64 0))
    have hX := Lib.hid (below_set (below_set (below_set (below_set hW.out (Nat.le_refl _) (.int .i64 0) (j := 0)) (Nat.le_refl _) (.int .i64 0) (j := 1)) (Nat.le_refl _) (.int .i64 0) (j := 2)) (Nat.le_refl _) (.int .i64 0) (j := 3))
    clear k0 k1 k2 k3 f0 f1 f2 f3 n0 n1 n2 n3
    revert hZ hX
    generalize ((((w1.setCell _ _).setCell _ _).setCell _ _).setCell _ _) = wz
    intro hZ hX
    have z0 := hZ.out.cell 0 _ rfl
    have z1 := hZ.out.cell 1 _ rfl
    have z2 := hZ.out.cell 2 _ rfl
    have z3 := hZ.out.cell 3 _ rfl
    exact bodyPost_ret (by simp [results, Tryd.results11, go_sem, z0, z1, z2, z3]) rfl ⟨rfl, hX.out⟩
  · show Calls Tryd.prog 11 #[.int .i64 n] w fun e w' => e = .returned (.tuple #[.agg #[.int .i64 op, .int .i64 xa, .int .i64 xb, .int .i64 xn], .bool true]) ∧ Below w.heap.size w w'
    go_enter Tryd.func11, Tryd.ntmps11
    go_wp2_with fail
    refine (implIs_any ⟨op, xa, xb, xn⟩ _ (ops_below (below_more (below_more (Below.refl _ _) _) _) HO.out) true HB.out).mono ?_
    rintro e w1 ⟨rfl, hb⟩
    have hN := Blk.kept hb (Blk.new _ _ _)
    rw [show (w.alloc (.cells #[.int .i64 0, .int .i64 0, .int .i64 0, .int .i64 0] 25)).heap.size = w.heap.size + 1 from Array.size_push _] at hN
    have hR := Lib.hid (Blk.kept hb (Blk.alloc (Blk.new _ _ _) _))
    have k0 := hR.out.cell 0 _ rfl
    have f0 := hR.out.free 0
    have k1 := hR.out.cell 1 _ rfl
    have f1 := hR.out.free 1
    have k2 := hR.out.cell 2 _ rfl
    have f2 := hR.out.free 2
    have k3 := hR.out.cell 3 _ rfl
    have f3 := hR.out.free 3
    have n0 := hN.cell 0 _ rfl
    have n1 := hN.cell 1 _ rfl
    have n2 := hN.cell 2 _ rfl
    have n3 := hN.cell 3 _ rfl
    have hW := Lib.hid (below_then (below_more (below_more (Below.refl w.heap.size w) _) _) hb)
    clear hb hN
    go_wp2_with fail
    have hZ := Lib.hid ((((hR.out.set 0 (.int .i64 op)).set 1 (.int .i64 xa)).set 2 (.int .i64 xb)).set 3 (.int .i64 xn))
    have hX := Lib.hid (below_set (below_set (below_set (below_set hW.out (Nat.le_refl _) (.int .i64 op) (j := 0)) (Nat.le_refl _) (.int .i64 xa) (j := 1)) (Nat.le_refl _) (.int .i64 xb) (j := 2)) (Nat.le_refl _) (.int .i64 xn) (j := 3))
    clear k0 k1 k2 k3 f0 f1 f2 f3 n0 n1 n2 n3
    revert hZ hX
    generalize ((((w1.setCell _ _).setCell _ _).setCell _ _).setCell _ _) = wz
    intro hZ hX
    have z0 := hZ.out.cell 0 _ rfl
    have z1 := hZ.out.cell 1 _ rfl
    have z2 := hZ.out.cell 2 _ rfl
    have z3 := hZ.out.cell 3 _ rfl
    exact bodyPost_ret (by simp [results, Tryd.results11, go_sem, z0, z1, z2, z3]) rfl ⟨rfl, hX.out⟩
set_option maxHeartbeats 1000000 in
theorem specUnpack_any (n : Int) (w : World) :
    Calls Tryd.prog 13 #[.int .i64 n] w fun e w' => e = .returned (unpackAns n) ∧ Below w.heap.size w w' := by
  by_cases hn : n < 0
  · have hv : unpackAns n = .tuple #[.agg #[.int .i64 0, .int .i64 0, .int .i64 0, .int .i64 0], .bool false] := by
      unfold unpackAns
      rw [if_neg]
      intro h
      have h1 := h.1.1
      simp only [unpackOf] at h1
      omega
    rw [hv]
    clear hv
    go_enter Tryd.func13, Tryd.ntmps13
    go_wp2_with fail
    exact bodyPost_ret (by simp [results, Tryd.results13, go_sem]) rfl ⟨rfl, below_more (Below.refl _ _) _⟩
  have hn0 : 0 ≤ n := by omega
  obtain ⟨b, hb⟩ : ∃ b, decide (Ok (unpackOf n)) = b := ⟨_, rfl⟩
  have HB := Lib.hid hb
  have HU : Hid (unpackOf n = ⟨n / 1048576, n / 262144 % 4, n / 65536 % 4, n % 65536⟩) := Lib.hid rfl
  have m1 := mask2 (n / 262144)
  have m2 := mask2 (n / 65536)
  have m3 := mask16 n
  have HV : Hid (unpackAns n = if b = true then .tuple #[(unpackOf n).val, .bool true] else .tuple #[.agg #[.int .i64 0, .int .i64 0, .int .i64 0, .int .i64 0], .bool false]) := Lib.hid (by rw [← hb]; unfold unpackAns; simp only [decide_eq_true_eq])
  clear hb
  rw [HV.out]
  obtain ⟨y, hy⟩ : ∃ y, unpackOf n = y := ⟨_, rfl⟩
  rw [hy] at HB HU ⊢
  clear hy HV
  obtain ⟨op, xa, xb, xn⟩ := y
  have hU := HU.out
  simp only [Ins.mk.injEq] at hU
  obtain ⟨e1, e2, e3, e4⟩ := hU
  rw [← e2] at m1
  rw [← e3] at m2
  rw [← e4] at m3
  have e1' := e1.symm
  clear e1 e2 e3 e4 HU
  cases b
  · show Calls Tryd.prog 13 #[.int .i64 n] w fun e w' => e = .returned (.tuple #[.agg #[.int .i64 0, .int .i64 0, .int .i64 0, .int .i64 0], .bool false]) ∧ Below w.heap.size w w'
    go_enter Tryd.func13, Tryd.ntmps13
    go_wp2_with fail
    refine (l3One_any ⟨op, xa, xb, xn⟩ _ false HB.out).mono ?_
    rintro e w1 ⟨rfl, hb⟩
    have hN := Blk.kept hb (Blk.new _ _ _)
    rw [show (w.alloc (.cells #[.int .i64 0, .int .i64 0, .int .i64 0, .int .i64 0] 25)).heap.size = w.heap.size + 1 from Array.size_push _] at hN
    have hR := Lib.hid (Blk.kept hb (Blk.alloc (Blk.new _ _ _) _))
    have k0 := hR.out.cell 0 _ rfl
    have f0 := hR.out.free 0
    have k1 := hR.out.cell 1 _ rfl
    have f1 := hR.out.free 1
    have k2 := hR.out.cell 2 _ rfl
    have f2 := hR.out.free 2
    have k3 := hR.out.cell 3 _ rfl
    have f3 := hR.out.free 3
    have n0 := hN.cell 0 _ rfl
    have n1 := hN.cell 1 _ rfl
    have n2 := hN.cell 2 _ rfl
    have n3 := hN.cell 3 _ rfl
    have hW := Lib.hid (below_then (below_more (below_more (Below.refl w.heap.size w) _) _) hb)
    clear hb hN
    go_wp2_with fail
    have hZ := Lib.hid ((((hR.out.set 0 (.int .i64 0)).set 1 (.int .i64 0)).set 2 (.int .i64 0)).set 3 (.int .i64 0))
    have hX := Lib.hid (below_set (below_set (below_set (below_set hW.out (Nat.le_refl _) (.int .i64 0) (j := 0)) (Nat.le_refl _) (.int .i64 0) (j := 1)) (Nat.le_refl _) (.int .i64 0) (j := 2)) (Nat.le_refl _) (.int .i64 0) (j := 3))
    clear k0 k1 k2 k3 f0 f1 f2 f3 n0 n1 n2 n3
    revert hZ hX
    generalize ((((w1.setCell _ _).setCell _ _).setCell _ _).setCell _ _) = wz
    intro hZ hX
    have z0 := hZ.out.cell 0 _ rfl
    have z1 := hZ.out.cell 1 _ rfl
    have z2 := hZ.out.cell 2 _ rfl
    have z3 := hZ.out.cell 3 _ rfl
    exact bodyPost_ret (by simp [results, Tryd.results13, go_sem, z0, z1, z2, z3]) rfl ⟨rfl, hX.out⟩
  · show Calls Tryd.prog 13 #[.int .i64 n] w fun e w' => e = .returned (.tuple #[.agg #[.int .i64 op, .int .i64 xa, .int .i64 xb, .int .i64 xn], .bool true]) ∧ Below w.heap.size w w'
    go_enter Tryd.func13, Tryd.ntmps13
    go_wp2_with fail
    refine (l3One_any ⟨op, xa, xb, xn⟩ _ true HB.out).mono ?_
    rintro e w1 ⟨rfl, hb⟩
    have hN := Blk.kept hb (Blk.new _ _ _)
    rw [show (w.alloc (.cells #[.int .i64 0, .int .i64 0, .int .i64 0, .int .i64 0] 25)).heap.size = w.heap.size + 1 from Array.size_push _] at hN
    have hR := Lib.hid (Blk.kept hb (Blk.alloc (Blk.new _ _ _) _))
    have k0 := hR.out.cell 0 _ rfl
    have f0 := hR.out.free 0
    have k1 := hR.out.cell 1 _ rfl
    have f1 := hR.out.free 1
    have k2 := hR.out.cell 2 _ rfl
    have f2 := hR.out.free 2
    have k3 := hR.out.cell 3 _ rfl
    have f3 := hR.out.free 3
    have n0 := hN.cell 0 _ rfl
    have n1 := hN.cell 1 _ rfl
    have n2 := hN.cell 2 _ rfl
    have n3 := hN.cell 3 _ rfl
    have hW := Lib.hid (below_then (below_more (below_more (Below.refl w.heap.size w) _) _) hb)
    clear hb hN
    go_wp2_with fail
    have hZ := Lib.hid ((((hR.out.set 0 (.int .i64 op)).set 1 (.int .i64 xa)).set 2 (.int .i64 xb)).set 3 (.int .i64 xn))
    have hX := Lib.hid (below_set (below_set (below_set (below_set hW.out (Nat.le_refl _) (.int .i64 op) (j := 0)) (Nat.le_refl _) (.int .i64 xa) (j := 1)) (Nat.le_refl _) (.int .i64 xb) (j := 2)) (Nat.le_refl _) (.int .i64 xn) (j := 3))
    clear k0 k1 k2 k3 f0 f1 f2 f3 n0 n1 n2 n3
    revert hZ hX
    generalize ((((w1.setCell _ _).setCell _ _).setCell _ _).setCell _ _) = wz
    intro hZ hX
    have z0 := hZ.out.cell 0 _ rfl
    have z1 := hZ.out.cell 1 _ rfl
    have z2 := hZ.out.cell 2 _ rfl
    have z3 := hZ.out.cell 3 _ rfl
    exact bodyPost_ret (by simp [results, Tryd.results13, go_sem, z0, z1, z2, z3]) rfl ⟨rfl, hX.out⟩
end Go.Proofs.YtfdbnolifimnhabDoor.L3
